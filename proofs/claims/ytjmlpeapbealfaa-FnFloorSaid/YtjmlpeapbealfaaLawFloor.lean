
/-
  Chapter 4: the walk of the law on the rest of a division.
-/
import Derived.Test.YtjmlpeapbealfaaLawWide
import Derived.Test.YtjmlpeapbealfaaLawProduct
namespace Go.Proofs.Ytjmlpeapbealfaa
open Go.RowKit

set_option maxRecDepth 100000 in
theorem drawFloorDiv (w : World) (v : Value) (n : Nat) (hb : Bytes w v n) :
    Calls Try.prog 13 #[v] w fun e w' => TwoOut e ∧ Below w.heap.size w w' := by
  go_enter Try.func13, Try.ntmps13
  go_wp2_with fail
  refine (l2Two w v n hb).mono ?_
  rintro e w1 ⟨⟨a, b, ha, hb, rfl⟩, hB1⟩
  go_wp2_with fail
  go_ret2
  exact ⟨⟨a, b, ha, hb, rfl⟩, hB1⟩
theorem scaleE_partsF {a k : Int} {n : Bool} {h l : Int} (ha : RoomW a) (hk : RoomW (a * k)) (e : wideC a = .agg #[.bool n, .int .u64 h, .int .u64 l]) : scaleE n h l k = .returned (.tuple #[wideC (a * k), .bool true]) := by
  obtain ⟨c, d⟩ := wideC_okV ha e
  rw [scaleE, if_pos c, d, fitW_in hk]
theorem subE_parts {x y : Int} (hx : RoomW x) (hy : RoomW y) (hd : RoomW (x - y)) {n m : Bool} {h l k j : Int} (e : wideC x = .agg #[.bool n, .int .u64 h, .int .u64 l]) (f : wideC y = .agg #[.bool m, .int .u64 k, .int .u64 j]) :
    addE n h l (negV m k j) k j = .returned (.tuple #[wideC (x - y), .bool true]) := by
  obtain ⟨a, b⟩ := wideC_okV hx e
  obtain ⟨c, d⟩ := wideC_okV hy f
  have q := wideC_bounds f
  rw [addE, if_pos ⟨a, negV_okV q.1 q.2.1 c⟩, b, negV_sv q.1 q.2.1 c, d, show x + -y = x - y by omega, fitW_in hd]
theorem floor_rest {a b : Int} (hb : b ≠ 0) : (0 < b → 0 ≤ a - floorV a b * b ∧ a - floorV a b * b < b) ∧ (b < 0 → b < a - floorV a b * b ∧ a - floorV a b * b ≤ 0) := by
  unfold floorV
  constructor
  · intro h
    rw [if_pos h]
    have h1 := Int.emod_nonneg a hb
    have h2 := Int.emod_lt_of_pos a h
    have h3 := Int.mul_ediv_add_emod a b
    rw [Int.mul_comm] at h3
    omega
  · intro h
    rw [if_neg (by omega)]
    have h1 := Int.emod_nonneg (-a) (b := -b) (by omega)
    have h2 := Int.emod_lt_of_pos (-a) (b := -b) (by omega)
    have h3 := Int.mul_ediv_add_emod (-a) (-b)
    rw [Int.mul_comm, Int.mul_neg] at h3
    omega

set_option maxRecDepth 100000 in
set_option maxHeartbeats 4000000 in
theorem lawFnFloor (w : World) (v : Value) (n : Nat) (hb : Bytes w v n) :
    Calls Try.prog 3 #[v] w fun e w' => e = .returned (.bool true) ∧ Below w.heap.size w w' := by
  by_cases hbig : 1048576 < n
  · go_enter Try.func3, Try.ntmps3
    go_wp2_with fail
    refine (big_yes w v n hb hbig).mono ?_
    rintro e w1 ⟨rfl, rfl⟩
    go_wp2_with fail
    go_ret
    exact ⟨rfl, Below.refl _ _⟩
  · go_enter Try.func3, Try.ntmps3
    go_wp2_with fail
    refine (big_no w v n hb hbig).mono ?_
    rintro e w1 ⟨rfl, rfl⟩
    go_wp2_with fail
    refine (drawFloorDiv w v n hb).mono ?_
    rintro e w1 ⟨⟨a, c, ⟨a0, a1⟩, ⟨c0, c1⟩, rfl⟩, hB1⟩
    have hBB := hB1
    have HT := Lib.hid hBB
    clear hBB hB1
    clear hb hbig
    by_cases hE0 : c = 0 ∨ ¬ (-9223372036854775808 ≤ floorV a c ∧ floorV a c ≤ 9223372036854775807)
    · have HE : Hid (floorE a c = .returned (.tuple #[.int .i64 0, .bool false])) := Lib.hid (by
        rw [floorE]
        split
        · rfl
        · rename_i hc
          exact fit_out (by rcases hE0 with h | h; exact absurd h hc; exact h))
      go_wp2_with fail
      refine (implFloorDiv a c a0 a1 c0 c1 _).mono ?_
      rintro e w2 ⟨rfl, hB2⟩
      have hBB := hB2
      replace HT := Lib.hid (bt2 HT.out hBB)
      clear hBB hB2
      rw [HE.out]
      go_wp2_with fail
      refine (specFloorDiv a c a0 a1 c0 c1 _).mono ?_
      rintro e w3 ⟨rfl, hB3⟩
      have hBB := hB3
      replace HT := Lib.hid (bt2 HT.out hBB)
      clear hBB hB3
      rw [HE.out]
      go_wp2_with fail
      go_ret
      exact ⟨by first | rfl | simp, HT.out⟩
    · have hc : c ≠ 0 := fun h => hE0 (Or.inl h)
      have hf : -9223372036854775808 ≤ floorV a c ∧ floorV a c ≤ 9223372036854775807 := Classical.byContradiction fun h => hE0 (Or.inr h)
      have hr := floor_rest (a := a) hc
      obtain ⟨q, hq⟩ : ∃ q, floorV a c = q := ⟨_, rfl⟩
      have HE : Hid (floorE a c = .returned (.tuple #[.int .i64 q, .bool true])) := Lib.hid (by rw [floorE, if_neg hc, fit_in hf.1 hf.2, hq])
      rw [hq] at hf hr
      obtain ⟨q0, q1⟩ := hf
      obtain ⟨r, hrr⟩ : ∃ r, a - q * c = r := ⟨_, rfl⟩
      rw [hrr] at hr
      have hmul := room_mul q0 q1 c0 c1
      have hra : RoomW a := by unfold RoomW; omega
      have hrq : RoomW q := by unfold RoomW; omega
      have hrr2 : RoomW (a - q * c) := by rw [hrr]; unfold RoomW; omega
      obtain ⟨n1, h1, l1, hQ⟩ : ∃ (n : Bool) (h l : Int), wideC q = .agg #[.bool n, .int .u64 h, .int .u64 l] := ⟨_, _, _, rfl⟩
      obtain ⟨n2, h2, l2, hM⟩ : ∃ (n : Bool) (h l : Int), wideC (q * c) = .agg #[.bool n, .int .u64 h, .int .u64 l] := ⟨_, _, _, rfl⟩
      obtain ⟨n3, h3, l3, hA⟩ : ∃ (n : Bool) (h l : Int), wideC a = .agg #[.bool n, .int .u64 h, .int .u64 l] := ⟨_, _, _, rfl⟩
      obtain ⟨n4, h4, l4, hR⟩ : ∃ (n : Bool) (h l : Int), wideC r = .agg #[.bool n, .int .u64 h, .int .u64 l] := ⟨_, _, _, rfl⟩
      have p1 := wideC_bounds hQ
      have p1h := p1.2.2.2 hrq
      have p2 := wideC_bounds hM
      have p3 := wideC_bounds hA
      have HS : Hid (scaleE n1 h1 l1 c = .returned (.tuple #[.agg #[.bool n2, .int .u64 h2, .int .u64 l2], .bool true])) := Lib.hid (by rw [scaleE_partsF hrq hmul hQ, hM])
      have HD : Hid (addE n3 h3 l3 (negV n2 h2 l2) h2 l2 = .returned (.tuple #[.agg #[.bool n4, .int .u64 h4, .int .u64 l4], .bool true])) := Lib.hid (by rw [subE_parts hra hmul hrr2 hA hM, hrr, hR])
      have hrf : -9223372036854775808 ≤ r ∧ r ≤ 9223372036854775807 := by omega
      have HI := Lib.hid (fit_in hrf.1 hrf.2)
      have HRm := Lib.hid (show RoomW r by rw [← hrr]; exact hrr2)
      have HQ := Lib.hid hQ
      have HA := Lib.hid hA
      have HR := Lib.hid hR
      clear hE0 hq hmul hra hrq hrr2 hQ hM hA hR hrr
      go_wp2_with fail
      refine (implFloorDiv a c a0 a1 c0 c1 _).mono ?_
      rintro e w2 ⟨rfl, hB2⟩
      have hBB := hB2
      replace HT := Lib.hid (bt2 HT.out hBB)
      clear hBB hB2
      rw [HE.out]
      go_wp2_with fail
      refine (specFloorDiv a c a0 a1 c0 c1 _).mono ?_
      rintro e w3 ⟨rfl, hB3⟩
      have hBB := hB3
      replace HT := Lib.hid (bt2 HT.out hBB)
      clear hBB hB3
      rw [HE.out]
      go_wp2_with fail
      refine (specWideOfW q q0 q1 _).mono ?_
      rintro e w4 ⟨rfl, hB4⟩
      have hBB := hB4
      replace HT := Lib.hid (bt2 HT.out hBB)
      clear hBB hB4
      rw [HQ.out]
      go_wp2_with fail
      refine (specScaleWide n1 h1 l1 c p1.1 p1h p1.2.1 p1.2.2.1 c0 c1 _).mono ?_
      rintro e w5 ⟨rfl, hB5⟩
      have hBB := hB5
      replace HT := Lib.hid (bt2 HT.out hBB)
      clear hBB hB5
      rw [HS.out]
      go_wp2_with fail
      have hbn := box_new w5 (.cells #[.bool n2, .int .u64 h2, .int .u64 l2] 30)
      have hP0 : PairS w w5.heap.size w5.heap.size (fun _ => .bool n2) (fun _ => .bool n2) h2 l2 h2 l2 (w5.alloc (.cells #[.bool n2, .int .u64 h2, .int .u64 l2] 30)) := ⟨cell_blk hbn 0, cell_blk hbn 1, cell_blk hbn 2, cell_blk hbn 0, cell_blk hbn 1, cell_blk hbn 2, fun k => free_blk hbn k, fun k => free_blk hbn k, HT.out.alloc HT.out.size _⟩
      have hge := HT.out.size
      have hD := PairS.drew hP0
      have hD2 := PairS.drew (PairS.alloc hP0 (.cells #[.bool false, .int .u64 0, .int .u64 0] 30))
      clear hP0 hbn
      go_region_held3 (fun w' => w'.cell? ⟨w5.heap.size, 0, none⟩ = some (.bool n2) ∧ w'.cell? ⟨w5.heap.size, 1, none⟩ = some (.int .u64 h2) ∧ w'.cell? ⟨w5.heap.size, 2, none⟩ = some (.int .u64 l2) ∧ w'.cell? ⟨w5.heap.size, 0, none⟩ = some (.bool n2) ∧ w'.cell? ⟨w5.heap.size, 1, none⟩ = some (.int .u64 h2) ∧ w'.cell? ⟨w5.heap.size, 2, none⟩ = some (.int .u64 l2) ∧ (∀ k, w'.frozen? ⟨w5.heap.size, k, none⟩ = false) ∧ (∀ k, w'.frozen? ⟨w5.heap.size, k, none⟩ = false) ∧ Below w.heap.size w w') (first | with_reducible assumption | (with_reducible (refine PairS.alloc (p := .bool n2) (q := .bool n2) ?_ _ <;> assumption)) | with_reducible exact (Pair3S.laid (p := .bool n2) (q := .bool n2) (x := .bool n4) (y := .int .u64 h4) (z := .int .u64 l4) (by assumption) (.bool false) (.int .u64 0) (.int .u64 0) 30).2.2.2 | (with_reducible (refine PairS.far (p := .bool n2) (q := .bool n2) ?_ _ ?_ ?_ ?_ _ _ _ <;> first | assumption | omega)))
        (first | (go_at_call 17; refine (specWideOfW a a0 a1 _).mono ?_; rintro e wA ⟨rfl, hB⟩; have hPwA := PairS.still (keepsC_at w5.heap.size (.bool n2)) (keepsC_at w5.heap.size (.bool n2)) (by with_reducible assumption) hB; have hlwA := PairS.lt hPwA; (first | (have hX := box_kept hB) | (have hX := box_kept (below_of_drew hB); rw [show (w5.alloc (.cells #[.bool n2, .int .u64 h2, .int .u64 l2] 30)).heap.size = w5.heap.size + 1 by simp] at hX) | (have hX := box_still hX hB) | skip); clear hB; rw [HA.out]) | (go_at_call 18; refine (implSubWide n3 h3 l3 n2 h2 l2 p3.1 p2.1 p3.2.1 p3.2.2.1 p2.2.1 p2.2.2.1 _).mono ?_; rintro e wC ⟨rfl, hB⟩; have hPwC := PairS.still (keepsC_at w5.heap.size (.bool n2)) (keepsC_at w5.heap.size (.bool n2)) (by with_reducible assumption) hB; have hlwC := PairS.lt hPwC; (first | (have hX := box_kept hB) | (have hX := box_kept (below_of_drew hB); rw [show (w5.alloc (.cells #[.bool n2, .int .u64 h2, .int .u64 l2] 30)).heap.size = w5.heap.size + 1 by simp] at hX) | (have hX := box_still hX hB) | skip); clear hB; rw [HD.out]; (try (have x0 := cell_blk hX 0; have x1 := cell_blk hX 1; have x2 := cell_blk hX 2; have y0 := free_blk hX 0; have y1 := free_blk hX 1; have y2 := free_blk hX 2))))
      all_goals first
        | (have h3 : Pair3S w w5.heap.size w5.heap.size (.bool n2) (.bool n2) h2 l2 h2 l2 wA.heap.size (.bool n4) (.int .u64 h4) (.int .u64 l4) (((wC.setCell ⟨wA.heap.size, 0, none⟩ (.bool n4)).setCell ⟨wA.heap.size, 1, none⟩ (.int .u64 h4)).setCell ⟨wA.heap.size, 2, none⟩ (.int .u64 l4)) := Pair3S.store hX hPwC (by omega) (by omega) (by omega) _ _ _; clear hPwA hPwC hlwA hlwC hD hD2; (try clear hX x0 x1 x2 y0 y1 y2); revert h3; generalize (((wC.setCell ⟨wA.heap.size, 0, none⟩ (.bool n4)).setCell ⟨wA.heap.size, 1, none⟩ (.int .u64 h4)).setCell ⟨wA.heap.size, 2, none⟩ (.int .u64 l4)) = wf; generalize wA.heap.size = X1; intro h3)
        | (have h3 : Pair3S w w5.heap.size w5.heap.size (.bool n2) (.bool n2) h2 l2 h2 l2 (w5.heap.size + 1) (.bool n4) (.int .u64 h4) (.int .u64 l4) (((wC.setCell ⟨(w5.heap.size + 1), 0, none⟩ (.bool n4)).setCell ⟨(w5.heap.size + 1), 1, none⟩ (.int .u64 h4)).setCell ⟨(w5.heap.size + 1), 2, none⟩ (.int .u64 l4)) := Pair3S.store hX hPwC (by omega) (by omega) (by omega) _ _ _; clear hPwA hPwC hlwA hlwC hD hD2; (try clear hX x0 x1 x2 y0 y1 y2); revert h3; generalize (((wC.setCell ⟨(w5.heap.size + 1), 0, none⟩ (.bool n4)).setCell ⟨(w5.heap.size + 1), 1, none⟩ (.int .u64 h4)).setCell ⟨(w5.heap.size + 1), 2, none⟩ (.int .u64 l4)) = wf; generalize (w5.heap.size + 1) = X1; intro h3)
        | (have h3 : Pair3S w w5.heap.size w5.heap.size (.bool n2) (.bool n2) h2 l2 h2 l2 wC.heap.size (.bool n4) (.int .u64 h4) (.int .u64 l4) (wC.alloc (.cells #[.bool n4, .int .u64 h4, .int .u64 l4] 30)) := Pair3S.made hPwC; clear hPwA hPwC hlwA hlwC hD hD2; (try clear hX x0 x1 x2 y0 y1 y2); revert h3; generalize (wC.alloc (.cells #[.bool n4, .int .u64 h4, .int .u64 l4] 30)) = wf; generalize wC.heap.size = X1; intro h3)
      all_goals obtain ⟨x0, x1, x2, hP⟩ := h3
      all_goals have HZ := Lib.hid hP.2.2.2.2.2.2.2.2
      all_goals clear hP hge HT
      all_goals go_wp2_with fail
      all_goals have cs := implIntOfFit r HRm.out wf
      all_goals rw [HR.out, HI.out] at cs
      all_goals refine cs.mono ?_
      all_goals rintro e w9 ⟨rfl, hB9⟩
      all_goals replace HZ := Lib.hid (bt2 HZ.out hB9)
      all_goals clear cs hB9
      all_goals rcases Int.lt_or_gt_of_ne hc with hneg | hpos
      all_goals have hb := hr.1
      all_goals have hn := hr.2
      all_goals clear hr HE HS HD HI HRm HQ HA HR p1 p1h p2 p3
      all_goals first
        | (have r0 := hn hneg; clear hn hb; obtain ⟨r0, r1⟩ := r0; go_wp2_with fail; go_ret; exact ⟨by first | rfl | simp, HZ.out⟩)
        | (have r0 := hb hpos; clear hn hb; obtain ⟨r0, r1⟩ := r0; go_wp2_with fail; go_ret; exact ⟨by first | rfl | simp, HZ.out⟩)
end Go.Proofs.Ytjmlpeapbealfaa
