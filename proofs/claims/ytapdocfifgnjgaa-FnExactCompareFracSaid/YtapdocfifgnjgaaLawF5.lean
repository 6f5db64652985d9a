
/-
  What the program answers about fractions is what the reference answers.
-/
import Derived.Test.YtapdocfifgnjgaaFracV
import Derived.Test.YtapdocfifgnjgaaDraw3
import Derived.Test.YtapdocfifgnjgaaI5
namespace Go.Proofs.Ytapdocfifgnjgaa
open Go.RowKit

set_option maxRecDepth 100000 in
set_option maxHeartbeats 1000000 in
theorem toFrac (n0 : Bool) (h0 l0 d0 : Int) (w : World) :
    Calls Try.prog 16 #[.agg #[.bool n0, .int .u64 h0, .int .u64 l0, .int .i64 d0]] w fun e w' => e = .returned (.agg #[.bool n0, .int .u64 h0, .int .u64 l0, .int .i64 d0]) ∧ Below w.heap.size w w' := by
  go_enter Try.func16, Try.ntmps16
  go_wp2_with fail
  refine (toWide n0 h0 l0 _).mono ?_
  rintro e w1 ⟨rfl, hB1⟩
  obtain ⟨hA, hR, hO, hBB, _⟩ := box3 hB1
  have HT := Lib.hid hBB
  clear hBB hB1
  have cA0 : w1.cell? ⟨w.heap.size, 0, none⟩ = some (.bool n0) := cell_blk hA 0
  have cA1 : w1.cell? ⟨w.heap.size, 1, none⟩ = some (.int .u64 h0) := cell_blk hA 1
  have cA2 : w1.cell? ⟨w.heap.size, 2, none⟩ = some (.int .u64 l0) := cell_blk hA 2
  have cA3 : w1.cell? ⟨w.heap.size, 3, none⟩ = some (.int .i64 d0) := cell_blk hA 3
  have lA := blkF hA
  have cR0 : w1.cell? ⟨w.heap.size + 1, 0, none⟩ = some (.bool false) := cell_blk hR 0
  have cR1 : w1.cell? ⟨w.heap.size + 1, 1, none⟩ = some (.int .u64 0) := cell_blk hR 1
  have cR2 : w1.cell? ⟨w.heap.size + 1, 2, none⟩ = some (.int .u64 0) := cell_blk hR 2
  have cR3 : w1.cell? ⟨w.heap.size + 1, 3, none⟩ = some (.int .i64 0) := cell_blk hR 3
  have fR := free_blk hR
  have lR := blkF hR
  have cO0 : w1.cell? ⟨w.heap.size + 1 + 1, 0, none⟩ = some (.bool false) := cell_blk hO 0
  have cO1 : w1.cell? ⟨w.heap.size + 1 + 1, 1, none⟩ = some (.int .u64 0) := cell_blk hO 1
  have cO2 : w1.cell? ⟨w.heap.size + 1 + 1, 2, none⟩ = some (.int .u64 0) := cell_blk hO 2
  have cO3 : w1.cell? ⟨w.heap.size + 1 + 1, 3, none⟩ = some (.int .i64 0) := cell_blk hO 3
  have fO := free_blk hO
  have lO := blkF hO
  go_wp2_with fail
  (try simp only [Exit.inBlock, Exit.then])
  refine bodyPost_ret (v := .agg #[.bool n0, .int .u64 h0, .int .u64 l0, .int .i64 d0]) ?_ rfl ⟨rfl, ?_⟩
  · rw [results_cell rfl]
    go_simp
  · repeat' (first | refine Below.setCell ?_ (by simp <;> omega) _ | exact HT.out)
set_option maxRecDepth 100000 in
set_option maxHeartbeats 1000000 in
theorem eqFrac_same (n0 : Bool) (h0 l0 d0 : Int) (w : World) :
    Calls Try.prog 19 #[.agg #[.bool n0, .int .u64 h0, .int .u64 l0, .int .i64 d0], .agg #[.bool n0, .int .u64 h0, .int .u64 l0, .int .i64 d0]] w fun e w' => e = .returned (.bool true) ∧ Below w.heap.size w w' := by
  go_enter Try.func19, Try.ntmps19
  go_wp2_with fail
  refine (eqWide_same n0 h0 l0 _).mono ?_
  rintro e w1 ⟨rfl, hB1⟩
  obtain ⟨hA, hB, hBB, _⟩ := box2 hB1
  have HT := Lib.hid hBB
  clear hBB hB1
  have cA0 : w1.cell? ⟨w.heap.size, 0, none⟩ = some (.bool n0) := cell_blk hA 0
  have cA1 : w1.cell? ⟨w.heap.size, 1, none⟩ = some (.int .u64 h0) := cell_blk hA 1
  have cA2 : w1.cell? ⟨w.heap.size, 2, none⟩ = some (.int .u64 l0) := cell_blk hA 2
  have cA3 : w1.cell? ⟨w.heap.size, 3, none⟩ = some (.int .i64 d0) := cell_blk hA 3
  have lA := blkF hA
  have cB0 : w1.cell? ⟨w.heap.size + 1, 0, none⟩ = some (.bool n0) := cell_blk hB 0
  have cB1 : w1.cell? ⟨w.heap.size + 1, 1, none⟩ = some (.int .u64 h0) := cell_blk hB 1
  have cB2 : w1.cell? ⟨w.heap.size + 1, 2, none⟩ = some (.int .u64 l0) := cell_blk hB 2
  have cB3 : w1.cell? ⟨w.heap.size + 1, 3, none⟩ = some (.int .i64 d0) := cell_blk hB 3
  have lB := blkF hB
  go_wp2_with fail
  go_ret
  exact ⟨rfl, HT.out⟩
set_option maxRecDepth 100000 in
set_option maxHeartbeats 1000000 in
theorem lawExFracOk (n0 : Bool) (h0 l0 d0 : Int) (hp0 : 0 ≤ h0) (hq0 : h0 < 18446744073709551616) (lp0 : 0 ≤ l0) (lq0 : l0 < 18446744073709551616) (dp0 : -9223372036854775808 ≤ d0) (dq0 : d0 ≤ 9223372036854775807) (w : World) :
    Calls Try.prog 4 #[.agg #[.bool n0, .int .u64 h0, .int .u64 l0, .int .i64 d0]] w fun e w' => e = .returned (.bool true) ∧ Below w.heap.size w w' := by
  go_enter Try.func4, Try.ntmps4
  go_wp2_with fail
  refine (toFrac n0 h0 l0 d0 _).mono ?_
  rintro e w1 ⟨rfl, hB1⟩
  have hA := box_kept hB1
  have HT := Lib.hid (box_below hB1)
  clear hB1
  go_wp2_with fail
  refine (specFracOk n0 h0 l0 d0 _).mono ?_
  rintro e w2 ⟨rfl, hB2⟩
  replace hA := box_still hA hB2
  replace HT := Lib.hid (bt2 HT.out hB2)
  clear hB2
  have cA0 : w2.cell? ⟨w.heap.size, 0, none⟩ = some (.bool n0) := cell_blk hA 0
  have cA1 : w2.cell? ⟨w.heap.size, 1, none⟩ = some (.int .u64 h0) := cell_blk hA 1
  have cA2 : w2.cell? ⟨w.heap.size, 2, none⟩ = some (.int .u64 l0) := cell_blk hA 2
  have cA3 : w2.cell? ⟨w.heap.size, 3, none⟩ = some (.int .i64 d0) := cell_blk hA 3
  have lA := blkF hA
  go_wp2_with fail
  refine (toFrac n0 h0 l0 d0 _).mono ?_
  rintro e w3 ⟨rfl, hB3⟩
  replace HT := Lib.hid (bt2 HT.out hB3)
  clear hB3
  go_wp2_with fail
  refine (implFracOk n0 h0 l0 d0 hp0 hq0 lp0 lq0 dp0 dq0 _).mono ?_
  rintro e w4 ⟨rfl, hB4⟩
  replace HT := Lib.hid (bt2 HT.out hB4)
  clear hB4
  go_wp2_with fail
  all_goals first
    | (go_ret; exact ⟨rfl, HT.out⟩)
    | (exfalso; simp_all; done)
theorem sqE_shape (g d : Int) : ∃ (n : Bool) (h l k : Int) (b : Bool), sqE g d = .returned (.tuple #[.agg #[.bool n, .int .u64 h, .int .u64 l, .int .i64 k], .bool b]) := by
  rw [sqE]
  split
  · exact ⟨_, _, _, _, _, rfl⟩
  · exact ⟨false, 0, 0, 0, false, rfl⟩
set_option maxRecDepth 100000 in
set_option maxHeartbeats 1000000 in
theorem lawExSquareOver (g d : Int) (g0 : -9223372036854775808 ≤ g) (g1 : g ≤ 9223372036854775807) (d0 : -9223372036854775808 ≤ d) (d1 : d ≤ 9223372036854775807) (w : World) :
    Calls Try.prog 5 #[.int .i64 g, .int .i64 d] w fun e w' => e = .returned (.bool true) ∧ Below w.heap.size w w' := by
  obtain ⟨n, h, l, k, b, hE⟩ := sqE_shape g d
  have HE := Lib.hid hE
  clear hE
  go_enter Try.func5, Try.ntmps5
  go_wp2_with fail
  refine (specSquareOver g d g0 g1 _).mono ?_
  rintro e w1 ⟨rfl, hB1⟩
  rw [HE.out]
  have HT := Lib.hid hB1
  clear hB1
  go_wp2_with fail
  refine (implSquareOver g d g0 g1 d0 d1 _).mono ?_
  rintro e w2 ⟨rfl, hB2⟩
  rw [HE.out]
  have hX := box_kept hB2
  have hBB := box_below hB2
  replace HT := Lib.hid (bt2 HT.out hBB)
  clear hB2 hBB
  have cX0 : w2.cell? ⟨w1.heap.size, 0, none⟩ = some (.bool n) := cell_blk hX 0
  have cX1 : w2.cell? ⟨w1.heap.size, 1, none⟩ = some (.int .u64 h) := cell_blk hX 1
  have cX2 : w2.cell? ⟨w1.heap.size, 2, none⟩ = some (.int .u64 l) := cell_blk hX 2
  have cX3 : w2.cell? ⟨w1.heap.size, 3, none⟩ = some (.int .i64 k) := cell_blk hX 3
  have lX := blkF hX
  go_wp2_with fail
  refine (eqFrac_same n h l k _).mono ?_
  rintro e w3 ⟨rfl, hB3⟩
  replace HT := Lib.hid (bt2 HT.out (box_below hB3))
  clear hB3
  go_wp2_with fail
  all_goals first
    | (go_ret; exact ⟨rfl, HT.out⟩)
    | (exfalso; simp_all; done)
/-- Two boxes of fractions. -/
abbrev PairF (W : World) (A B : Nat) (n0 : Bool) (h0 l0 d0 : Int) (n1 : Bool) (h1 l1 d1 : Int) (w' : World) : Prop := w'.cell? ⟨A, 0, none⟩ = some (.bool n0) ∧ w'.cell? ⟨A, 1, none⟩ = some (.int .u64 h0) ∧ w'.cell? ⟨A, 2, none⟩ = some (.int .u64 l0) ∧ w'.cell? ⟨A, 3, none⟩ = some (.int .i64 d0) ∧ w'.cell? ⟨B, 0, none⟩ = some (.bool n1) ∧ w'.cell? ⟨B, 1, none⟩ = some (.int .u64 h1) ∧ w'.cell? ⟨B, 2, none⟩ = some (.int .u64 l1) ∧ w'.cell? ⟨B, 3, none⟩ = some (.int .i64 d1) ∧ Below W.heap.size W w'
theorem PairF.still {W : World} {A B : Nat} {n0 : Bool} {h0 l0 d0 : Int} {n1 : Bool} {h1 l1 d1 : Int} {wr w' : World} (h : PairF W A B n0 h0 l0 d0 n1 h1 l1 d1 wr) (hB : Below wr.heap.size wr w') : PairF W A B n0 h0 l0 d0 n1 h1 l1 d1 w' :=
  ⟨below_cell h.1 hB, below_cell h.2.1 hB, below_cell h.2.2.1 hB, below_cell h.2.2.2.1 hB, below_cell h.2.2.2.2.1 hB, below_cell h.2.2.2.2.2.1 hB, below_cell h.2.2.2.2.2.2.1 hB, below_cell h.2.2.2.2.2.2.2.1 hB, bt2 h.2.2.2.2.2.2.2.2 hB⟩
theorem PairF.call {f : FuncId} {args : Array Value} {W : World} {A B : Nat} {n0 : Bool} {h0 l0 d0 : Int} {n1 : Bool} {h1 l1 d1 : Int} {wr : World} {E : Ending} (h : Calls Try.prog f args wr fun e w' => e = E ∧ Below wr.heap.size wr w') (hS : PairF W A B n0 h0 l0 d0 n1 h1 l1 d1 wr) :
    Calls Try.prog f args wr fun e w' => e = E ∧ PairF W A B n0 h0 l0 d0 n1 h1 l1 d1 w' := h.mono fun _ _ k => ⟨k.1, hS.still k.2⟩
theorem PairF.drew {W : World} {A B : Nat} {n0 : Bool} {h0 l0 d0 : Int} {n1 : Bool} {h1 l1 d1 : Int} {wr : World} (h : PairF W A B n0 h0 l0 d0 n1 h1 l1 d1 wr) : PairF W A B n0 h0 l0 d0 n1 h1 l1 d1 wr.drew :=
  ⟨h.1, h.2.1, h.2.2.1, h.2.2.2.1, h.2.2.2.2.1, h.2.2.2.2.2.1, h.2.2.2.2.2.2.1, h.2.2.2.2.2.2.2.1, Below.drew h.2.2.2.2.2.2.2.2⟩
theorem PairF.start (w : World) (n0 : Bool) (h0 l0 d0 : Int) (n1 : Bool) (h1 l1 d1 : Int) (T : TypeId) : PairF w w.heap.size (w.heap.size + 1) n0 h0 l0 d0 n1 h1 l1 d1 ((w.alloc (.cells #[.bool n0, .int .u64 h0, .int .u64 l0, .int .i64 d0] T)).alloc (.cells #[.bool n1, .int .u64 h1, .int .u64 l1, .int .i64 d1] T)) := by
  obtain ⟨hA, hB, hBB, _⟩ := box2 (w := w) (a := #[.bool n0, .int .u64 h0, .int .u64 l0, .int .i64 d0]) (b := #[.bool n1, .int .u64 h1, .int .u64 l1, .int .i64 d1]) (T := T) (U := T) (Below.refl _ _)
  exact ⟨cell_blk hA 0, cell_blk hA 1, cell_blk hA 2, cell_blk hA 3, cell_blk hB 0, cell_blk hB 1, cell_blk hB 2, cell_blk hB 3, hBB⟩
theorem cmpFE_shape (n0 : Bool) (h0 l0 d0 : Int) (n1 : Bool) (h1 l1 d1 : Int) : ∃ (x : Int) (b : Bool), cmpFE n0 h0 l0 d0 n1 h1 l1 d1 = .returned (.tuple #[.int .i64 x, .bool b]) := by
  rw [cmpFE]
  split
  · exact ⟨_, _, rfl⟩
  · exact ⟨0, false, rfl⟩
set_option maxRecDepth 100000 in
set_option maxHeartbeats 1000000 in
theorem lawExCompareFrac (n0 : Bool) (h0 l0 d0 : Int) (n1 : Bool) (h1 l1 d1 : Int) (hp0 : 0 ≤ h0) (hq0 : h0 < 18446744073709551616) (lp0 : 0 ≤ l0) (lq0 : l0 < 18446744073709551616) (dp0 : -9223372036854775808 ≤ d0) (dq0 : d0 ≤ 9223372036854775807) (hp1 : 0 ≤ h1) (hq1 : h1 < 18446744073709551616) (lp1 : 0 ≤ l1) (lq1 : l1 < 18446744073709551616) (dp1 : -9223372036854775808 ≤ d1) (dq1 : d1 ≤ 9223372036854775807) (w : World) :
    Calls Try.prog 7 #[.agg #[.bool n0, .int .u64 h0, .int .u64 l0, .int .i64 d0], .agg #[.bool n1, .int .u64 h1, .int .u64 l1, .int .i64 d1]] w fun e w' => e = .returned (.bool true) ∧ Below w.heap.size w w' := by
  obtain ⟨x, b, hE⟩ := cmpFE_shape n0 h0 l0 d0 n1 h1 l1 d1
  have HE := Lib.hid hE
  clear hE
  go_enter Try.func7, Try.ntmps7
  go_wp2_with fail
  have hD := (PairF.start w n0 h0 l0 d0 n1 h1 l1 d1 39).drew
  go_region_held3 (fun w' => w'.cell? ⟨w.heap.size, 0, none⟩ = some (.bool n0) ∧ w'.cell? ⟨w.heap.size, 1, none⟩ = some (.int .u64 h0) ∧ w'.cell? ⟨w.heap.size, 2, none⟩ = some (.int .u64 l0) ∧ w'.cell? ⟨w.heap.size, 3, none⟩ = some (.int .i64 d0) ∧ w'.cell? ⟨(w.heap.size + 1), 0, none⟩ = some (.bool n1) ∧ w'.cell? ⟨(w.heap.size + 1), 1, none⟩ = some (.int .u64 h1) ∧ w'.cell? ⟨(w.heap.size + 1), 2, none⟩ = some (.int .u64 l1) ∧ w'.cell? ⟨(w.heap.size + 1), 3, none⟩ = some (.int .i64 d1) ∧ Below w.heap.size w w') (with_reducible assumption)
    (first | (go_at_call 16; refine (PairF.call (W := w) (A := w.heap.size) (B := w.heap.size + 1) (n0 := n0) (h0 := h0) (l0 := l0) (d0 := d0) (n1 := n1) (h1 := h1) (l1 := l1) (d1 := d1) (toFrac _ _ _ _ _) ?_).mono ?_; (with_reducible assumption); rintro e w6 ⟨rfl, hP⟩) | (go_at_call 11; refine (PairF.call (W := w) (A := w.heap.size) (B := w.heap.size + 1) (n0 := n0) (h0 := h0) (l0 := l0) (d0 := d0) (n1 := n1) (h1 := h1) (l1 := l1) (d1 := d1) (specCompareFrac n0 h0 l0 d0 n1 h1 l1 d1 hp0 hq0 lp0 lq0 dp0 dq0 hp1 hq1 lp1 lq1 dp1 dq1 _) ?_).mono ?_; (with_reducible assumption); rintro e w7 ⟨rfl, hP⟩; rw [HE.out]))
  clear hD
  go_wp2_with fail
  have hD := PairF.drew hP
  clear hP
  go_region_held3 (fun w' => w'.cell? ⟨w.heap.size, 0, none⟩ = some (.bool n0) ∧ w'.cell? ⟨w.heap.size, 1, none⟩ = some (.int .u64 h0) ∧ w'.cell? ⟨w.heap.size, 2, none⟩ = some (.int .u64 l0) ∧ w'.cell? ⟨w.heap.size, 3, none⟩ = some (.int .i64 d0) ∧ w'.cell? ⟨(w.heap.size + 1), 0, none⟩ = some (.bool n1) ∧ w'.cell? ⟨(w.heap.size + 1), 1, none⟩ = some (.int .u64 h1) ∧ w'.cell? ⟨(w.heap.size + 1), 2, none⟩ = some (.int .u64 l1) ∧ w'.cell? ⟨(w.heap.size + 1), 3, none⟩ = some (.int .i64 d1) ∧ Below w.heap.size w w') (with_reducible assumption)
    (first | (go_at_call 16; refine (PairF.call (W := w) (A := w.heap.size) (B := w.heap.size + 1) (n0 := n0) (h0 := h0) (l0 := l0) (d0 := d0) (n1 := n1) (h1 := h1) (l1 := l1) (d1 := d1) (toFrac _ _ _ _ _) ?_).mono ?_; (with_reducible assumption); rintro e w8 ⟨rfl, hP⟩) | (go_at_call 10; refine (PairF.call (W := w) (A := w.heap.size) (B := w.heap.size + 1) (n0 := n0) (h0 := h0) (l0 := l0) (d0 := d0) (n1 := n1) (h1 := h1) (l1 := l1) (d1 := d1) (implCompareFrac n0 h0 l0 d0 n1 h1 l1 d1 hp0 hq0 lp0 lq0 dp0 dq0 hp1 hq1 lp1 lq1 dp1 dq1 _) ?_).mono ?_; (with_reducible assumption); rintro e w9 ⟨rfl, hP⟩; rw [HE.out]))
  go_wp2_with fail
  all_goals first
    | (go_ret; exact ⟨by first | rfl | simp, hP.2.2.2.2.2.2.2.2⟩)
    | (exfalso; simp_all; done)
end Go.Proofs.Ytapdocfifgnjgaa
