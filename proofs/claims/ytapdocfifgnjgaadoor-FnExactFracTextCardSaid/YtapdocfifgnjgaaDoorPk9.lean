/-
  Boxes of four cells.
  The sum and the order of fractions, in numbers: the reference's way.
-/
import Derived.Test.YtapdocfifgnjgaaDoorFracF
namespace Go.Proofs.YtapdocfifgnjgaaDoor
open Go.RowKit

theorem st4_farF {w : World} {X Y k : Nat} (b0 b1 b2 b3 : Value) (h : X ≠ Y) :
    ((((w.setCell ⟨X, 0, none⟩ b0).setCell ⟨X, 1, none⟩ b1).setCell ⟨X, 2, none⟩ b2).setCell ⟨X, 3, none⟩ b3).cell? ⟨Y, k, none⟩ = w.cell? ⟨Y, k, none⟩ := by
  simp [World.cell?, World.setCell, Array.getElem?_modify, h]
theorem st4_blkF {w : World} {X : Nat} {a0 a1 a2 a3 b0 b1 b2 b3 : Value} {T : TypeId} (h : w.heap[X]? = some (.cells #[a0, a1, a2, a3] T (0, 0))) :
    ((((w.setCell ⟨X, 0, none⟩ b0).setCell ⟨X, 1, none⟩ b1).setCell ⟨X, 2, none⟩ b2).setCell ⟨X, 3, none⟩ b3).heap[X]? = some (.cells #[b0, b1, b2, b3] T (0, 0)) := by
  have h1 := Lib.heap_setCell_same (i := 0) h b0
  have h2 := Lib.heap_setCell_same (i := 1) h1 b1
  have h3 := Lib.heap_setCell_same (i := 2) h2 b2
  have h4 := Lib.heap_setCell_same (i := 3) h3 b3
  rw [h4]
  rfl
theorem st4_blk_farF {w : World} {X Y : Nat} (b0 b1 b2 b3 : Value) (h : X ≠ Y) :
    ((((w.setCell ⟨X, 0, none⟩ b0).setCell ⟨X, 1, none⟩ b1).setCell ⟨X, 2, none⟩ b2).setCell ⟨X, 3, none⟩ b3).heap[Y]? = w.heap[Y]? := by
  simp [World.setCell, Array.getElem?_modify, h]
theorem st4_belowF {W w : World} {X : Nat} (h : Below W.heap.size W w) (hX : W.heap.size ≤ X) (b0 b1 b2 b3 : Value) :
    Below W.heap.size W ((((w.setCell ⟨X, 0, none⟩ b0).setCell ⟨X, 1, none⟩ b1).setCell ⟨X, 2, none⟩ b2).setCell ⟨X, 3, none⟩ b3) :=
  (((h.setCell hX _).setCell hX _).setCell hX _).setCell hX _
end Go.Proofs.YtapdocfifgnjgaaDoor
namespace Go.Proofs.YtapdocfifgnjgaaDoor
open Go.RowKit

/-- Less, equal, greater. -/
def cmpZ (x y : Int) : Int := if x < y then -1 else if y < x then 1 else 0
/-- Whether two fractions can be brought over one denominator. -/
def CrossOk (n0 : Bool) (h0 l0 d0 : Int) (n1 : Bool) (h1 l1 d1 : Int) : Prop := okF n0 h0 l0 d0 = true ∧ okF n1 h1 l1 d1 = true ∧ RoomW (sv n0 (h0 * 18446744073709551616 + l0) * d1) ∧ RoomW (sv n1 (h1 * 18446744073709551616 + l1) * d0)
open Classical in
noncomputable def cmpFE (n0 : Bool) (h0 l0 d0 : Int) (n1 : Bool) (h1 l1 d1 : Int) : Ending :=
  if CrossOk n0 h0 l0 d0 n1 h1 l1 d1 then .returned (.tuple #[.int .i64 (cmpZ (sv n0 (h0 * 18446744073709551616 + l0) * d1) (sv n1 (h1 * 18446744073709551616 + l1) * d0)), .bool true]) else .returned (.tuple #[.int .i64 0, .bool false])
open Classical in
noncomputable def addFE (n0 : Bool) (h0 l0 d0 : Int) (n1 : Bool) (h1 l1 d1 : Int) : Ending :=
  if CrossOk n0 h0 l0 d0 n1 h1 l1 d1 ∧ RoomW (sv n0 (h0 * 18446744073709551616 + l0) * d1 + sv n1 (h1 * 18446744073709551616 + l1) * d0) ∧ d0 * d1 ≤ 1000000 then .returned (.tuple #[fracV (sv n0 (h0 * 18446744073709551616 + l0) * d1 + sv n1 (h1 * 18446744073709551616 + l1) * d0) (d0 * d1), .bool true]) else .returned (.tuple #[.agg #[.bool false, .int .u64 0, .int .u64 0, .int .i64 0], .bool false])
/-- The two ways of two fractions over one denominator, with the parts. -/
theorem cross_parts (n0 : Bool) (h0 l0 d0 : Int) (n1 : Bool) (h1 l1 d1 : Int) :
    (∃ (m0 : Bool) (x0 y0 : Int) (m1 : Bool) (x1 y1 : Int), ((0 ≤ x0 ∧ x0 < 18446744073709551616) ∧ (0 ≤ y0 ∧ y0 < 18446744073709551616) ∧ (0 ≤ x1 ∧ x1 < 18446744073709551616) ∧ (0 ≤ y1 ∧ y1 < 18446744073709551616)) ∧ CrossOk n0 h0 l0 d0 n1 h1 l1 d1 ∧ crossE n0 h0 l0 d0 n1 h1 l1 d1 = .returned (.tuple #[.agg #[.bool m0, .int .u64 x0, .int .u64 y0], .agg #[.bool m1, .int .u64 x1, .int .u64 y1], .bool true]) ∧ wideC (sv n0 (h0 * 18446744073709551616 + l0) * d1) = .agg #[.bool m0, .int .u64 x0, .int .u64 y0] ∧ wideC (sv n1 (h1 * 18446744073709551616 + l1) * d0) = .agg #[.bool m1, .int .u64 x1, .int .u64 y1] ∧ sv m0 (x0 * 18446744073709551616 + y0) = sv n0 (h0 * 18446744073709551616 + l0) * d1 ∧ sv m1 (x1 * 18446744073709551616 + y1) = sv n1 (h1 * 18446744073709551616 + l1) * d0) ∨
    (∃ (m0 : Bool) (x0 y0 : Int) (m1 : Bool) (x1 y1 : Int), ¬ CrossOk n0 h0 l0 d0 n1 h1 l1 d1 ∧ crossE n0 h0 l0 d0 n1 h1 l1 d1 = .returned (.tuple #[.agg #[.bool m0, .int .u64 x0, .int .u64 y0], .agg #[.bool m1, .int .u64 x1, .int .u64 y1], .bool false])) := by
  by_cases hAB : okF n0 h0 l0 d0 = true ∧ okF n1 h1 l1 d1 = true
  · obtain ⟨m0, x0, y0, u0, s0, hX, hXo⟩ := fitC_shape (sv n0 (h0 * 18446744073709551616 + l0) * d1)
    obtain ⟨m1, x1, y1, u1, s1, hY, hYo⟩ := fitC_shape (sv n1 (h1 * 18446744073709551616 + l1) * d0)
    have hc : crossE n0 h0 l0 d0 n1 h1 l1 d1 = .returned (.tuple #[.agg #[.bool m0, .int .u64 x0, .int .u64 y0], .agg #[.bool m1, .int .u64 x1, .int .u64 y1], .bool (fitB (sv n0 (h0 * 18446744073709551616 + l0) * d1) && fitB (sv n1 (h1 * 18446744073709551616 + l1) * d0))]) := by rw [crossE, if_pos hAB, hX, hY]
    cases hx : fitB (sv n0 (h0 * 18446744073709551616 + l0) * d1) with
    | false =>
      rw [hx, Bool.false_and] at hc
      exact Or.inr ⟨m0, x0, y0, m1, x1, y1, fun k => fitB_no hx k.2.2.1, hc⟩
    | true =>
      cases hy : fitB (sv n1 (h1 * 18446744073709551616 + l1) * d0) with
      | false =>
        rw [hx, hy, Bool.and_false] at hc
        exact Or.inr ⟨m0, x0, y0, m1, x1, y1, fun k => fitB_no hy k.2.2.2, hc⟩
      | true =>
        rw [hx, hy, Bool.and_true] at hc
        exact Or.inl ⟨m0, x0, y0, m1, x1, y1, ⟨u0, s0, u1, s1⟩, ⟨hAB.1, hAB.2, fitB_yes hx, fitB_yes hy⟩, hc, (hXo hx).2.2, (hYo hy).2.2, (hXo hx).2.1, (hYo hy).2.1⟩
  · exact Or.inr ⟨false, 0, 0, false, 0, 0, fun k => hAB ⟨k.1, k.2.1⟩, by rw [crossE, if_neg hAB]⟩
theorem den_mul {a b : Int} (a0 : 1 ≤ a) (a1 : a ≤ 1000000) (b0 : 1 ≤ b) (b1 : b ≤ 1000000) : 1 ≤ a * b ∧ a * b ≤ 1000000000000 := by
  have h0 := Int.mul_le_mul a0 b0 (by omega) (by omega)
  have h1 := Int.mul_le_mul a1 b1 (by omega) (by omega)
  omega
/-- THE SUM. -/
theorem specAddFrac (n0 : Bool) (h0 l0 d0 : Int) (n1 : Bool) (h1 l1 d1 : Int) (hp0 : 0 ≤ h0) (hq0 : h0 < 18446744073709551616) (lp0 : 0 ≤ l0) (lq0 : l0 < 18446744073709551616) (dp0 : -9223372036854775808 ≤ d0) (dq0 : d0 ≤ 9223372036854775807) (hp1 : 0 ≤ h1) (hq1 : h1 < 18446744073709551616) (lp1 : 0 ≤ l1) (lq1 : l1 < 18446744073709551616) (dp1 : -9223372036854775808 ≤ d1) (dq1 : d1 ≤ 9223372036854775807) (w : World) :
    Calls Tryd.prog 9 #[.agg #[.bool n0, .int .u64 h0, .int .u64 l0, .int .i64 d0], .agg #[.bool n1, .int .u64 h1, .int .u64 l1, .int .i64 d1]] w fun e w' => e = addFE n0 h0 l0 d0 n1 h1 l1 d1 ∧ Below w.heap.size w w' := by
  rcases cross_parts n0 h0 l0 d0 n1 h1 l1 d1 with ⟨m0, x0, y0, m1, x1, y1, ⟨u0, s0, u1, s1⟩, hk, hc, hX, hY, eX, eY⟩ | ⟨m0, x0, y0, m1, x1, y1, hk, hc⟩
  · have k0 := (okF_yes hk.1).2
    have k1 := (okF_yes hk.2.1).2
    have hp := den_mul k0.1 k0.2 k1.1 k1.2
    obtain ⟨m2, x2, y2, _, _, hZ, hZo⟩ := fitC_shape (sv n0 (h0 * 18446744073709551616 + l0) * d1 + sv n1 (h1 * 18446744073709551616 + l1) * d0)
    have hS : addE m0 x0 y0 m1 x1 y1 = .returned (.tuple #[.agg #[.bool m2, .int .u64 x2, .int .u64 y2], .bool (fitB (sv n0 (h0 * 18446744073709551616 + l0) * d1 + sv n1 (h1 * 18446744073709551616 + l1) * d0))]) := by rw [wideC_addE hk.2.2.1 hk.2.2.2 hX hY, fitW_CB, hZ]
    have hw : IntKind.i64.wrap (d0 * d1) = d0 * d1 := by rw [IntKind.wrap_i64]; omega
    cases hz : fitB (sv n0 (h0 * 18446744073709551616 + l0) * d1 + sv n1 (h1 * 18446744073709551616 + l1) * d0) with
    | false =>
      rw [hz] at hS
      rw [addFE, if_neg (fun k => fitB_no hz k.2.1)]
      exact specAddF_big n0 h0 l0 d0 n1 h1 l1 d1 hp0 hq0 lp0 lq0 dp0 dq0 hp1 hq1 lp1 lq1 dp1 dq1 m0 m1 x0 y0 x1 y1 u0.1 u0.2 s0.1 s0.2 u1.1 u1.2 s1.1 s1.2 (Lib.hid hc) m2 x2 y2 (d0 * d1) (Lib.hid hS) k0.1 k0.2 k1.1 k1.2 rfl hw hp.1 hp.2 w
    | true =>
      rw [hz] at hS
      by_cases hd : d0 * d1 ≤ 1000000
      · rw [addFE, if_pos ⟨hk, fitB_yes hz, hd⟩, fracV_of (hZo hz).2.2]
        exact specAddF_yes n0 h0 l0 d0 n1 h1 l1 d1 hp0 hq0 lp0 lq0 dp0 dq0 hp1 hq1 lp1 lq1 dp1 dq1 m0 m1 x0 y0 x1 y1 u0.1 u0.2 s0.1 s0.2 u1.1 u1.2 s1.1 s1.2 (Lib.hid hc) m2 x2 y2 (d0 * d1) (Lib.hid hS) k0.1 k0.2 k1.1 k1.2 rfl hw hp.1 hp.2 (Lib.hid (okF_mk (hZo hz).1 hp.1 hd)) w
      · rw [addFE, if_neg (fun k => hd k.2.2)]
        exact specAddF_den n0 h0 l0 d0 n1 h1 l1 d1 hp0 hq0 lp0 lq0 dp0 dq0 hp1 hq1 lp1 lq1 dp1 dq1 m0 m1 x0 y0 x1 y1 u0.1 u0.2 s0.1 s0.2 u1.1 u1.2 s1.1 s1.2 (Lib.hid hc) m2 x2 y2 (d0 * d1) (Lib.hid hS) k0.1 k0.2 k1.1 k1.2 rfl hw hp.1 hp.2 (Lib.hid (by rw [okF, (hZo hz).1, decide_eq_false (fun k => hd k.2)]; rfl)) w
  · rw [addFE, if_neg (fun k => hk k.1)]
    exact specAddF_no n0 h0 l0 d0 n1 h1 l1 d1 hp0 hq0 lp0 lq0 dp0 dq0 hp1 hq1 lp1 lq1 dp1 dq1 m0 m1 x0 y0 x1 y1 (Lib.hid hc) w
end Go.Proofs.YtapdocfifgnjgaaDoor
