/-
  What the reference answers for two tables: whether they are the same; and for a column.
-/
import Derived.Test.YticeagjonfifbaaTabQ
namespace Go.Proofs.Yticeagjonfifbaa
open Go.RowKit

theorem ssRow_one {w : World} {v : Value} {L : List (List UInt8)} (h : StrRow w v L) (n : Nat) (hc : w.cell? ⟨n, 0, none⟩ = some v) : SSRow w (.slice (some ⟨n, 0, none⟩) 1 1) [L] := by
  refine Or.inr ⟨n, 0, 1, rfl, by simp, by simp, fun j row hj => ?_⟩
  have hj0 : j = 0 := by
    have := (List.getElem?_eq_some_iff.1 hj).1
    simpa using this
  subst hj0
  obtain rfl : L = row := by simpa using hj
  exact ⟨v, hc, h⟩

set_option maxRecDepth 100000 in
theorem specTexts (w : World) (v1 v2 : Value) (L1 L2 : List (List UInt8)) (h1 : StrRow w v1 L1) (h2 : StrRow w v2 L2) :
    Calls Try.prog 49 #[v1, v2] w fun e w' => e = .returned (.bool (sameB [L1] [L2])) ∧ Below w.heap.size w w' := by
  obtain ⟨a1, c1, rfl, _⟩ := sRow_form h1
  obtain ⟨a2, c2, rfl, _⟩ := sRow_form h2
  have hA := bl_al w (.cells #[.slice a1 L1.length c1] 24)
  have hA2 := bt hA (bl_al _ (.cells #[.slice a2 L2.length c2] 24))
  have x1 := cell_blk (blk_al (alloc_blk w #[.slice a1 L1.length c1] 24) (.cells #[.slice a2 L2.length c2] 24)) 0
  have x2 := cell_blk (alloc_blk (w.alloc (.cells #[.slice a1 L1.length c1] 24)) #[.slice a2 L2.length c2] 24) 0
  rw [sz_alloc] at x2
  have k1 := ssRow_one (h1.below hA2) _ x1
  have k2 := ssRow_one (h2.below hA2) _ x2
  clear x1 x2 h1 h2
  go_enter Try.func49, Try.ntmps49
  go_wp2_with fail
  refine (specSameRows _ _ _ [L1] [L2] k1 k2).mono ?_
  rintro e w1 ⟨rfl, q, rfl⟩
  go_wp2_with fail
  go_ret
  exact ⟨rfl, below_drewN2 hA2 q⟩

/-- Whether two tables are the same. -/
def sameT (A B : Tab) : Bool := sameB [A.ns] [B.ns] && decide (A.y = B.y) && sameG9 A.rs B.rs && sameI9 A.ys B.ys
theorem sameT_iff {A B : Tab} : sameT A B = true ↔ A = B := by
  constructor
  · intro h
    simp only [sameT, sameB, sameG9, sameI9, Bool.and_eq_true, decide_eq_true_eq, List.cons.injEq, and_true] at h
    cases A
    cases B
    simp_all
  · rintro rfl
    simp [sameT, sameB, sameG9, sameI9]

set_option maxRecDepth 100000 in
set_option maxHeartbeats 2000000 in
theorem specSameTable (A B : Tab) (u1 u2 u3 v1 v2 v3 : Value) (w : World) (h1 : TabRow w A u1 u2 u3) (h2 : TabRow w B v1 v2 v3) :
    Calls Try.prog 20 #[.agg #[u1, .string ⟨A.y.toArray⟩, u2, u3], .agg #[v1, .string ⟨B.y.toArray⟩, v2, v3]] w fun e w' => e = .returned (.bool (sameT A B)) ∧ Below w.heap.size w w' := by
  obtain ⟨p1, p2, p3⟩ := h1
  obtain ⟨q1, q2, q3⟩ := h2
  obtain ⟨a1, c1, rfl, _⟩ := sRow_form p1
  obtain ⟨a2, c2, rfl, _⟩ := iiRow_form p2
  obtain ⟨a3, c3, rfl, _⟩ := intRow_form p3
  obtain ⟨b1, d1, rfl, _⟩ := sRow_form q1
  obtain ⟨b2, d2, rfl, _⟩ := iiRow_form q2
  obtain ⟨b3, d3, rfl, _⟩ := intRow_form q3
  have hA := bl_al w (.cells #[.slice a1 A.ns.length c1, .string ⟨A.y.toArray⟩, .slice a2 A.rs.length c2, .slice a3 A.ys.length c3] 28)
  have hA2 := bt hA (bl_al _ (.cells #[.slice b1 B.ns.length d1, .string ⟨B.y.toArray⟩, .slice b2 B.rs.length d2, .slice b3 B.ys.length d3] 28))
  have x1 := blk_al (alloc_blk w #[.slice a1 A.ns.length c1, .string ⟨A.y.toArray⟩, .slice a2 A.rs.length c2, .slice a3 A.ys.length c3] 28) (.cells #[.slice b1 B.ns.length d1, .string ⟨B.y.toArray⟩, .slice b2 B.rs.length d2, .slice b3 B.ys.length d3] 28)
  have x2 := alloc_blk (w.alloc (.cells #[.slice a1 A.ns.length c1, .string ⟨A.y.toArray⟩, .slice a2 A.rs.length c2, .slice a3 A.ys.length c3] 28)) #[.slice b1 B.ns.length d1, .string ⟨B.y.toArray⟩, .slice b2 B.rs.length d2, .slice b3 B.ys.length d3] 28
  rw [sz_alloc] at x2
  obtain ⟨r, hr⟩ : ∃ r, sameT A B = r := ⟨_, rfl⟩
  rw [hr]
  have HR := Lib.hid hr
  obtain ⟨e1, he1⟩ : ∃ r, sameB [A.ns] [B.ns] = r := ⟨_, rfl⟩
  obtain ⟨e3, he3⟩ : ∃ r, sameG9 A.rs B.rs = r := ⟨_, rfl⟩
  obtain ⟨e4, he4⟩ : ∃ r, sameI9 A.ys B.ys = r := ⟨_, rfl⟩
  have K1 := Lib.hid (fun w => he1 ▸ specTexts w (.slice a1 A.ns.length c1) (.slice b1 B.ns.length d1) A.ns B.ns)
  have K3 := Lib.hid (fun w => he3 ▸ specGrids w (.slice a2 A.rs.length c2) (.slice b2 B.rs.length d2) A.rs B.rs)
  have K4 := Lib.hid (fun w => he4 ▸ specInts9 w (.slice a3 A.ys.length c3) (.slice b3 B.ys.length d3) A.ys B.ys)
  have E1 := Lib.hid he1
  have E3 := Lib.hid he3
  have E4 := Lib.hid he4
  clear hr he1 he3 he4
  go_enter Try.func20, Try.ntmps20
  go_wp2_with fail
  refine (K1.out _ (p1.below hA2) (q1.below hA2)).mono ?_
  rintro e w1 ⟨rfl, hB1⟩
  have hC1 := bt hA2 hB1
  have y1 := blk_next x1 hB1
  have y2 := blk_next x2 hB1
  have l1 := cell_blk y1 1
  have l2 := cell_blk y1 2
  have l3 := cell_blk y1 3
  have m1 := cell_blk y2 1
  have m2 := cell_blk y2 2
  have m3 := cell_blk y2 3
  cases e1 with
  | false =>
    go_wp2_with fail
    go_ret
    exact ⟨ret_bool9 (by rw [← HR.out, sameT, E1.out]; rfl), hC1⟩
  | true =>
    by_cases hy : A.y = B.y
    · have hq : (A.y == B.y) = true := beq_iff_eq.2 hy
      have HY := Lib.hid hy
      clear hy
      go_wp2_with fail
      refine (K3.out _ (p2.below hC1) (q2.below hC1)).mono ?_
      rintro e w2 ⟨rfl, hB2⟩
      have hC2 := bt hC1 hB2
      have l3 := cell_blk (blk_next y1 hB2) 3
      have m3 := cell_blk (blk_next y2 hB2) 3
      cases e3 with
      | false =>
        go_wp2_with fail
        go_ret
        exact ⟨ret_bool9 (by rw [← HR.out, sameT, E3.out]; simp), hC2⟩
      | true =>
        go_wp2_with fail
        refine (K4.out _ (p3.below hC2) (q3.below hC2)).mono ?_
        rintro e w3 ⟨rfl, hB3⟩
        have hC3 := bt hC2 hB3
        go_wp2_with fail
        go_ret
        exact ⟨ret_bool9 (by rw [← HR.out, sameT, E1.out, E3.out, E4.out, decide_eq_true HY.out]; simp), hC3⟩
    · have hq : (A.y == B.y) = false := beq_eq_false_iff_ne.2 hy
      have hn := hy
      have hn2 := str_ne hy
      have HY := Lib.hid hy
      clear hy
      go_wp2_with fail
      go_ret
      exact ⟨ret_bool9 (by rw [← HR.out, sameT, decide_eq_false HY.out]; simp), hC1⟩
end Go.Proofs.Yticeagjonfifbaa
