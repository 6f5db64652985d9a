
/-
  Chapter 3: the walk of the law that compares the program's order of wide numbers with the reference's.
-/
import Derived.Test.YtcgboimhmklebaaLawE3
import Derived.Test.YtcgboimhmklebaaImpG
namespace Go.Proofs.Ytcgboimhmklebaa
open Go.RowKit

set_option maxRecDepth 100000 in
set_option maxHeartbeats 1000000 in
theorem lawExCompareWide (n0 : Bool) (h0 l0 : Int) (n1 : Bool) (h1 l1 : Int) (hp0 : 0 ≤ h0) (lp0 : 0 ≤ l0) (lq0 : l0 < 18446744073709551616) (hp1 : 0 ≤ h1) (lp1 : 0 ≤ l1) (lq1 : l1 < 18446744073709551616) (w : World) :
    Calls Try.prog 12 #[.agg #[.bool n0, .int .u64 h0, .int .u64 l0], .agg #[.bool n1, .int .u64 h1, .int .u64 l1]] w fun e w' => e = .returned (.bool true) ∧ Below w.heap.size w w' := by
  go_enter Try.func12, Try.ntmps12
  go_wp2_with fail
  have hP0 : PairS w w.heap.size (w.heap.size + 1) (fun _ => .bool n0) (fun _ => .bool n1) h0 l0 h1 l1 ((w.alloc (.cells #[.bool n0, .int .u64 h0, .int .u64 l0] 42)).alloc (.cells #[.bool n1, .int .u64 h1, .int .u64 l1] 42)) := PairS.start (w1 := ((w.alloc (.cells #[.bool n0, .int .u64 h0, .int .u64 l0] 42)).alloc (.cells #[.bool n1, .int .u64 h1, .int .u64 l1] 42))) (Below.refl _ _)
  have hD := PairS.drew hP0
  clear hP0
  go_region_held3 (fun w' => w'.cell? ⟨w.heap.size, 0, none⟩ = some (.bool n0) ∧ w'.cell? ⟨w.heap.size, 1, none⟩ = some (.int .u64 h0) ∧ w'.cell? ⟨w.heap.size, 2, none⟩ = some (.int .u64 l0) ∧ w'.cell? ⟨(w.heap.size + 1), 0, none⟩ = some (.bool n1) ∧ w'.cell? ⟨(w.heap.size + 1), 1, none⟩ = some (.int .u64 h1) ∧ w'.cell? ⟨(w.heap.size + 1), 2, none⟩ = some (.int .u64 l1) ∧ (∀ k, w'.frozen? ⟨w.heap.size, k, none⟩ = false) ∧ (∀ k, w'.frozen? ⟨(w.heap.size + 1), k, none⟩ = false) ∧ Below w.heap.size w w') (with_reducible assumption)
    (first | (go_at_call 31; refine (PairS.call (W := w) (h0 := h0) (l0 := l0) (h1 := h1) (l1 := l1) (keepsC_at w.heap.size (.bool n0)) (keepsC_at (w.heap.size + 1) (.bool n1)) (toWide _ _ _ _) ?_).mono ?_; (with_reducible assumption); rintro e w6 ⟨rfl, hP⟩) | (go_at_call 38; refine (PairS.call (W := w) (h0 := h0) (l0 := l0) (h1 := h1) (l1 := l1) (keepsC_at w.heap.size (.bool n0)) (keepsC_at (w.heap.size + 1) (.bool n1)) (specCompareWide n0 h0 l0 n1 h1 l1 hp0 lp0 lq0 hp1 lp1 lq1 _) ?_).mono ?_; (with_reducible assumption); rintro e w6 ⟨rfl, hP⟩))
  clear hD
  go_wp2_with fail
  have hD := PairS.drew hP
  clear hP
  go_region_held3 (fun w' => w'.cell? ⟨w.heap.size, 0, none⟩ = some (.bool n0) ∧ w'.cell? ⟨w.heap.size, 1, none⟩ = some (.int .u64 h0) ∧ w'.cell? ⟨w.heap.size, 2, none⟩ = some (.int .u64 l0) ∧ w'.cell? ⟨(w.heap.size + 1), 0, none⟩ = some (.bool n1) ∧ w'.cell? ⟨(w.heap.size + 1), 1, none⟩ = some (.int .u64 h1) ∧ w'.cell? ⟨(w.heap.size + 1), 2, none⟩ = some (.int .u64 l1) ∧ (∀ k, w'.frozen? ⟨w.heap.size, k, none⟩ = false) ∧ (∀ k, w'.frozen? ⟨(w.heap.size + 1), k, none⟩ = false) ∧ Below w.heap.size w w') (with_reducible assumption)
    (first | (go_at_call 31; refine (PairS.call (W := w) (h0 := h0) (l0 := l0) (h1 := h1) (l1 := l1) (keepsC_at w.heap.size (.bool n0)) (keepsC_at (w.heap.size + 1) (.bool n1)) (toWide _ _ _ _) ?_).mono ?_; (with_reducible assumption); rintro e w8 ⟨rfl, hP⟩) | (go_at_call 39; refine (PairS.call (W := w) (h0 := h0) (l0 := l0) (h1 := h1) (l1 := l1) (keepsC_at w.heap.size (.bool n0)) (keepsC_at (w.heap.size + 1) (.bool n1)) (implCompareWide n0 h0 l0 n1 h1 l1 hp0 lp0 lq0 hp1 lp1 lq1 _) ?_).mono ?_; (with_reducible assumption); rintro e w8 ⟨rfl, hP⟩))
  go_wp2_with fail
  all_goals (go_ret; exact ⟨by first | rfl | simp, hP.2.2.2.2.2.2.2.2⟩)
end Go.Proofs.Ytcgboimhmklebaa
