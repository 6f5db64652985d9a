
/-
  Wide numbers of the program: the order, but for two negated nothings.
-/
import Derived.Test.YtapdocfifgnjgaaImpS
namespace Go.Proofs.Ytapdocfifgnjgaa
open Go.RowKit

set_option maxRecDepth 100000 in
set_option maxHeartbeats 1000000 in
theorem implCmp_tt (h0 l0 h1 l1 : Int) (HA : Hid (sgV true h0 l0 = true)) (HC : Hid (sgV true h1 l1 = true)) (w : World) :
    Calls Try.prog 23 #[.agg #[.bool true, .int .u64 h0, .int .u64 l0], .agg #[.bool true, .int .u64 h1, .int .u64 l1]] w fun e w' => e = .returned (.int .i64 (ordV h1 l1 h0 l0)) ∧ Below w.heap.size w w' := by
  go_enter Try.func23, Try.ntmps23
  go_wp2_with fail
  have HB : Below w.heap.size w ((w.alloc (.cells #[.bool true, .int .u64 h0, .int .u64 l0] 26)).alloc (.cells #[.bool true, .int .u64 h1, .int .u64 l1] 26)).drew := (((Below.refl _ _).alloc (Nat.le_refl _) _).alloc (by simp) _).drew
  have g0 : ((w.alloc (.cells #[.bool true, .int .u64 h0, .int .u64 l0] 26)).alloc (.cells #[.bool true, .int .u64 h1, .int .u64 l1] 26)).drew.cell? ⟨w.heap.size, 0, none⟩ = some (.bool true) := by go_simp
  have g1 : ((w.alloc (.cells #[.bool true, .int .u64 h0, .int .u64 l0] 26)).alloc (.cells #[.bool true, .int .u64 h1, .int .u64 l1] 26)).drew.cell? ⟨w.heap.size, 1, none⟩ = some (.int .u64 h0) := by go_simp
  have g2 : ((w.alloc (.cells #[.bool true, .int .u64 h0, .int .u64 l0] 26)).alloc (.cells #[.bool true, .int .u64 h1, .int .u64 l1] 26)).drew.cell? ⟨w.heap.size, 2, none⟩ = some (.int .u64 l0) := by go_simp
  have f0 : ∀ k, ((w.alloc (.cells #[.bool true, .int .u64 h0, .int .u64 l0] 26)).alloc (.cells #[.bool true, .int .u64 h1, .int .u64 l1] 26)).drew.frozen? ⟨w.heap.size, k, none⟩ = false := fun k => free_blk (w := ((w.alloc (.cells #[.bool true, .int .u64 h0, .int .u64 l0] 26)).alloc (.cells #[.bool true, .int .u64 h1, .int .u64 l1] 26))) (cs := #[.bool true, .int .u64 h0, .int .u64 l0]) (T := 26) (by rw [Below.heap_alloc _ _ _ (by simp)]; exact box_new _ _) k
  have g3 : ((w.alloc (.cells #[.bool true, .int .u64 h0, .int .u64 l0] 26)).alloc (.cells #[.bool true, .int .u64 h1, .int .u64 l1] 26)).drew.cell? ⟨(w.heap.size + 1), 0, none⟩ = some (.bool true) := by go_simp
  have g4 : ((w.alloc (.cells #[.bool true, .int .u64 h0, .int .u64 l0] 26)).alloc (.cells #[.bool true, .int .u64 h1, .int .u64 l1] 26)).drew.cell? ⟨(w.heap.size + 1), 1, none⟩ = some (.int .u64 h1) := by go_simp
  have g5 : ((w.alloc (.cells #[.bool true, .int .u64 h0, .int .u64 l0] 26)).alloc (.cells #[.bool true, .int .u64 h1, .int .u64 l1] 26)).drew.cell? ⟨(w.heap.size + 1), 2, none⟩ = some (.int .u64 l1) := by go_simp
  have f1 : ∀ k, ((w.alloc (.cells #[.bool true, .int .u64 h0, .int .u64 l0] 26)).alloc (.cells #[.bool true, .int .u64 h1, .int .u64 l1] 26)).drew.frozen? ⟨(w.heap.size + 1), k, none⟩ = false := fun k => free_blk (w := ((w.alloc (.cells #[.bool true, .int .u64 h0, .int .u64 l0] 26)).alloc (.cells #[.bool true, .int .u64 h1, .int .u64 l1] 26))) (cs := #[.bool true, .int .u64 h1, .int .u64 l1]) (T := 26) (by have := box_new (w.alloc (.cells #[.bool true, .int .u64 h0, .int .u64 l0] 26)) (.cells #[.bool true, .int .u64 h1, .int .u64 l1] 26); rwa [show (w.alloc (.cells #[.bool true, .int .u64 h0, .int .u64 l0] 26)).heap.size = w.heap.size + 1 by simp] at this) k
  go_region_held3 (fun w' => w'.cell? ⟨w.heap.size, 0, none⟩ = some (.bool true) ∧ w'.cell? ⟨w.heap.size, 1, none⟩ = some (.int .u64 h0) ∧ w'.cell? ⟨w.heap.size, 2, none⟩ = some (.int .u64 l0) ∧ w'.cell? ⟨(w.heap.size + 1), 0, none⟩ = some (.bool true) ∧ w'.cell? ⟨(w.heap.size + 1), 1, none⟩ = some (.int .u64 h1) ∧ w'.cell? ⟨(w.heap.size + 1), 2, none⟩ = some (.int .u64 l1) ∧ (∀ k, w'.frozen? ⟨w.heap.size, k, none⟩ = false) ∧ (∀ k, w'.frozen? ⟨(w.heap.size + 1), k, none⟩ = false) ∧ Below w.heap.size w w') (first | with_reducible exact ⟨g0, g1, g2, g3, g4, g5, f0, f1, HB⟩ | (with_reducible (refine ⟨?_, ?_, ?_, ?_, ?_, ?_, ?_, ?_, ?_⟩ <;> assumption)) | (with_reducible (refine PairS.setA (pa := (fun _ => .bool true)) (pb := (fun _ => .bool true)) ⟨?_, ?_, ?_, ?_, ?_, ?_, ?_, ?_, ?_⟩ (Nat.le_refl _) (by simp) true (setsC_at w.heap.size true) (nearC_at (w.heap.size + 1) (.bool true)) <;> assumption)) | (with_reducible (refine PairS.setB (pa := (fun _ => .bool true)) (pb := (fun _ => .bool true)) (PairS.setA (pa := (fun _ => .bool true)) (pb := (fun _ => .bool true)) ⟨?_, ?_, ?_, ?_, ?_, ?_, ?_, ?_, ?_⟩ (Nat.le_refl _) (by simp) true (setsC_at w.heap.size true) (nearC_at (w.heap.size + 1) (.bool true))) (by simp) (by simp) true (setsC_at (w.heap.size + 1) true) (nearC_at w.heap.size (.bool true)) <;> assumption)))
    (first | (go_at_call_of 42 (Value.agg #[Value.bool true, Value.int IntKind.u64 h0, Value.int IntKind.u64 l0]); refine (withSignS w w.heap.size (w.heap.size + 1) (fun _ => .bool true) (fun _ => .bool true) h0 l0 h1 l1 (keepsC_at w.heap.size (.bool true)) (keepsC_at (w.heap.size + 1) (.bool true)) true true h0 l0 true HA.out _ ?_).mono ?_; (first | with_reducible exact ⟨g0, g1, g2, g3, g4, g5, f0, f1, HB⟩ | (with_reducible (refine ⟨?_, ?_, ?_, ?_, ?_, ?_, ?_, ?_, ?_⟩ <;> assumption))); rintro e w5 ⟨rfl, k0, k1, k2, k3, k4, k5, k6, k7, k8⟩) | (go_at_call_of 42 (Value.agg #[Value.bool true, Value.int IntKind.u64 h1, Value.int IntKind.u64 l1]); refine (withSignS w w.heap.size (w.heap.size + 1) (fun _ => .bool true) (fun _ => .bool true) h0 l0 h1 l1 (keepsC_at w.heap.size (.bool true)) (keepsC_at (w.heap.size + 1) (.bool true)) true true h1 l1 true HC.out _ ?_).mono ?_; (first | with_reducible exact ⟨g0, g1, g2, g3, g4, g5, f0, f1, HB⟩ | (with_reducible (refine ⟨?_, ?_, ?_, ?_, ?_, ?_, ?_, ?_, ?_⟩ <;> assumption))); rintro e w5 ⟨rfl, k0, k1, k2, k3, k4, k5, k6, k7, k8⟩))
  have hE := PairS.fin (pa := (fun _ => .bool true)) (pb := (fun _ => .bool true)) ⟨k0, k1, k2, k3, k4, k5, k6, k7, k8⟩ (Nat.le_refl _) (by simp) (by simp) true true (setsC_at w.heap.size true) (nearC_at (w.heap.size + 1) (.bool true))
  clear k0 k1 k2 k3 k4 k5 k6 k7 k8
  rename_i hHd
  clear hHd
  revert hE
  generalize ((((((w5.setCell ⟨w.heap.size, 0, none⟩ (.bool true)).setCell ⟨w.heap.size, 1, none⟩ (.int .u64 h0)).setCell ⟨w.heap.size, 2, none⟩ (.int .u64 l0)).setCell ⟨(w.heap.size + 1), 0, none⟩ (.bool true)).setCell ⟨(w.heap.size + 1), 1, none⟩ (.int .u64 h1)).setCell ⟨(w.heap.size + 1), 2, none⟩ (.int .u64 l1)) = wf
  rintro ⟨e0, e1, e2, e3, e4, e5, e6, e7, e8⟩
  go_wp2_with fail
  refine (implOrder true h1 l1 true h0 l0 _).mono ?_
  rintro e w9 ⟨rfl, hB9⟩
  have HZ := Lib.hid (bt2 e8 hB9)
  clear hB9
  go_wp2_with fail
  go_ret
  exact ⟨rfl, HZ.out⟩
set_option maxRecDepth 100000 in
set_option maxHeartbeats 1000000 in
theorem implCmp_tf (h0 l0 h1 l1 : Int) (HA : Hid (sgV true h0 l0 = true)) (HC : Hid (sgV false h1 l1 = false)) (w : World) :
    Calls Try.prog 23 #[.agg #[.bool true, .int .u64 h0, .int .u64 l0], .agg #[.bool false, .int .u64 h1, .int .u64 l1]] w fun e w' => e = .returned (.int .i64 (-1)) ∧ Below w.heap.size w w' := by
  go_enter Try.func23, Try.ntmps23
  go_wp2_with fail
  have HB : Below w.heap.size w ((w.alloc (.cells #[.bool true, .int .u64 h0, .int .u64 l0] 26)).alloc (.cells #[.bool false, .int .u64 h1, .int .u64 l1] 26)).drew := (((Below.refl _ _).alloc (Nat.le_refl _) _).alloc (by simp) _).drew
  have g0 : ((w.alloc (.cells #[.bool true, .int .u64 h0, .int .u64 l0] 26)).alloc (.cells #[.bool false, .int .u64 h1, .int .u64 l1] 26)).drew.cell? ⟨w.heap.size, 0, none⟩ = some (.bool true) := by go_simp
  have g1 : ((w.alloc (.cells #[.bool true, .int .u64 h0, .int .u64 l0] 26)).alloc (.cells #[.bool false, .int .u64 h1, .int .u64 l1] 26)).drew.cell? ⟨w.heap.size, 1, none⟩ = some (.int .u64 h0) := by go_simp
  have g2 : ((w.alloc (.cells #[.bool true, .int .u64 h0, .int .u64 l0] 26)).alloc (.cells #[.bool false, .int .u64 h1, .int .u64 l1] 26)).drew.cell? ⟨w.heap.size, 2, none⟩ = some (.int .u64 l0) := by go_simp
  have f0 : ∀ k, ((w.alloc (.cells #[.bool true, .int .u64 h0, .int .u64 l0] 26)).alloc (.cells #[.bool false, .int .u64 h1, .int .u64 l1] 26)).drew.frozen? ⟨w.heap.size, k, none⟩ = false := fun k => free_blk (w := ((w.alloc (.cells #[.bool true, .int .u64 h0, .int .u64 l0] 26)).alloc (.cells #[.bool false, .int .u64 h1, .int .u64 l1] 26))) (cs := #[.bool true, .int .u64 h0, .int .u64 l0]) (T := 26) (by rw [Below.heap_alloc _ _ _ (by simp)]; exact box_new _ _) k
  have g3 : ((w.alloc (.cells #[.bool true, .int .u64 h0, .int .u64 l0] 26)).alloc (.cells #[.bool false, .int .u64 h1, .int .u64 l1] 26)).drew.cell? ⟨(w.heap.size + 1), 0, none⟩ = some (.bool false) := by go_simp
  have g4 : ((w.alloc (.cells #[.bool true, .int .u64 h0, .int .u64 l0] 26)).alloc (.cells #[.bool false, .int .u64 h1, .int .u64 l1] 26)).drew.cell? ⟨(w.heap.size + 1), 1, none⟩ = some (.int .u64 h1) := by go_simp
  have g5 : ((w.alloc (.cells #[.bool true, .int .u64 h0, .int .u64 l0] 26)).alloc (.cells #[.bool false, .int .u64 h1, .int .u64 l1] 26)).drew.cell? ⟨(w.heap.size + 1), 2, none⟩ = some (.int .u64 l1) := by go_simp
  have f1 : ∀ k, ((w.alloc (.cells #[.bool true, .int .u64 h0, .int .u64 l0] 26)).alloc (.cells #[.bool false, .int .u64 h1, .int .u64 l1] 26)).drew.frozen? ⟨(w.heap.size + 1), k, none⟩ = false := fun k => free_blk (w := ((w.alloc (.cells #[.bool true, .int .u64 h0, .int .u64 l0] 26)).alloc (.cells #[.bool false, .int .u64 h1, .int .u64 l1] 26))) (cs := #[.bool false, .int .u64 h1, .int .u64 l1]) (T := 26) (by have := box_new (w.alloc (.cells #[.bool true, .int .u64 h0, .int .u64 l0] 26)) (.cells #[.bool false, .int .u64 h1, .int .u64 l1] 26); rwa [show (w.alloc (.cells #[.bool true, .int .u64 h0, .int .u64 l0] 26)).heap.size = w.heap.size + 1 by simp] at this) k
  go_region_held3 (fun w' => w'.cell? ⟨w.heap.size, 0, none⟩ = some (.bool true) ∧ w'.cell? ⟨w.heap.size, 1, none⟩ = some (.int .u64 h0) ∧ w'.cell? ⟨w.heap.size, 2, none⟩ = some (.int .u64 l0) ∧ w'.cell? ⟨(w.heap.size + 1), 0, none⟩ = some (.bool false) ∧ w'.cell? ⟨(w.heap.size + 1), 1, none⟩ = some (.int .u64 h1) ∧ w'.cell? ⟨(w.heap.size + 1), 2, none⟩ = some (.int .u64 l1) ∧ (∀ k, w'.frozen? ⟨w.heap.size, k, none⟩ = false) ∧ (∀ k, w'.frozen? ⟨(w.heap.size + 1), k, none⟩ = false) ∧ Below w.heap.size w w') (first | with_reducible exact ⟨g0, g1, g2, g3, g4, g5, f0, f1, HB⟩ | (with_reducible (refine ⟨?_, ?_, ?_, ?_, ?_, ?_, ?_, ?_, ?_⟩ <;> assumption)) | (with_reducible (refine PairS.setA (pa := (fun _ => .bool true)) (pb := (fun _ => .bool false)) ⟨?_, ?_, ?_, ?_, ?_, ?_, ?_, ?_, ?_⟩ (Nat.le_refl _) (by simp) true (setsC_at w.heap.size true) (nearC_at (w.heap.size + 1) (.bool false)) <;> assumption)) | (with_reducible (refine PairS.setB (pa := (fun _ => .bool true)) (pb := (fun _ => .bool false)) (PairS.setA (pa := (fun _ => .bool true)) (pb := (fun _ => .bool false)) ⟨?_, ?_, ?_, ?_, ?_, ?_, ?_, ?_, ?_⟩ (Nat.le_refl _) (by simp) true (setsC_at w.heap.size true) (nearC_at (w.heap.size + 1) (.bool false))) (by simp) (by simp) false (setsC_at (w.heap.size + 1) false) (nearC_at w.heap.size (.bool true)) <;> assumption)))
    (first | (go_at_call_of 42 (Value.agg #[Value.bool true, Value.int IntKind.u64 h0, Value.int IntKind.u64 l0]); refine (withSignS w w.heap.size (w.heap.size + 1) (fun _ => .bool true) (fun _ => .bool false) h0 l0 h1 l1 (keepsC_at w.heap.size (.bool true)) (keepsC_at (w.heap.size + 1) (.bool false)) true true h0 l0 true HA.out _ ?_).mono ?_; (first | with_reducible exact ⟨g0, g1, g2, g3, g4, g5, f0, f1, HB⟩ | (with_reducible (refine ⟨?_, ?_, ?_, ?_, ?_, ?_, ?_, ?_, ?_⟩ <;> assumption))); rintro e w5 ⟨rfl, k0, k1, k2, k3, k4, k5, k6, k7, k8⟩) | (go_at_call_of 42 (Value.agg #[Value.bool false, Value.int IntKind.u64 h1, Value.int IntKind.u64 l1]); refine (withSignS w w.heap.size (w.heap.size + 1) (fun _ => .bool true) (fun _ => .bool false) h0 l0 h1 l1 (keepsC_at w.heap.size (.bool true)) (keepsC_at (w.heap.size + 1) (.bool false)) false false h1 l1 false HC.out _ ?_).mono ?_; (first | with_reducible exact ⟨g0, g1, g2, g3, g4, g5, f0, f1, HB⟩ | (with_reducible (refine ⟨?_, ?_, ?_, ?_, ?_, ?_, ?_, ?_, ?_⟩ <;> assumption))); rintro e w5 ⟨rfl, k0, k1, k2, k3, k4, k5, k6, k7, k8⟩))
  have hE := PairS.fin (pa := (fun _ => .bool true)) (pb := (fun _ => .bool false)) ⟨k0, k1, k2, k3, k4, k5, k6, k7, k8⟩ (Nat.le_refl _) (by simp) (by simp) true false (setsC_at w.heap.size true) (nearC_at (w.heap.size + 1) (.bool false))
  clear k0 k1 k2 k3 k4 k5 k6 k7 k8
  rename_i hHd
  clear hHd
  revert hE
  generalize ((((((w5.setCell ⟨w.heap.size, 0, none⟩ (.bool true)).setCell ⟨w.heap.size, 1, none⟩ (.int .u64 h0)).setCell ⟨w.heap.size, 2, none⟩ (.int .u64 l0)).setCell ⟨(w.heap.size + 1), 0, none⟩ (.bool false)).setCell ⟨(w.heap.size + 1), 1, none⟩ (.int .u64 h1)).setCell ⟨(w.heap.size + 1), 2, none⟩ (.int .u64 l1)) = wf
  rintro ⟨e0, e1, e2, e3, e4, e5, e6, e7, e8⟩
  go_wp2_with fail
  go_ret
  exact ⟨rfl, e8⟩
set_option maxRecDepth 100000 in
set_option maxHeartbeats 4000000 in
theorem implCmp_tz (h0 l0 : Int) (HA : Hid (sgV true h0 l0 = true)) (HC : Hid (∀ g, sgV g 0 0 = false)) (w : World) :
    Calls Try.prog 23 #[.agg #[.bool true, .int .u64 h0, .int .u64 l0], .agg #[.bool true, .int .u64 0, .int .u64 0]] w fun e w' => e = .returned (.int .i64 (-1)) ∧ Below w.heap.size w w' := by
  go_enter Try.func23, Try.ntmps23
  go_wp2_with fail
  have HB : Below w.heap.size w ((w.alloc (.cells #[.bool true, .int .u64 h0, .int .u64 l0] 26)).alloc (.cells #[.bool true, .int .u64 0, .int .u64 0] 26)).drew := (((Below.refl _ _).alloc (Nat.le_refl _) _).alloc (by simp) _).drew
  have g0 : ((w.alloc (.cells #[.bool true, .int .u64 h0, .int .u64 l0] 26)).alloc (.cells #[.bool true, .int .u64 0, .int .u64 0] 26)).drew.cell? ⟨w.heap.size, 0, none⟩ = some (.bool true) := by go_simp
  have g1 : ((w.alloc (.cells #[.bool true, .int .u64 h0, .int .u64 l0] 26)).alloc (.cells #[.bool true, .int .u64 0, .int .u64 0] 26)).drew.cell? ⟨w.heap.size, 1, none⟩ = some (.int .u64 h0) := by go_simp
  have g2 : ((w.alloc (.cells #[.bool true, .int .u64 h0, .int .u64 l0] 26)).alloc (.cells #[.bool true, .int .u64 0, .int .u64 0] 26)).drew.cell? ⟨w.heap.size, 2, none⟩ = some (.int .u64 l0) := by go_simp
  have f0 : ∀ k, ((w.alloc (.cells #[.bool true, .int .u64 h0, .int .u64 l0] 26)).alloc (.cells #[.bool true, .int .u64 0, .int .u64 0] 26)).drew.frozen? ⟨w.heap.size, k, none⟩ = false := fun k => free_blk (w := ((w.alloc (.cells #[.bool true, .int .u64 h0, .int .u64 l0] 26)).alloc (.cells #[.bool true, .int .u64 0, .int .u64 0] 26))) (cs := #[.bool true, .int .u64 h0, .int .u64 l0]) (T := 26) (by rw [Below.heap_alloc _ _ _ (by simp)]; exact box_new _ _) k
  have g3 : ((w.alloc (.cells #[.bool true, .int .u64 h0, .int .u64 l0] 26)).alloc (.cells #[.bool true, .int .u64 0, .int .u64 0] 26)).drew.cell? ⟨(w.heap.size + 1), 0, none⟩ = some (.bool true) := by go_simp
  have g4 : ((w.alloc (.cells #[.bool true, .int .u64 h0, .int .u64 l0] 26)).alloc (.cells #[.bool true, .int .u64 0, .int .u64 0] 26)).drew.cell? ⟨(w.heap.size + 1), 1, none⟩ = some (.int .u64 0) := by go_simp
  have g5 : ((w.alloc (.cells #[.bool true, .int .u64 h0, .int .u64 l0] 26)).alloc (.cells #[.bool true, .int .u64 0, .int .u64 0] 26)).drew.cell? ⟨(w.heap.size + 1), 2, none⟩ = some (.int .u64 0) := by go_simp
  have f1 : ∀ k, ((w.alloc (.cells #[.bool true, .int .u64 h0, .int .u64 l0] 26)).alloc (.cells #[.bool true, .int .u64 0, .int .u64 0] 26)).drew.frozen? ⟨(w.heap.size + 1), k, none⟩ = false := fun k => free_blk (w := ((w.alloc (.cells #[.bool true, .int .u64 h0, .int .u64 l0] 26)).alloc (.cells #[.bool true, .int .u64 0, .int .u64 0] 26))) (cs := #[.bool true, .int .u64 0, .int .u64 0]) (T := 26) (by have := box_new (w.alloc (.cells #[.bool true, .int .u64 h0, .int .u64 l0] 26)) (.cells #[.bool true, .int .u64 0, .int .u64 0] 26); rwa [show (w.alloc (.cells #[.bool true, .int .u64 h0, .int .u64 l0] 26)).heap.size = w.heap.size + 1 by simp] at this) k
  have g3n := nb_mk g3
  clear g3
  refine wp_region_noPanic ?_
  refine wp_region_held_drew (S := (fun w' => w'.cell? ⟨w.heap.size, 0, none⟩ = some (.bool true) ∧ w'.cell? ⟨w.heap.size, 1, none⟩ = some (.int .u64 h0) ∧ w'.cell? ⟨w.heap.size, 2, none⟩ = some (.int .u64 l0) ∧ w'.cell? ⟨(w.heap.size + 1), 0, none⟩ = some (.bool (nb w' (w.heap.size + 1))) ∧ w'.cell? ⟨(w.heap.size + 1), 1, none⟩ = some (.int .u64 0) ∧ w'.cell? ⟨(w.heap.size + 1), 2, none⟩ = some (.int .u64 0) ∧ (∀ k, w'.frozen? ⟨w.heap.size, k, none⟩ = false) ∧ (∀ k, w'.frozen? ⟨(w.heap.size + 1), k, none⟩ = false) ∧ Below w.heap.size w w')) (by kernel_rfl) ⟨g0, g1, g2, g3n, g4, g5, f0, f1, HB⟩ (fun hHeld => ?_)
  clear g0 g1 g2 g3n g4 g5 f0 f1 HB
  refine wpAnyH_take (i := 0) (oi := ?o1) (v := ?v1) ?hi1 ?hs1 ?hf1 ?hr1 ?hQ1 ?hy1 ?hS1 ?rest1
  case hi1 => rfl
  case hs1 => kernel_rfl
  case hf1 => kernel_rfl
  case hr1 => kernel_rfl
  case hQ1 => exact fun _ _ _ h => h
  case hS1 => assumption
  case hy1 =>
    refine Or.inl ⟨by kernel_rfl, ?_⟩
    intro w' hSw
    (try dsimp only at hSw)
    go_simp
    (try rfl)
  (try simp only [List.getElem_toArray, List.getElem_cons_zero, Act.put, List.setIfInBounds_toArray, List.set_cons_zero, List.set_cons_succ])
  refine wpAnyH_take (i := 4) (oi := ?o2) (v := ?v2) ?hi2 ?hs2 ?hf2 ?hr2 ?hQ2 ?hy2 ?hS2 ?rest2
  case hi2 => rfl
  case hs2 => kernel_rfl
  case hf2 => kernel_rfl
  case hr2 => kernel_rfl
  case hQ2 => exact fun _ _ _ h => h
  case hS2 => assumption
  case hy2 =>
    refine Or.inl ⟨by kernel_rfl, ?_⟩
    intro w' hSw
    (try dsimp only at hSw)
    go_simp
    (try rfl)
  (try simp only [List.getElem_toArray, List.getElem_cons_succ, List.getElem_cons_zero, Act.put, List.setIfInBounds_toArray, List.set_cons_zero, List.set_cons_succ])
  refine wpAnyH_take (i := 1) (oi := ?o3) (v := ?v3) ?hi3 ?hs3 ?hf3 ?hr3 ?hQ3 ?hy3 ?hS3 ?rest3
  case hi3 => rfl
  case hs3 => kernel_rfl
  case hf3 => kernel_rfl
  case hr3 => kernel_rfl
  case hQ3 => exact fun _ _ _ h => h
  case hS3 => assumption
  case hy3 =>
    refine Or.inl ⟨by kernel_rfl, ?_⟩
    intro w' hSw
    (try dsimp only at hSw)
    go_simp
    (try rfl)
  (try simp only [List.getElem_toArray, List.getElem_cons_succ, List.getElem_cons_zero, Act.put, List.setIfInBounds_toArray, List.set_cons_zero, List.set_cons_succ])
  refine wpAnyH_take (i := 2) (oi := ?o4) (v := ?v4) ?hi4 ?hs4 ?hf4 ?hr4 ?hQ4 ?hy4 ?hS4 ?rest4
  case hi4 => rfl
  case hs4 => kernel_rfl
  case hf4 => kernel_rfl
  case hr4 => kernel_rfl
  case hQ4 => exact fun _ _ _ h => h
  case hS4 => assumption
  case hy4 =>
    refine Or.inl ⟨by kernel_rfl, ?_⟩
    intro w' hSw
    (try dsimp only at hSw)
    go_simp
    (try rfl)
  (try simp only [List.getElem_toArray, List.getElem_cons_succ, List.getElem_cons_zero, Act.put, List.setIfInBounds_toArray, List.set_cons_zero, List.set_cons_succ])
  refine wpAnyH_ready (rs := [3, 5, 6]) (by kernel_rfl) (by simp) ?_
  refine (AllReadyH.cons rfl (fun K hK => ?_) (AllReadyH.cons rfl (fun K hK => ?_) (AllReadyH.cons rfl (fun K hK => ?_) AllReadyH.nil)))
  · skip
    go_simp
    refine (withSignS w w.heap.size (w.heap.size + 1) (fun _ => .bool true) (fun wz => .bool (nb wz (w.heap.size + 1))) h0 l0 0 0 (keepsC_at w.heap.size (.bool true)) (keepsC_nb (w.heap.size + 1)) true true h0 l0 true HA.out _ ?_).mono ?_
    · with_reducible assumption
    rintro e w5 ⟨rfl, hP⟩
    refine hK.out _ _ ?_ (fun hHeld2 => ?_)
    · exact hP
    clear hK K hHeld
    have hHeld := hHeld2
    clear hHeld2
    (try simp only [List.getElem_toArray, List.getElem_cons_succ, List.getElem_cons_zero, Act.put, List.setIfInBounds_toArray, List.set_cons_zero, List.set_cons_succ])
    refine wpAnyH_ready (rs := [5, 6]) (by kernel_rfl) (by simp) ?_
    refine (AllReadyH.cons rfl (fun K hK => ?_) (AllReadyH.cons rfl (fun K hK => ?_) AllReadyH.nil))
    · skip
      go_simp
      refine hK.out _ _ ?_ (fun hHeld2 => ?_)
      · with_reducible assumption
      clear hK K hHeld
      have hHeld := hHeld2
      clear hHeld2
      (try simp only [List.getElem_toArray, List.getElem_cons_succ, List.getElem_cons_zero, Act.put, List.setIfInBounds_toArray, List.set_cons_zero, List.set_cons_succ])
      refine wpAnyH_ready (rs := [6]) (by kernel_rfl) (by simp) ?_
      refine (AllReadyH.cons rfl (fun K hK => ?_) AllReadyH.nil)
      go_simp
      refine hK.out _ _ ?_ (fun hHeld2 => ?_)
      · with_reducible assumption
      clear hK K hHeld
      have hHeld := hHeld2
      clear hHeld2
      (try simp only [List.getElem_toArray, List.getElem_cons_succ, List.getElem_cons_zero, Act.put, List.setIfInBounds_toArray, List.set_cons_zero, List.set_cons_succ])
      refine wpAnyH_ready (rs := [7]) (by kernel_rfl) (by simp) ?_
      refine (AllReadyH.cons rfl (fun K hK => ?_) AllReadyH.nil)
      go_simp
      refine (withSignS w w.heap.size (w.heap.size + 1) (fun _ => .bool true) (fun wz => .bool (nb wz (w.heap.size + 1))) h0 l0 0 0 (keepsC_at w.heap.size (.bool true)) (keepsC_nb (w.heap.size + 1)) _ _ 0 0 false (HC.out _) _ ?_).mono ?_
      · with_reducible assumption
      rintro e w5 ⟨rfl, hP⟩
      refine hK.out _ _ ?_ (fun hHeld2 => ?_)
      · exact hP
      clear hK K hHeld
      have hHeld := hHeld2
      clear hHeld2
      (try simp only [List.getElem_toArray, List.getElem_cons_succ, List.getElem_cons_zero, Act.put, List.setIfInBounds_toArray, List.set_cons_zero, List.set_cons_succ])
      refine wpAnyH_ready (rs := [8]) (by kernel_rfl) (by simp) ?_
      refine (AllReadyH.cons rfl (fun K hK => ?_) AllReadyH.nil)
      go_simp
      refine hK.out _ _ ?_ (fun hHeld2 => ?_)
      · exact PairS.setA (pa := (fun _ => .bool true)) (pb := (fun wz => .bool (nb wz (w.heap.size + 1)))) hP (Nat.le_refl _) (by simp) true (setsC_at w.heap.size true) (nearC_nb (w.heap.size + 1))
      clear hK K hHeld
      have hHeld := hHeld2
      clear hHeld2
      (try simp only [List.getElem_toArray, List.getElem_cons_succ, List.getElem_cons_zero, Act.put, List.setIfInBounds_toArray, List.set_cons_zero, List.set_cons_succ])
      refine wpAnyH_ready (rs := [9]) (by kernel_rfl) (by simp) ?_
      refine (AllReadyH.cons rfl (fun K hK => ?_) AllReadyH.nil)
      go_simp
      refine hK.out _ _ ?_ (fun hHeld2 => ?_)
      · exact PairS.setB (pa := (fun _ => .bool true)) (pb := (fun wz => .bool (nb wz (w.heap.size + 1)))) (PairS.setA (pa := (fun _ => .bool true)) (pb := (fun wz => .bool (nb wz (w.heap.size + 1)))) hP (Nat.le_refl _) (by simp) true (setsC_at w.heap.size true) (nearC_nb (w.heap.size + 1))) (by simp) (by simp) false (setsC_nb (w.heap.size + 1) false) (nearC_at w.heap.size (.bool true))
      clear hK K hHeld
      have hHeld := hHeld2
      clear hHeld2
      (try simp only [List.getElem_toArray, List.getElem_cons_succ, List.getElem_cons_zero, Act.put, List.setIfInBounds_toArray, List.set_cons_zero, List.set_cons_succ])
      refine wpAnyH_done (by kernel_rfl) ?_ _
      refine NoPanic.normal ?_
      have hE := PairS.fin (pa := (fun _ => .bool true)) (pb := (fun wz => .bool (nb wz (w.heap.size + 1)))) hP (Nat.le_refl _) (by simp) (by simp) true false (setsC_at w.heap.size true) (nearC_nb (w.heap.size + 1))
      clear hP hHeld
      revert hE
      generalize ((((((w5.setCell ⟨w.heap.size, 0, none⟩ (.bool true)).setCell ⟨w.heap.size, 1, none⟩ (.int .u64 h0)).setCell ⟨w.heap.size, 2, none⟩ (.int .u64 l0)).setCell ⟨(w.heap.size + 1), 0, none⟩ (.bool false)).setCell ⟨(w.heap.size + 1), 1, none⟩ (.int .u64 0)).setCell ⟨(w.heap.size + 1), 2, none⟩ (.int .u64 0)) = wf
      rintro ⟨e0, e1, e2, e3, e4, e5, e6, e7, e8⟩
      go_wp2_with fail
      go_ret
      exact ⟨rfl, e8⟩
    · skip
      go_simp
      refine hK.out _ _ ?_ (fun hHeld2 => ?_)
      · with_reducible assumption
      clear hK K hHeld
      have hHeld := hHeld2
      clear hHeld2
      (try simp only [List.getElem_toArray, List.getElem_cons_succ, List.getElem_cons_zero, Act.put, List.setIfInBounds_toArray, List.set_cons_zero, List.set_cons_succ])
      refine wpAnyH_ready (rs := [5]) (by kernel_rfl) (by simp) ?_
      refine (AllReadyH.cons rfl (fun K hK => ?_) AllReadyH.nil)
      go_simp
      refine hK.out _ _ ?_ (fun hHeld2 => ?_)
      · with_reducible assumption
      clear hK K hHeld
      have hHeld := hHeld2
      clear hHeld2
      (try simp only [List.getElem_toArray, List.getElem_cons_succ, List.getElem_cons_zero, Act.put, List.setIfInBounds_toArray, List.set_cons_zero, List.set_cons_succ])
      refine wpAnyH_ready (rs := [7]) (by kernel_rfl) (by simp) ?_
      refine (AllReadyH.cons rfl (fun K hK => ?_) AllReadyH.nil)
      go_simp
      refine (withSignS w w.heap.size (w.heap.size + 1) (fun _ => .bool true) (fun wz => .bool (nb wz (w.heap.size + 1))) h0 l0 0 0 (keepsC_at w.heap.size (.bool true)) (keepsC_nb (w.heap.size + 1)) _ _ 0 0 false (HC.out _) _ ?_).mono ?_
      · with_reducible assumption
      rintro e w5 ⟨rfl, hP⟩
      refine hK.out _ _ ?_ (fun hHeld2 => ?_)
      · exact hP
      clear hK K hHeld
      have hHeld := hHeld2
      clear hHeld2
      (try simp only [List.getElem_toArray, List.getElem_cons_succ, List.getElem_cons_zero, Act.put, List.setIfInBounds_toArray, List.set_cons_zero, List.set_cons_succ])
      refine wpAnyH_ready (rs := [8]) (by kernel_rfl) (by simp) ?_
      refine (AllReadyH.cons rfl (fun K hK => ?_) AllReadyH.nil)
      go_simp
      refine hK.out _ _ ?_ (fun hHeld2 => ?_)
      · exact PairS.setA (pa := (fun _ => .bool true)) (pb := (fun wz => .bool (nb wz (w.heap.size + 1)))) hP (Nat.le_refl _) (by simp) true (setsC_at w.heap.size true) (nearC_nb (w.heap.size + 1))
      clear hK K hHeld
      have hHeld := hHeld2
      clear hHeld2
      (try simp only [List.getElem_toArray, List.getElem_cons_succ, List.getElem_cons_zero, Act.put, List.setIfInBounds_toArray, List.set_cons_zero, List.set_cons_succ])
      refine wpAnyH_ready (rs := [9]) (by kernel_rfl) (by simp) ?_
      refine (AllReadyH.cons rfl (fun K hK => ?_) AllReadyH.nil)
      go_simp
      refine hK.out _ _ ?_ (fun hHeld2 => ?_)
      · exact PairS.setB (pa := (fun _ => .bool true)) (pb := (fun wz => .bool (nb wz (w.heap.size + 1)))) (PairS.setA (pa := (fun _ => .bool true)) (pb := (fun wz => .bool (nb wz (w.heap.size + 1)))) hP (Nat.le_refl _) (by simp) true (setsC_at w.heap.size true) (nearC_nb (w.heap.size + 1))) (by simp) (by simp) false (setsC_nb (w.heap.size + 1) false) (nearC_at w.heap.size (.bool true))
      clear hK K hHeld
      have hHeld := hHeld2
      clear hHeld2
      (try simp only [List.getElem_toArray, List.getElem_cons_succ, List.getElem_cons_zero, Act.put, List.setIfInBounds_toArray, List.set_cons_zero, List.set_cons_succ])
      refine wpAnyH_done (by kernel_rfl) ?_ _
      refine NoPanic.normal ?_
      have hE := PairS.fin (pa := (fun _ => .bool true)) (pb := (fun wz => .bool (nb wz (w.heap.size + 1)))) hP (Nat.le_refl _) (by simp) (by simp) true false (setsC_at w.heap.size true) (nearC_nb (w.heap.size + 1))
      clear hP hHeld
      revert hE
      generalize ((((((w5.setCell ⟨w.heap.size, 0, none⟩ (.bool true)).setCell ⟨w.heap.size, 1, none⟩ (.int .u64 h0)).setCell ⟨w.heap.size, 2, none⟩ (.int .u64 l0)).setCell ⟨(w.heap.size + 1), 0, none⟩ (.bool false)).setCell ⟨(w.heap.size + 1), 1, none⟩ (.int .u64 0)).setCell ⟨(w.heap.size + 1), 2, none⟩ (.int .u64 0)) = wf
      rintro ⟨e0, e1, e2, e3, e4, e5, e6, e7, e8⟩
      go_wp2_with fail
      go_ret
      exact ⟨rfl, e8⟩
  · skip
    go_simp
    refine hK.out _ _ ?_ (fun hHeld2 => ?_)
    · with_reducible assumption
    clear hK K hHeld
    have hHeld := hHeld2
    clear hHeld2
    (try simp only [List.getElem_toArray, List.getElem_cons_succ, List.getElem_cons_zero, Act.put, List.setIfInBounds_toArray, List.set_cons_zero, List.set_cons_succ])
    refine wpAnyH_ready (rs := [3, 6]) (by kernel_rfl) (by simp) ?_
    refine (AllReadyH.cons rfl (fun K hK => ?_) (AllReadyH.cons rfl (fun K hK => ?_) AllReadyH.nil))
    · skip
      go_simp
      refine (withSignS w w.heap.size (w.heap.size + 1) (fun _ => .bool true) (fun wz => .bool (nb wz (w.heap.size + 1))) h0 l0 0 0 (keepsC_at w.heap.size (.bool true)) (keepsC_nb (w.heap.size + 1)) true true h0 l0 true HA.out _ ?_).mono ?_
      · with_reducible assumption
      rintro e w5 ⟨rfl, hP⟩
      refine hK.out _ _ ?_ (fun hHeld2 => ?_)
      · exact hP
      clear hK K hHeld
      have hHeld := hHeld2
      clear hHeld2
      (try simp only [List.getElem_toArray, List.getElem_cons_succ, List.getElem_cons_zero, Act.put, List.setIfInBounds_toArray, List.set_cons_zero, List.set_cons_succ])
      refine wpAnyH_ready (rs := [6]) (by kernel_rfl) (by simp) ?_
      refine (AllReadyH.cons rfl (fun K hK => ?_) AllReadyH.nil)
      go_simp
      refine hK.out _ _ ?_ (fun hHeld2 => ?_)
      · with_reducible assumption
      clear hK K hHeld
      have hHeld := hHeld2
      clear hHeld2
      (try simp only [List.getElem_toArray, List.getElem_cons_succ, List.getElem_cons_zero, Act.put, List.setIfInBounds_toArray, List.set_cons_zero, List.set_cons_succ])
      refine wpAnyH_ready (rs := [7]) (by kernel_rfl) (by simp) ?_
      refine (AllReadyH.cons rfl (fun K hK => ?_) AllReadyH.nil)
      go_simp
      refine (withSignS w w.heap.size (w.heap.size + 1) (fun _ => .bool true) (fun wz => .bool (nb wz (w.heap.size + 1))) h0 l0 0 0 (keepsC_at w.heap.size (.bool true)) (keepsC_nb (w.heap.size + 1)) _ _ 0 0 false (HC.out _) _ ?_).mono ?_
      · with_reducible assumption
      rintro e w5 ⟨rfl, hP⟩
      refine hK.out _ _ ?_ (fun hHeld2 => ?_)
      · exact hP
      clear hK K hHeld
      have hHeld := hHeld2
      clear hHeld2
      (try simp only [List.getElem_toArray, List.getElem_cons_succ, List.getElem_cons_zero, Act.put, List.setIfInBounds_toArray, List.set_cons_zero, List.set_cons_succ])
      refine wpAnyH_ready (rs := [8]) (by kernel_rfl) (by simp) ?_
      refine (AllReadyH.cons rfl (fun K hK => ?_) AllReadyH.nil)
      go_simp
      refine hK.out _ _ ?_ (fun hHeld2 => ?_)
      · exact PairS.setA (pa := (fun _ => .bool true)) (pb := (fun wz => .bool (nb wz (w.heap.size + 1)))) hP (Nat.le_refl _) (by simp) true (setsC_at w.heap.size true) (nearC_nb (w.heap.size + 1))
      clear hK K hHeld
      have hHeld := hHeld2
      clear hHeld2
      (try simp only [List.getElem_toArray, List.getElem_cons_succ, List.getElem_cons_zero, Act.put, List.setIfInBounds_toArray, List.set_cons_zero, List.set_cons_succ])
      refine wpAnyH_ready (rs := [9]) (by kernel_rfl) (by simp) ?_
      refine (AllReadyH.cons rfl (fun K hK => ?_) AllReadyH.nil)
      go_simp
      refine hK.out _ _ ?_ (fun hHeld2 => ?_)
      · exact PairS.setB (pa := (fun _ => .bool true)) (pb := (fun wz => .bool (nb wz (w.heap.size + 1)))) (PairS.setA (pa := (fun _ => .bool true)) (pb := (fun wz => .bool (nb wz (w.heap.size + 1)))) hP (Nat.le_refl _) (by simp) true (setsC_at w.heap.size true) (nearC_nb (w.heap.size + 1))) (by simp) (by simp) false (setsC_nb (w.heap.size + 1) false) (nearC_at w.heap.size (.bool true))
      clear hK K hHeld
      have hHeld := hHeld2
      clear hHeld2
      (try simp only [List.getElem_toArray, List.getElem_cons_succ, List.getElem_cons_zero, Act.put, List.setIfInBounds_toArray, List.set_cons_zero, List.set_cons_succ])
      refine wpAnyH_done (by kernel_rfl) ?_ _
      refine NoPanic.normal ?_
      have hE := PairS.fin (pa := (fun _ => .bool true)) (pb := (fun wz => .bool (nb wz (w.heap.size + 1)))) hP (Nat.le_refl _) (by simp) (by simp) true false (setsC_at w.heap.size true) (nearC_nb (w.heap.size + 1))
      clear hP hHeld
      revert hE
      generalize ((((((w5.setCell ⟨w.heap.size, 0, none⟩ (.bool true)).setCell ⟨w.heap.size, 1, none⟩ (.int .u64 h0)).setCell ⟨w.heap.size, 2, none⟩ (.int .u64 l0)).setCell ⟨(w.heap.size + 1), 0, none⟩ (.bool false)).setCell ⟨(w.heap.size + 1), 1, none⟩ (.int .u64 0)).setCell ⟨(w.heap.size + 1), 2, none⟩ (.int .u64 0)) = wf
      rintro ⟨e0, e1, e2, e3, e4, e5, e6, e7, e8⟩
      go_wp2_with fail
      go_ret
      exact ⟨rfl, e8⟩
    · skip
      go_simp
      refine hK.out _ _ ?_ (fun hHeld2 => ?_)
      · with_reducible assumption
      clear hK K hHeld
      have hHeld := hHeld2
      clear hHeld2
      (try simp only [List.getElem_toArray, List.getElem_cons_succ, List.getElem_cons_zero, Act.put, List.setIfInBounds_toArray, List.set_cons_zero, List.set_cons_succ])
      refine wpAnyH_ready (rs := [3]) (by kernel_rfl) (by simp) ?_
      refine (AllReadyH.cons rfl (fun K hK => ?_) AllReadyH.nil)
      go_simp
      refine (withSignS w w.heap.size (w.heap.size + 1) (fun _ => .bool true) (fun wz => .bool (nb wz (w.heap.size + 1))) h0 l0 0 0 (keepsC_at w.heap.size (.bool true)) (keepsC_nb (w.heap.size + 1)) true true h0 l0 true HA.out _ ?_).mono ?_
      · with_reducible assumption
      rintro e w5 ⟨rfl, hP⟩
      refine hK.out _ _ ?_ (fun hHeld2 => ?_)
      · exact hP
      clear hK K hHeld
      have hHeld := hHeld2
      clear hHeld2
      (try simp only [List.getElem_toArray, List.getElem_cons_succ, List.getElem_cons_zero, Act.put, List.setIfInBounds_toArray, List.set_cons_zero, List.set_cons_succ])
      refine wpAnyH_ready (rs := [7]) (by kernel_rfl) (by simp) ?_
      refine (AllReadyH.cons rfl (fun K hK => ?_) AllReadyH.nil)
      go_simp
      refine (withSignS w w.heap.size (w.heap.size + 1) (fun _ => .bool true) (fun wz => .bool (nb wz (w.heap.size + 1))) h0 l0 0 0 (keepsC_at w.heap.size (.bool true)) (keepsC_nb (w.heap.size + 1)) _ _ 0 0 false (HC.out _) _ ?_).mono ?_
      · with_reducible assumption
      rintro e w5 ⟨rfl, hP⟩
      refine hK.out _ _ ?_ (fun hHeld2 => ?_)
      · exact hP
      clear hK K hHeld
      have hHeld := hHeld2
      clear hHeld2
      (try simp only [List.getElem_toArray, List.getElem_cons_succ, List.getElem_cons_zero, Act.put, List.setIfInBounds_toArray, List.set_cons_zero, List.set_cons_succ])
      refine wpAnyH_ready (rs := [8]) (by kernel_rfl) (by simp) ?_
      refine (AllReadyH.cons rfl (fun K hK => ?_) AllReadyH.nil)
      go_simp
      refine hK.out _ _ ?_ (fun hHeld2 => ?_)
      · exact PairS.setA (pa := (fun _ => .bool true)) (pb := (fun wz => .bool (nb wz (w.heap.size + 1)))) hP (Nat.le_refl _) (by simp) true (setsC_at w.heap.size true) (nearC_nb (w.heap.size + 1))
      clear hK K hHeld
      have hHeld := hHeld2
      clear hHeld2
      (try simp only [List.getElem_toArray, List.getElem_cons_succ, List.getElem_cons_zero, Act.put, List.setIfInBounds_toArray, List.set_cons_zero, List.set_cons_succ])
      refine wpAnyH_ready (rs := [9]) (by kernel_rfl) (by simp) ?_
      refine (AllReadyH.cons rfl (fun K hK => ?_) AllReadyH.nil)
      go_simp
      refine hK.out _ _ ?_ (fun hHeld2 => ?_)
      · exact PairS.setB (pa := (fun _ => .bool true)) (pb := (fun wz => .bool (nb wz (w.heap.size + 1)))) (PairS.setA (pa := (fun _ => .bool true)) (pb := (fun wz => .bool (nb wz (w.heap.size + 1)))) hP (Nat.le_refl _) (by simp) true (setsC_at w.heap.size true) (nearC_nb (w.heap.size + 1))) (by simp) (by simp) false (setsC_nb (w.heap.size + 1) false) (nearC_at w.heap.size (.bool true))
      clear hK K hHeld
      have hHeld := hHeld2
      clear hHeld2
      (try simp only [List.getElem_toArray, List.getElem_cons_succ, List.getElem_cons_zero, Act.put, List.setIfInBounds_toArray, List.set_cons_zero, List.set_cons_succ])
      refine wpAnyH_done (by kernel_rfl) ?_ _
      refine NoPanic.normal ?_
      have hE := PairS.fin (pa := (fun _ => .bool true)) (pb := (fun wz => .bool (nb wz (w.heap.size + 1)))) hP (Nat.le_refl _) (by simp) (by simp) true false (setsC_at w.heap.size true) (nearC_nb (w.heap.size + 1))
      clear hP hHeld
      revert hE
      generalize ((((((w5.setCell ⟨w.heap.size, 0, none⟩ (.bool true)).setCell ⟨w.heap.size, 1, none⟩ (.int .u64 h0)).setCell ⟨w.heap.size, 2, none⟩ (.int .u64 l0)).setCell ⟨(w.heap.size + 1), 0, none⟩ (.bool false)).setCell ⟨(w.heap.size + 1), 1, none⟩ (.int .u64 0)).setCell ⟨(w.heap.size + 1), 2, none⟩ (.int .u64 0)) = wf
      rintro ⟨e0, e1, e2, e3, e4, e5, e6, e7, e8⟩
      go_wp2_with fail
      go_ret
      exact ⟨rfl, e8⟩
  · skip
    go_simp
    refine hK.out _ _ ?_ (fun hHeld2 => ?_)
    · with_reducible assumption
    clear hK K hHeld
    have hHeld := hHeld2
    clear hHeld2
    (try simp only [List.getElem_toArray, List.getElem_cons_succ, List.getElem_cons_zero, Act.put, List.setIfInBounds_toArray, List.set_cons_zero, List.set_cons_succ])
    refine wpAnyH_ready (rs := [3, 5]) (by kernel_rfl) (by simp) ?_
    refine (AllReadyH.cons rfl (fun K hK => ?_) (AllReadyH.cons rfl (fun K hK => ?_) AllReadyH.nil))
    · skip
      go_simp
      refine (withSignS w w.heap.size (w.heap.size + 1) (fun _ => .bool true) (fun wz => .bool (nb wz (w.heap.size + 1))) h0 l0 0 0 (keepsC_at w.heap.size (.bool true)) (keepsC_nb (w.heap.size + 1)) true true h0 l0 true HA.out _ ?_).mono ?_
      · with_reducible assumption
      rintro e w5 ⟨rfl, hP⟩
      refine hK.out _ _ ?_ (fun hHeld2 => ?_)
      · exact hP
      clear hK K hHeld
      have hHeld := hHeld2
      clear hHeld2
      (try simp only [List.getElem_toArray, List.getElem_cons_succ, List.getElem_cons_zero, Act.put, List.setIfInBounds_toArray, List.set_cons_zero, List.set_cons_succ])
      refine wpAnyH_ready (rs := [5]) (by kernel_rfl) (by simp) ?_
      refine (AllReadyH.cons rfl (fun K hK => ?_) AllReadyH.nil)
      go_simp
      refine hK.out _ _ ?_ (fun hHeld2 => ?_)
      · with_reducible assumption
      clear hK K hHeld
      have hHeld := hHeld2
      clear hHeld2
      (try simp only [List.getElem_toArray, List.getElem_cons_succ, List.getElem_cons_zero, Act.put, List.setIfInBounds_toArray, List.set_cons_zero, List.set_cons_succ])
      refine wpAnyH_ready (rs := [7]) (by kernel_rfl) (by simp) ?_
      refine (AllReadyH.cons rfl (fun K hK => ?_) AllReadyH.nil)
      go_simp
      refine (withSignS w w.heap.size (w.heap.size + 1) (fun _ => .bool true) (fun wz => .bool (nb wz (w.heap.size + 1))) h0 l0 0 0 (keepsC_at w.heap.size (.bool true)) (keepsC_nb (w.heap.size + 1)) _ _ 0 0 false (HC.out _) _ ?_).mono ?_
      · with_reducible assumption
      rintro e w5 ⟨rfl, hP⟩
      refine hK.out _ _ ?_ (fun hHeld2 => ?_)
      · exact hP
      clear hK K hHeld
      have hHeld := hHeld2
      clear hHeld2
      (try simp only [List.getElem_toArray, List.getElem_cons_succ, List.getElem_cons_zero, Act.put, List.setIfInBounds_toArray, List.set_cons_zero, List.set_cons_succ])
      refine wpAnyH_ready (rs := [8]) (by kernel_rfl) (by simp) ?_
      refine (AllReadyH.cons rfl (fun K hK => ?_) AllReadyH.nil)
      go_simp
      refine hK.out _ _ ?_ (fun hHeld2 => ?_)
      · exact PairS.setA (pa := (fun _ => .bool true)) (pb := (fun wz => .bool (nb wz (w.heap.size + 1)))) hP (Nat.le_refl _) (by simp) true (setsC_at w.heap.size true) (nearC_nb (w.heap.size + 1))
      clear hK K hHeld
      have hHeld := hHeld2
      clear hHeld2
      (try simp only [List.getElem_toArray, List.getElem_cons_succ, List.getElem_cons_zero, Act.put, List.setIfInBounds_toArray, List.set_cons_zero, List.set_cons_succ])
      refine wpAnyH_ready (rs := [9]) (by kernel_rfl) (by simp) ?_
      refine (AllReadyH.cons rfl (fun K hK => ?_) AllReadyH.nil)
      go_simp
      refine hK.out _ _ ?_ (fun hHeld2 => ?_)
      · exact PairS.setB (pa := (fun _ => .bool true)) (pb := (fun wz => .bool (nb wz (w.heap.size + 1)))) (PairS.setA (pa := (fun _ => .bool true)) (pb := (fun wz => .bool (nb wz (w.heap.size + 1)))) hP (Nat.le_refl _) (by simp) true (setsC_at w.heap.size true) (nearC_nb (w.heap.size + 1))) (by simp) (by simp) false (setsC_nb (w.heap.size + 1) false) (nearC_at w.heap.size (.bool true))
      clear hK K hHeld
      have hHeld := hHeld2
      clear hHeld2
      (try simp only [List.getElem_toArray, List.getElem_cons_succ, List.getElem_cons_zero, Act.put, List.setIfInBounds_toArray, List.set_cons_zero, List.set_cons_succ])
      refine wpAnyH_done (by kernel_rfl) ?_ _
      refine NoPanic.normal ?_
      have hE := PairS.fin (pa := (fun _ => .bool true)) (pb := (fun wz => .bool (nb wz (w.heap.size + 1)))) hP (Nat.le_refl _) (by simp) (by simp) true false (setsC_at w.heap.size true) (nearC_nb (w.heap.size + 1))
      clear hP hHeld
      revert hE
      generalize ((((((w5.setCell ⟨w.heap.size, 0, none⟩ (.bool true)).setCell ⟨w.heap.size, 1, none⟩ (.int .u64 h0)).setCell ⟨w.heap.size, 2, none⟩ (.int .u64 l0)).setCell ⟨(w.heap.size + 1), 0, none⟩ (.bool false)).setCell ⟨(w.heap.size + 1), 1, none⟩ (.int .u64 0)).setCell ⟨(w.heap.size + 1), 2, none⟩ (.int .u64 0)) = wf
      rintro ⟨e0, e1, e2, e3, e4, e5, e6, e7, e8⟩
      go_wp2_with fail
      go_ret
      exact ⟨rfl, e8⟩
    · skip
      go_simp
      refine hK.out _ _ ?_ (fun hHeld2 => ?_)
      · with_reducible assumption
      clear hK K hHeld
      have hHeld := hHeld2
      clear hHeld2
      (try simp only [List.getElem_toArray, List.getElem_cons_succ, List.getElem_cons_zero, Act.put, List.setIfInBounds_toArray, List.set_cons_zero, List.set_cons_succ])
      refine wpAnyH_ready (rs := [3]) (by kernel_rfl) (by simp) ?_
      refine (AllReadyH.cons rfl (fun K hK => ?_) AllReadyH.nil)
      go_simp
      refine (withSignS w w.heap.size (w.heap.size + 1) (fun _ => .bool true) (fun wz => .bool (nb wz (w.heap.size + 1))) h0 l0 0 0 (keepsC_at w.heap.size (.bool true)) (keepsC_nb (w.heap.size + 1)) true true h0 l0 true HA.out _ ?_).mono ?_
      · with_reducible assumption
      rintro e w5 ⟨rfl, hP⟩
      refine hK.out _ _ ?_ (fun hHeld2 => ?_)
      · exact hP
      clear hK K hHeld
      have hHeld := hHeld2
      clear hHeld2
      (try simp only [List.getElem_toArray, List.getElem_cons_succ, List.getElem_cons_zero, Act.put, List.setIfInBounds_toArray, List.set_cons_zero, List.set_cons_succ])
      refine wpAnyH_ready (rs := [7]) (by kernel_rfl) (by simp) ?_
      refine (AllReadyH.cons rfl (fun K hK => ?_) AllReadyH.nil)
      go_simp
      refine (withSignS w w.heap.size (w.heap.size + 1) (fun _ => .bool true) (fun wz => .bool (nb wz (w.heap.size + 1))) h0 l0 0 0 (keepsC_at w.heap.size (.bool true)) (keepsC_nb (w.heap.size + 1)) _ _ 0 0 false (HC.out _) _ ?_).mono ?_
      · with_reducible assumption
      rintro e w5 ⟨rfl, hP⟩
      refine hK.out _ _ ?_ (fun hHeld2 => ?_)
      · exact hP
      clear hK K hHeld
      have hHeld := hHeld2
      clear hHeld2
      (try simp only [List.getElem_toArray, List.getElem_cons_succ, List.getElem_cons_zero, Act.put, List.setIfInBounds_toArray, List.set_cons_zero, List.set_cons_succ])
      refine wpAnyH_ready (rs := [8]) (by kernel_rfl) (by simp) ?_
      refine (AllReadyH.cons rfl (fun K hK => ?_) AllReadyH.nil)
      go_simp
      refine hK.out _ _ ?_ (fun hHeld2 => ?_)
      · exact PairS.setA (pa := (fun _ => .bool true)) (pb := (fun wz => .bool (nb wz (w.heap.size + 1)))) hP (Nat.le_refl _) (by simp) true (setsC_at w.heap.size true) (nearC_nb (w.heap.size + 1))
      clear hK K hHeld
      have hHeld := hHeld2
      clear hHeld2
      (try simp only [List.getElem_toArray, List.getElem_cons_succ, List.getElem_cons_zero, Act.put, List.setIfInBounds_toArray, List.set_cons_zero, List.set_cons_succ])
      refine wpAnyH_ready (rs := [9]) (by kernel_rfl) (by simp) ?_
      refine (AllReadyH.cons rfl (fun K hK => ?_) AllReadyH.nil)
      go_simp
      refine hK.out _ _ ?_ (fun hHeld2 => ?_)
      · exact PairS.setB (pa := (fun _ => .bool true)) (pb := (fun wz => .bool (nb wz (w.heap.size + 1)))) (PairS.setA (pa := (fun _ => .bool true)) (pb := (fun wz => .bool (nb wz (w.heap.size + 1)))) hP (Nat.le_refl _) (by simp) true (setsC_at w.heap.size true) (nearC_nb (w.heap.size + 1))) (by simp) (by simp) false (setsC_nb (w.heap.size + 1) false) (nearC_at w.heap.size (.bool true))
      clear hK K hHeld
      have hHeld := hHeld2
      clear hHeld2
      (try simp only [List.getElem_toArray, List.getElem_cons_succ, List.getElem_cons_zero, Act.put, List.setIfInBounds_toArray, List.set_cons_zero, List.set_cons_succ])
      refine wpAnyH_done (by kernel_rfl) ?_ _
      refine NoPanic.normal ?_
      have hE := PairS.fin (pa := (fun _ => .bool true)) (pb := (fun wz => .bool (nb wz (w.heap.size + 1)))) hP (Nat.le_refl _) (by simp) (by simp) true false (setsC_at w.heap.size true) (nearC_nb (w.heap.size + 1))
      clear hP hHeld
      revert hE
      generalize ((((((w5.setCell ⟨w.heap.size, 0, none⟩ (.bool true)).setCell ⟨w.heap.size, 1, none⟩ (.int .u64 h0)).setCell ⟨w.heap.size, 2, none⟩ (.int .u64 l0)).setCell ⟨(w.heap.size + 1), 0, none⟩ (.bool false)).setCell ⟨(w.heap.size + 1), 1, none⟩ (.int .u64 0)).setCell ⟨(w.heap.size + 1), 2, none⟩ (.int .u64 0)) = wf
      rintro ⟨e0, e1, e2, e3, e4, e5, e6, e7, e8⟩
      go_wp2_with fail
      go_ret
      exact ⟨rfl, e8⟩
set_option maxRecDepth 100000 in
set_option maxHeartbeats 1000000 in
theorem implCmp_ft (h0 l0 h1 l1 : Int) (HA : Hid (sgV false h0 l0 = false)) (HC : Hid (sgV true h1 l1 = true)) (w : World) :
    Calls Try.prog 23 #[.agg #[.bool false, .int .u64 h0, .int .u64 l0], .agg #[.bool true, .int .u64 h1, .int .u64 l1]] w fun e w' => e = .returned (.int .i64 (1)) ∧ Below w.heap.size w w' := by
  go_enter Try.func23, Try.ntmps23
  go_wp2_with fail
  have HB : Below w.heap.size w ((w.alloc (.cells #[.bool false, .int .u64 h0, .int .u64 l0] 26)).alloc (.cells #[.bool true, .int .u64 h1, .int .u64 l1] 26)).drew := (((Below.refl _ _).alloc (Nat.le_refl _) _).alloc (by simp) _).drew
  have g0 : ((w.alloc (.cells #[.bool false, .int .u64 h0, .int .u64 l0] 26)).alloc (.cells #[.bool true, .int .u64 h1, .int .u64 l1] 26)).drew.cell? ⟨w.heap.size, 0, none⟩ = some (.bool false) := by go_simp
  have g1 : ((w.alloc (.cells #[.bool false, .int .u64 h0, .int .u64 l0] 26)).alloc (.cells #[.bool true, .int .u64 h1, .int .u64 l1] 26)).drew.cell? ⟨w.heap.size, 1, none⟩ = some (.int .u64 h0) := by go_simp
  have g2 : ((w.alloc (.cells #[.bool false, .int .u64 h0, .int .u64 l0] 26)).alloc (.cells #[.bool true, .int .u64 h1, .int .u64 l1] 26)).drew.cell? ⟨w.heap.size, 2, none⟩ = some (.int .u64 l0) := by go_simp
  have f0 : ∀ k, ((w.alloc (.cells #[.bool false, .int .u64 h0, .int .u64 l0] 26)).alloc (.cells #[.bool true, .int .u64 h1, .int .u64 l1] 26)).drew.frozen? ⟨w.heap.size, k, none⟩ = false := fun k => free_blk (w := ((w.alloc (.cells #[.bool false, .int .u64 h0, .int .u64 l0] 26)).alloc (.cells #[.bool true, .int .u64 h1, .int .u64 l1] 26))) (cs := #[.bool false, .int .u64 h0, .int .u64 l0]) (T := 26) (by rw [Below.heap_alloc _ _ _ (by simp)]; exact box_new _ _) k
  have g3 : ((w.alloc (.cells #[.bool false, .int .u64 h0, .int .u64 l0] 26)).alloc (.cells #[.bool true, .int .u64 h1, .int .u64 l1] 26)).drew.cell? ⟨(w.heap.size + 1), 0, none⟩ = some (.bool true) := by go_simp
  have g4 : ((w.alloc (.cells #[.bool false, .int .u64 h0, .int .u64 l0] 26)).alloc (.cells #[.bool true, .int .u64 h1, .int .u64 l1] 26)).drew.cell? ⟨(w.heap.size + 1), 1, none⟩ = some (.int .u64 h1) := by go_simp
  have g5 : ((w.alloc (.cells #[.bool false, .int .u64 h0, .int .u64 l0] 26)).alloc (.cells #[.bool true, .int .u64 h1, .int .u64 l1] 26)).drew.cell? ⟨(w.heap.size + 1), 2, none⟩ = some (.int .u64 l1) := by go_simp
  have f1 : ∀ k, ((w.alloc (.cells #[.bool false, .int .u64 h0, .int .u64 l0] 26)).alloc (.cells #[.bool true, .int .u64 h1, .int .u64 l1] 26)).drew.frozen? ⟨(w.heap.size + 1), k, none⟩ = false := fun k => free_blk (w := ((w.alloc (.cells #[.bool false, .int .u64 h0, .int .u64 l0] 26)).alloc (.cells #[.bool true, .int .u64 h1, .int .u64 l1] 26))) (cs := #[.bool true, .int .u64 h1, .int .u64 l1]) (T := 26) (by have := box_new (w.alloc (.cells #[.bool false, .int .u64 h0, .int .u64 l0] 26)) (.cells #[.bool true, .int .u64 h1, .int .u64 l1] 26); rwa [show (w.alloc (.cells #[.bool false, .int .u64 h0, .int .u64 l0] 26)).heap.size = w.heap.size + 1 by simp] at this) k
  go_region_held3 (fun w' => w'.cell? ⟨w.heap.size, 0, none⟩ = some (.bool false) ∧ w'.cell? ⟨w.heap.size, 1, none⟩ = some (.int .u64 h0) ∧ w'.cell? ⟨w.heap.size, 2, none⟩ = some (.int .u64 l0) ∧ w'.cell? ⟨(w.heap.size + 1), 0, none⟩ = some (.bool true) ∧ w'.cell? ⟨(w.heap.size + 1), 1, none⟩ = some (.int .u64 h1) ∧ w'.cell? ⟨(w.heap.size + 1), 2, none⟩ = some (.int .u64 l1) ∧ (∀ k, w'.frozen? ⟨w.heap.size, k, none⟩ = false) ∧ (∀ k, w'.frozen? ⟨(w.heap.size + 1), k, none⟩ = false) ∧ Below w.heap.size w w') (first | with_reducible exact ⟨g0, g1, g2, g3, g4, g5, f0, f1, HB⟩ | (with_reducible (refine ⟨?_, ?_, ?_, ?_, ?_, ?_, ?_, ?_, ?_⟩ <;> assumption)) | (with_reducible (refine PairS.setA (pa := (fun _ => .bool false)) (pb := (fun _ => .bool true)) ⟨?_, ?_, ?_, ?_, ?_, ?_, ?_, ?_, ?_⟩ (Nat.le_refl _) (by simp) false (setsC_at w.heap.size false) (nearC_at (w.heap.size + 1) (.bool true)) <;> assumption)) | (with_reducible (refine PairS.setB (pa := (fun _ => .bool false)) (pb := (fun _ => .bool true)) (PairS.setA (pa := (fun _ => .bool false)) (pb := (fun _ => .bool true)) ⟨?_, ?_, ?_, ?_, ?_, ?_, ?_, ?_, ?_⟩ (Nat.le_refl _) (by simp) false (setsC_at w.heap.size false) (nearC_at (w.heap.size + 1) (.bool true))) (by simp) (by simp) true (setsC_at (w.heap.size + 1) true) (nearC_at w.heap.size (.bool false)) <;> assumption)))
    (first | (go_at_call_of 42 (Value.agg #[Value.bool false, Value.int IntKind.u64 h0, Value.int IntKind.u64 l0]); refine (withSignS w w.heap.size (w.heap.size + 1) (fun _ => .bool false) (fun _ => .bool true) h0 l0 h1 l1 (keepsC_at w.heap.size (.bool false)) (keepsC_at (w.heap.size + 1) (.bool true)) false false h0 l0 false HA.out _ ?_).mono ?_; (first | with_reducible exact ⟨g0, g1, g2, g3, g4, g5, f0, f1, HB⟩ | (with_reducible (refine ⟨?_, ?_, ?_, ?_, ?_, ?_, ?_, ?_, ?_⟩ <;> assumption))); rintro e w5 ⟨rfl, k0, k1, k2, k3, k4, k5, k6, k7, k8⟩) | (go_at_call_of 42 (Value.agg #[Value.bool true, Value.int IntKind.u64 h1, Value.int IntKind.u64 l1]); refine (withSignS w w.heap.size (w.heap.size + 1) (fun _ => .bool false) (fun _ => .bool true) h0 l0 h1 l1 (keepsC_at w.heap.size (.bool false)) (keepsC_at (w.heap.size + 1) (.bool true)) true true h1 l1 true HC.out _ ?_).mono ?_; (first | with_reducible exact ⟨g0, g1, g2, g3, g4, g5, f0, f1, HB⟩ | (with_reducible (refine ⟨?_, ?_, ?_, ?_, ?_, ?_, ?_, ?_, ?_⟩ <;> assumption))); rintro e w5 ⟨rfl, k0, k1, k2, k3, k4, k5, k6, k7, k8⟩))
  have hE := PairS.fin (pa := (fun _ => .bool false)) (pb := (fun _ => .bool true)) ⟨k0, k1, k2, k3, k4, k5, k6, k7, k8⟩ (Nat.le_refl _) (by simp) (by simp) false true (setsC_at w.heap.size false) (nearC_at (w.heap.size + 1) (.bool true))
  clear k0 k1 k2 k3 k4 k5 k6 k7 k8
  rename_i hHd
  clear hHd
  revert hE
  generalize ((((((w5.setCell ⟨w.heap.size, 0, none⟩ (.bool false)).setCell ⟨w.heap.size, 1, none⟩ (.int .u64 h0)).setCell ⟨w.heap.size, 2, none⟩ (.int .u64 l0)).setCell ⟨(w.heap.size + 1), 0, none⟩ (.bool true)).setCell ⟨(w.heap.size + 1), 1, none⟩ (.int .u64 h1)).setCell ⟨(w.heap.size + 1), 2, none⟩ (.int .u64 l1)) = wf
  rintro ⟨e0, e1, e2, e3, e4, e5, e6, e7, e8⟩
  go_wp2_with fail
  go_ret
  exact ⟨rfl, e8⟩
set_option maxRecDepth 100000 in
set_option maxHeartbeats 1000000 in
theorem implCmp_ff (h0 l0 h1 l1 : Int) (HA : Hid (sgV false h0 l0 = false)) (HC : Hid (sgV false h1 l1 = false)) (w : World) :
    Calls Try.prog 23 #[.agg #[.bool false, .int .u64 h0, .int .u64 l0], .agg #[.bool false, .int .u64 h1, .int .u64 l1]] w fun e w' => e = .returned (.int .i64 (ordV h0 l0 h1 l1)) ∧ Below w.heap.size w w' := by
  go_enter Try.func23, Try.ntmps23
  go_wp2_with fail
  have HB : Below w.heap.size w ((w.alloc (.cells #[.bool false, .int .u64 h0, .int .u64 l0] 26)).alloc (.cells #[.bool false, .int .u64 h1, .int .u64 l1] 26)).drew := (((Below.refl _ _).alloc (Nat.le_refl _) _).alloc (by simp) _).drew
  have g0 : ((w.alloc (.cells #[.bool false, .int .u64 h0, .int .u64 l0] 26)).alloc (.cells #[.bool false, .int .u64 h1, .int .u64 l1] 26)).drew.cell? ⟨w.heap.size, 0, none⟩ = some (.bool false) := by go_simp
  have g1 : ((w.alloc (.cells #[.bool false, .int .u64 h0, .int .u64 l0] 26)).alloc (.cells #[.bool false, .int .u64 h1, .int .u64 l1] 26)).drew.cell? ⟨w.heap.size, 1, none⟩ = some (.int .u64 h0) := by go_simp
  have g2 : ((w.alloc (.cells #[.bool false, .int .u64 h0, .int .u64 l0] 26)).alloc (.cells #[.bool false, .int .u64 h1, .int .u64 l1] 26)).drew.cell? ⟨w.heap.size, 2, none⟩ = some (.int .u64 l0) := by go_simp
  have f0 : ∀ k, ((w.alloc (.cells #[.bool false, .int .u64 h0, .int .u64 l0] 26)).alloc (.cells #[.bool false, .int .u64 h1, .int .u64 l1] 26)).drew.frozen? ⟨w.heap.size, k, none⟩ = false := fun k => free_blk (w := ((w.alloc (.cells #[.bool false, .int .u64 h0, .int .u64 l0] 26)).alloc (.cells #[.bool false, .int .u64 h1, .int .u64 l1] 26))) (cs := #[.bool false, .int .u64 h0, .int .u64 l0]) (T := 26) (by rw [Below.heap_alloc _ _ _ (by simp)]; exact box_new _ _) k
  have g3 : ((w.alloc (.cells #[.bool false, .int .u64 h0, .int .u64 l0] 26)).alloc (.cells #[.bool false, .int .u64 h1, .int .u64 l1] 26)).drew.cell? ⟨(w.heap.size + 1), 0, none⟩ = some (.bool false) := by go_simp
  have g4 : ((w.alloc (.cells #[.bool false, .int .u64 h0, .int .u64 l0] 26)).alloc (.cells #[.bool false, .int .u64 h1, .int .u64 l1] 26)).drew.cell? ⟨(w.heap.size + 1), 1, none⟩ = some (.int .u64 h1) := by go_simp
  have g5 : ((w.alloc (.cells #[.bool false, .int .u64 h0, .int .u64 l0] 26)).alloc (.cells #[.bool false, .int .u64 h1, .int .u64 l1] 26)).drew.cell? ⟨(w.heap.size + 1), 2, none⟩ = some (.int .u64 l1) := by go_simp
  have f1 : ∀ k, ((w.alloc (.cells #[.bool false, .int .u64 h0, .int .u64 l0] 26)).alloc (.cells #[.bool false, .int .u64 h1, .int .u64 l1] 26)).drew.frozen? ⟨(w.heap.size + 1), k, none⟩ = false := fun k => free_blk (w := ((w.alloc (.cells #[.bool false, .int .u64 h0, .int .u64 l0] 26)).alloc (.cells #[.bool false, .int .u64 h1, .int .u64 l1] 26))) (cs := #[.bool false, .int .u64 h1, .int .u64 l1]) (T := 26) (by have := box_new (w.alloc (.cells #[.bool false, .int .u64 h0, .int .u64 l0] 26)) (.cells #[.bool false, .int .u64 h1, .int .u64 l1] 26); rwa [show (w.alloc (.cells #[.bool false, .int .u64 h0, .int .u64 l0] 26)).heap.size = w.heap.size + 1 by simp] at this) k
  go_region_held3 (fun w' => w'.cell? ⟨w.heap.size, 0, none⟩ = some (.bool false) ∧ w'.cell? ⟨w.heap.size, 1, none⟩ = some (.int .u64 h0) ∧ w'.cell? ⟨w.heap.size, 2, none⟩ = some (.int .u64 l0) ∧ w'.cell? ⟨(w.heap.size + 1), 0, none⟩ = some (.bool false) ∧ w'.cell? ⟨(w.heap.size + 1), 1, none⟩ = some (.int .u64 h1) ∧ w'.cell? ⟨(w.heap.size + 1), 2, none⟩ = some (.int .u64 l1) ∧ (∀ k, w'.frozen? ⟨w.heap.size, k, none⟩ = false) ∧ (∀ k, w'.frozen? ⟨(w.heap.size + 1), k, none⟩ = false) ∧ Below w.heap.size w w') (first | with_reducible exact ⟨g0, g1, g2, g3, g4, g5, f0, f1, HB⟩ | (with_reducible (refine ⟨?_, ?_, ?_, ?_, ?_, ?_, ?_, ?_, ?_⟩ <;> assumption)) | (with_reducible (refine PairS.setA (pa := (fun _ => .bool false)) (pb := (fun _ => .bool false)) ⟨?_, ?_, ?_, ?_, ?_, ?_, ?_, ?_, ?_⟩ (Nat.le_refl _) (by simp) false (setsC_at w.heap.size false) (nearC_at (w.heap.size + 1) (.bool false)) <;> assumption)) | (with_reducible (refine PairS.setB (pa := (fun _ => .bool false)) (pb := (fun _ => .bool false)) (PairS.setA (pa := (fun _ => .bool false)) (pb := (fun _ => .bool false)) ⟨?_, ?_, ?_, ?_, ?_, ?_, ?_, ?_, ?_⟩ (Nat.le_refl _) (by simp) false (setsC_at w.heap.size false) (nearC_at (w.heap.size + 1) (.bool false))) (by simp) (by simp) false (setsC_at (w.heap.size + 1) false) (nearC_at w.heap.size (.bool false)) <;> assumption)))
    (first | (go_at_call_of 42 (Value.agg #[Value.bool false, Value.int IntKind.u64 h0, Value.int IntKind.u64 l0]); refine (withSignS w w.heap.size (w.heap.size + 1) (fun _ => .bool false) (fun _ => .bool false) h0 l0 h1 l1 (keepsC_at w.heap.size (.bool false)) (keepsC_at (w.heap.size + 1) (.bool false)) false false h0 l0 false HA.out _ ?_).mono ?_; (first | with_reducible exact ⟨g0, g1, g2, g3, g4, g5, f0, f1, HB⟩ | (with_reducible (refine ⟨?_, ?_, ?_, ?_, ?_, ?_, ?_, ?_, ?_⟩ <;> assumption))); rintro e w5 ⟨rfl, k0, k1, k2, k3, k4, k5, k6, k7, k8⟩) | (go_at_call_of 42 (Value.agg #[Value.bool false, Value.int IntKind.u64 h1, Value.int IntKind.u64 l1]); refine (withSignS w w.heap.size (w.heap.size + 1) (fun _ => .bool false) (fun _ => .bool false) h0 l0 h1 l1 (keepsC_at w.heap.size (.bool false)) (keepsC_at (w.heap.size + 1) (.bool false)) false false h1 l1 false HC.out _ ?_).mono ?_; (first | with_reducible exact ⟨g0, g1, g2, g3, g4, g5, f0, f1, HB⟩ | (with_reducible (refine ⟨?_, ?_, ?_, ?_, ?_, ?_, ?_, ?_, ?_⟩ <;> assumption))); rintro e w5 ⟨rfl, k0, k1, k2, k3, k4, k5, k6, k7, k8⟩))
  have hE := PairS.fin (pa := (fun _ => .bool false)) (pb := (fun _ => .bool false)) ⟨k0, k1, k2, k3, k4, k5, k6, k7, k8⟩ (Nat.le_refl _) (by simp) (by simp) false false (setsC_at w.heap.size false) (nearC_at (w.heap.size + 1) (.bool false))
  clear k0 k1 k2 k3 k4 k5 k6 k7 k8
  rename_i hHd
  clear hHd
  revert hE
  generalize ((((((w5.setCell ⟨w.heap.size, 0, none⟩ (.bool false)).setCell ⟨w.heap.size, 1, none⟩ (.int .u64 h0)).setCell ⟨w.heap.size, 2, none⟩ (.int .u64 l0)).setCell ⟨(w.heap.size + 1), 0, none⟩ (.bool false)).setCell ⟨(w.heap.size + 1), 1, none⟩ (.int .u64 h1)).setCell ⟨(w.heap.size + 1), 2, none⟩ (.int .u64 l1)) = wf
  rintro ⟨e0, e1, e2, e3, e4, e5, e6, e7, e8⟩
  go_wp2_with fail
  refine (implOrder false h0 l0 false h1 l1 _).mono ?_
  rintro e w9 ⟨rfl, hB9⟩
  have HZ := Lib.hid (bt2 e8 hB9)
  clear hB9
  go_wp2_with fail
  go_ret
  exact ⟨rfl, HZ.out⟩
set_option maxRecDepth 100000 in
set_option maxHeartbeats 4000000 in
theorem implCmp_fz (h0 l0 : Int) (HA : Hid (sgV false h0 l0 = false)) (HC : Hid (∀ g, sgV g 0 0 = false)) (w : World) :
    Calls Try.prog 23 #[.agg #[.bool false, .int .u64 h0, .int .u64 l0], .agg #[.bool true, .int .u64 0, .int .u64 0]] w fun e w' => e = .returned (.int .i64 (ordV h0 l0 0 0)) ∧ Below w.heap.size w w' := by
  go_enter Try.func23, Try.ntmps23
  go_wp2_with fail
  have HB : Below w.heap.size w ((w.alloc (.cells #[.bool false, .int .u64 h0, .int .u64 l0] 26)).alloc (.cells #[.bool true, .int .u64 0, .int .u64 0] 26)).drew := (((Below.refl _ _).alloc (Nat.le_refl _) _).alloc (by simp) _).drew
  have g0 : ((w.alloc (.cells #[.bool false, .int .u64 h0, .int .u64 l0] 26)).alloc (.cells #[.bool true, .int .u64 0, .int .u64 0] 26)).drew.cell? ⟨w.heap.size, 0, none⟩ = some (.bool false) := by go_simp
  have g1 : ((w.alloc (.cells #[.bool false, .int .u64 h0, .int .u64 l0] 26)).alloc (.cells #[.bool true, .int .u64 0, .int .u64 0] 26)).drew.cell? ⟨w.heap.size, 1, none⟩ = some (.int .u64 h0) := by go_simp
  have g2 : ((w.alloc (.cells #[.bool false, .int .u64 h0, .int .u64 l0] 26)).alloc (.cells #[.bool true, .int .u64 0, .int .u64 0] 26)).drew.cell? ⟨w.heap.size, 2, none⟩ = some (.int .u64 l0) := by go_simp
  have f0 : ∀ k, ((w.alloc (.cells #[.bool false, .int .u64 h0, .int .u64 l0] 26)).alloc (.cells #[.bool true, .int .u64 0, .int .u64 0] 26)).drew.frozen? ⟨w.heap.size, k, none⟩ = false := fun k => free_blk (w := ((w.alloc (.cells #[.bool false, .int .u64 h0, .int .u64 l0] 26)).alloc (.cells #[.bool true, .int .u64 0, .int .u64 0] 26))) (cs := #[.bool false, .int .u64 h0, .int .u64 l0]) (T := 26) (by rw [Below.heap_alloc _ _ _ (by simp)]; exact box_new _ _) k
  have g3 : ((w.alloc (.cells #[.bool false, .int .u64 h0, .int .u64 l0] 26)).alloc (.cells #[.bool true, .int .u64 0, .int .u64 0] 26)).drew.cell? ⟨(w.heap.size + 1), 0, none⟩ = some (.bool true) := by go_simp
  have g4 : ((w.alloc (.cells #[.bool false, .int .u64 h0, .int .u64 l0] 26)).alloc (.cells #[.bool true, .int .u64 0, .int .u64 0] 26)).drew.cell? ⟨(w.heap.size + 1), 1, none⟩ = some (.int .u64 0) := by go_simp
  have g5 : ((w.alloc (.cells #[.bool false, .int .u64 h0, .int .u64 l0] 26)).alloc (.cells #[.bool true, .int .u64 0, .int .u64 0] 26)).drew.cell? ⟨(w.heap.size + 1), 2, none⟩ = some (.int .u64 0) := by go_simp
  have f1 : ∀ k, ((w.alloc (.cells #[.bool false, .int .u64 h0, .int .u64 l0] 26)).alloc (.cells #[.bool true, .int .u64 0, .int .u64 0] 26)).drew.frozen? ⟨(w.heap.size + 1), k, none⟩ = false := fun k => free_blk (w := ((w.alloc (.cells #[.bool false, .int .u64 h0, .int .u64 l0] 26)).alloc (.cells #[.bool true, .int .u64 0, .int .u64 0] 26))) (cs := #[.bool true, .int .u64 0, .int .u64 0]) (T := 26) (by have := box_new (w.alloc (.cells #[.bool false, .int .u64 h0, .int .u64 l0] 26)) (.cells #[.bool true, .int .u64 0, .int .u64 0] 26); rwa [show (w.alloc (.cells #[.bool false, .int .u64 h0, .int .u64 l0] 26)).heap.size = w.heap.size + 1 by simp] at this) k
  have g3n := nb_mk g3
  clear g3
  refine wp_region_noPanic ?_
  refine wp_region_held_drew (S := (fun w' => w'.cell? ⟨w.heap.size, 0, none⟩ = some (.bool false) ∧ w'.cell? ⟨w.heap.size, 1, none⟩ = some (.int .u64 h0) ∧ w'.cell? ⟨w.heap.size, 2, none⟩ = some (.int .u64 l0) ∧ w'.cell? ⟨(w.heap.size + 1), 0, none⟩ = some (.bool (nb w' (w.heap.size + 1))) ∧ w'.cell? ⟨(w.heap.size + 1), 1, none⟩ = some (.int .u64 0) ∧ w'.cell? ⟨(w.heap.size + 1), 2, none⟩ = some (.int .u64 0) ∧ (∀ k, w'.frozen? ⟨w.heap.size, k, none⟩ = false) ∧ (∀ k, w'.frozen? ⟨(w.heap.size + 1), k, none⟩ = false) ∧ Below w.heap.size w w')) (by kernel_rfl) ⟨g0, g1, g2, g3n, g4, g5, f0, f1, HB⟩ (fun hHeld => ?_)
  clear g0 g1 g2 g3n g4 g5 f0 f1 HB
  refine wpAnyH_take (i := 0) (oi := ?o5) (v := ?v5) ?hi5 ?hs5 ?hf5 ?hr5 ?hQ5 ?hy5 ?hS5 ?rest5
  case hi5 => rfl
  case hs5 => kernel_rfl
  case hf5 => kernel_rfl
  case hr5 => kernel_rfl
  case hQ5 => exact fun _ _ _ h => h
  case hS5 => assumption
  case hy5 =>
    refine Or.inl ⟨by kernel_rfl, ?_⟩
    intro w' hSw
    (try dsimp only at hSw)
    go_simp
    (try rfl)
  (try simp only [List.getElem_toArray, List.getElem_cons_zero, Act.put, List.setIfInBounds_toArray, List.set_cons_zero, List.set_cons_succ])
  refine wpAnyH_take (i := 4) (oi := ?o6) (v := ?v6) ?hi6 ?hs6 ?hf6 ?hr6 ?hQ6 ?hy6 ?hS6 ?rest6
  case hi6 => rfl
  case hs6 => kernel_rfl
  case hf6 => kernel_rfl
  case hr6 => kernel_rfl
  case hQ6 => exact fun _ _ _ h => h
  case hS6 => assumption
  case hy6 =>
    refine Or.inl ⟨by kernel_rfl, ?_⟩
    intro w' hSw
    (try dsimp only at hSw)
    go_simp
    (try rfl)
  (try simp only [List.getElem_toArray, List.getElem_cons_succ, List.getElem_cons_zero, Act.put, List.setIfInBounds_toArray, List.set_cons_zero, List.set_cons_succ])
  refine wpAnyH_take (i := 1) (oi := ?o7) (v := ?v7) ?hi7 ?hs7 ?hf7 ?hr7 ?hQ7 ?hy7 ?hS7 ?rest7
  case hi7 => rfl
  case hs7 => kernel_rfl
  case hf7 => kernel_rfl
  case hr7 => kernel_rfl
  case hQ7 => exact fun _ _ _ h => h
  case hS7 => assumption
  case hy7 =>
    refine Or.inl ⟨by kernel_rfl, ?_⟩
    intro w' hSw
    (try dsimp only at hSw)
    go_simp
    (try rfl)
  (try simp only [List.getElem_toArray, List.getElem_cons_succ, List.getElem_cons_zero, Act.put, List.setIfInBounds_toArray, List.set_cons_zero, List.set_cons_succ])
  refine wpAnyH_take (i := 2) (oi := ?o8) (v := ?v8) ?hi8 ?hs8 ?hf8 ?hr8 ?hQ8 ?hy8 ?hS8 ?rest8
  case hi8 => rfl
  case hs8 => kernel_rfl
  case hf8 => kernel_rfl
  case hr8 => kernel_rfl
  case hQ8 => exact fun _ _ _ h => h
  case hS8 => assumption
  case hy8 =>
    refine Or.inl ⟨by kernel_rfl, ?_⟩
    intro w' hSw
    (try dsimp only at hSw)
    go_simp
    (try rfl)
  (try simp only [List.getElem_toArray, List.getElem_cons_succ, List.getElem_cons_zero, Act.put, List.setIfInBounds_toArray, List.set_cons_zero, List.set_cons_succ])
  refine wpAnyH_ready (rs := [3, 5, 6]) (by kernel_rfl) (by simp) ?_
  refine (AllReadyH.cons rfl (fun K hK => ?_) (AllReadyH.cons rfl (fun K hK => ?_) (AllReadyH.cons rfl (fun K hK => ?_) AllReadyH.nil)))
  · skip
    go_simp
    refine (withSignS w w.heap.size (w.heap.size + 1) (fun _ => .bool false) (fun wz => .bool (nb wz (w.heap.size + 1))) h0 l0 0 0 (keepsC_at w.heap.size (.bool false)) (keepsC_nb (w.heap.size + 1)) false false h0 l0 false HA.out _ ?_).mono ?_
    · with_reducible assumption
    rintro e w5 ⟨rfl, hP⟩
    refine hK.out _ _ ?_ (fun hHeld2 => ?_)
    · exact hP
    clear hK K hHeld
    have hHeld := hHeld2
    clear hHeld2
    (try simp only [List.getElem_toArray, List.getElem_cons_succ, List.getElem_cons_zero, Act.put, List.setIfInBounds_toArray, List.set_cons_zero, List.set_cons_succ])
    refine wpAnyH_ready (rs := [5, 6]) (by kernel_rfl) (by simp) ?_
    refine (AllReadyH.cons rfl (fun K hK => ?_) (AllReadyH.cons rfl (fun K hK => ?_) AllReadyH.nil))
    · skip
      go_simp
      refine hK.out _ _ ?_ (fun hHeld2 => ?_)
      · with_reducible assumption
      clear hK K hHeld
      have hHeld := hHeld2
      clear hHeld2
      (try simp only [List.getElem_toArray, List.getElem_cons_succ, List.getElem_cons_zero, Act.put, List.setIfInBounds_toArray, List.set_cons_zero, List.set_cons_succ])
      refine wpAnyH_ready (rs := [6]) (by kernel_rfl) (by simp) ?_
      refine (AllReadyH.cons rfl (fun K hK => ?_) AllReadyH.nil)
      go_simp
      refine hK.out _ _ ?_ (fun hHeld2 => ?_)
      · with_reducible assumption
      clear hK K hHeld
      have hHeld := hHeld2
      clear hHeld2
      (try simp only [List.getElem_toArray, List.getElem_cons_succ, List.getElem_cons_zero, Act.put, List.setIfInBounds_toArray, List.set_cons_zero, List.set_cons_succ])
      refine wpAnyH_ready (rs := [7]) (by kernel_rfl) (by simp) ?_
      refine (AllReadyH.cons rfl (fun K hK => ?_) AllReadyH.nil)
      go_simp
      refine (withSignS w w.heap.size (w.heap.size + 1) (fun _ => .bool false) (fun wz => .bool (nb wz (w.heap.size + 1))) h0 l0 0 0 (keepsC_at w.heap.size (.bool false)) (keepsC_nb (w.heap.size + 1)) _ _ 0 0 false (HC.out _) _ ?_).mono ?_
      · with_reducible assumption
      rintro e w5 ⟨rfl, hP⟩
      refine hK.out _ _ ?_ (fun hHeld2 => ?_)
      · exact hP
      clear hK K hHeld
      have hHeld := hHeld2
      clear hHeld2
      (try simp only [List.getElem_toArray, List.getElem_cons_succ, List.getElem_cons_zero, Act.put, List.setIfInBounds_toArray, List.set_cons_zero, List.set_cons_succ])
      refine wpAnyH_ready (rs := [8]) (by kernel_rfl) (by simp) ?_
      refine (AllReadyH.cons rfl (fun K hK => ?_) AllReadyH.nil)
      go_simp
      refine hK.out _ _ ?_ (fun hHeld2 => ?_)
      · exact PairS.setA (pa := (fun _ => .bool false)) (pb := (fun wz => .bool (nb wz (w.heap.size + 1)))) hP (Nat.le_refl _) (by simp) false (setsC_at w.heap.size false) (nearC_nb (w.heap.size + 1))
      clear hK K hHeld
      have hHeld := hHeld2
      clear hHeld2
      (try simp only [List.getElem_toArray, List.getElem_cons_succ, List.getElem_cons_zero, Act.put, List.setIfInBounds_toArray, List.set_cons_zero, List.set_cons_succ])
      refine wpAnyH_ready (rs := [9]) (by kernel_rfl) (by simp) ?_
      refine (AllReadyH.cons rfl (fun K hK => ?_) AllReadyH.nil)
      go_simp
      refine hK.out _ _ ?_ (fun hHeld2 => ?_)
      · exact PairS.setB (pa := (fun _ => .bool false)) (pb := (fun wz => .bool (nb wz (w.heap.size + 1)))) (PairS.setA (pa := (fun _ => .bool false)) (pb := (fun wz => .bool (nb wz (w.heap.size + 1)))) hP (Nat.le_refl _) (by simp) false (setsC_at w.heap.size false) (nearC_nb (w.heap.size + 1))) (by simp) (by simp) false (setsC_nb (w.heap.size + 1) false) (nearC_at w.heap.size (.bool false))
      clear hK K hHeld
      have hHeld := hHeld2
      clear hHeld2
      (try simp only [List.getElem_toArray, List.getElem_cons_succ, List.getElem_cons_zero, Act.put, List.setIfInBounds_toArray, List.set_cons_zero, List.set_cons_succ])
      refine wpAnyH_done (by kernel_rfl) ?_ _
      refine NoPanic.normal ?_
      have hE := PairS.fin (pa := (fun _ => .bool false)) (pb := (fun wz => .bool (nb wz (w.heap.size + 1)))) hP (Nat.le_refl _) (by simp) (by simp) false false (setsC_at w.heap.size false) (nearC_nb (w.heap.size + 1))
      clear hP hHeld
      revert hE
      generalize ((((((w5.setCell ⟨w.heap.size, 0, none⟩ (.bool false)).setCell ⟨w.heap.size, 1, none⟩ (.int .u64 h0)).setCell ⟨w.heap.size, 2, none⟩ (.int .u64 l0)).setCell ⟨(w.heap.size + 1), 0, none⟩ (.bool false)).setCell ⟨(w.heap.size + 1), 1, none⟩ (.int .u64 0)).setCell ⟨(w.heap.size + 1), 2, none⟩ (.int .u64 0)) = wf
      rintro ⟨e0, e1, e2, e3, e4, e5, e6, e7, e8⟩
      go_wp2_with fail
      refine (implOrder false h0 l0 false 0 0 _).mono ?_
      rintro e w9 ⟨rfl, hB9⟩
      have HZ := Lib.hid (bt2 e8 hB9)
      clear hB9
      go_wp2_with fail
      go_ret
      exact ⟨rfl, HZ.out⟩
    · skip
      go_simp
      refine hK.out _ _ ?_ (fun hHeld2 => ?_)
      · with_reducible assumption
      clear hK K hHeld
      have hHeld := hHeld2
      clear hHeld2
      (try simp only [List.getElem_toArray, List.getElem_cons_succ, List.getElem_cons_zero, Act.put, List.setIfInBounds_toArray, List.set_cons_zero, List.set_cons_succ])
      refine wpAnyH_ready (rs := [5]) (by kernel_rfl) (by simp) ?_
      refine (AllReadyH.cons rfl (fun K hK => ?_) AllReadyH.nil)
      go_simp
      refine hK.out _ _ ?_ (fun hHeld2 => ?_)
      · with_reducible assumption
      clear hK K hHeld
      have hHeld := hHeld2
      clear hHeld2
      (try simp only [List.getElem_toArray, List.getElem_cons_succ, List.getElem_cons_zero, Act.put, List.setIfInBounds_toArray, List.set_cons_zero, List.set_cons_succ])
      refine wpAnyH_ready (rs := [7]) (by kernel_rfl) (by simp) ?_
      refine (AllReadyH.cons rfl (fun K hK => ?_) AllReadyH.nil)
      go_simp
      refine (withSignS w w.heap.size (w.heap.size + 1) (fun _ => .bool false) (fun wz => .bool (nb wz (w.heap.size + 1))) h0 l0 0 0 (keepsC_at w.heap.size (.bool false)) (keepsC_nb (w.heap.size + 1)) _ _ 0 0 false (HC.out _) _ ?_).mono ?_
      · with_reducible assumption
      rintro e w5 ⟨rfl, hP⟩
      refine hK.out _ _ ?_ (fun hHeld2 => ?_)
      · exact hP
      clear hK K hHeld
      have hHeld := hHeld2
      clear hHeld2
      (try simp only [List.getElem_toArray, List.getElem_cons_succ, List.getElem_cons_zero, Act.put, List.setIfInBounds_toArray, List.set_cons_zero, List.set_cons_succ])
      refine wpAnyH_ready (rs := [8]) (by kernel_rfl) (by simp) ?_
      refine (AllReadyH.cons rfl (fun K hK => ?_) AllReadyH.nil)
      go_simp
      refine hK.out _ _ ?_ (fun hHeld2 => ?_)
      · exact PairS.setA (pa := (fun _ => .bool false)) (pb := (fun wz => .bool (nb wz (w.heap.size + 1)))) hP (Nat.le_refl _) (by simp) false (setsC_at w.heap.size false) (nearC_nb (w.heap.size + 1))
      clear hK K hHeld
      have hHeld := hHeld2
      clear hHeld2
      (try simp only [List.getElem_toArray, List.getElem_cons_succ, List.getElem_cons_zero, Act.put, List.setIfInBounds_toArray, List.set_cons_zero, List.set_cons_succ])
      refine wpAnyH_ready (rs := [9]) (by kernel_rfl) (by simp) ?_
      refine (AllReadyH.cons rfl (fun K hK => ?_) AllReadyH.nil)
      go_simp
      refine hK.out _ _ ?_ (fun hHeld2 => ?_)
      · exact PairS.setB (pa := (fun _ => .bool false)) (pb := (fun wz => .bool (nb wz (w.heap.size + 1)))) (PairS.setA (pa := (fun _ => .bool false)) (pb := (fun wz => .bool (nb wz (w.heap.size + 1)))) hP (Nat.le_refl _) (by simp) false (setsC_at w.heap.size false) (nearC_nb (w.heap.size + 1))) (by simp) (by simp) false (setsC_nb (w.heap.size + 1) false) (nearC_at w.heap.size (.bool false))
      clear hK K hHeld
      have hHeld := hHeld2
      clear hHeld2
      (try simp only [List.getElem_toArray, List.getElem_cons_succ, List.getElem_cons_zero, Act.put, List.setIfInBounds_toArray, List.set_cons_zero, List.set_cons_succ])
      refine wpAnyH_done (by kernel_rfl) ?_ _
      refine NoPanic.normal ?_
      have hE := PairS.fin (pa := (fun _ => .bool false)) (pb := (fun wz => .bool (nb wz (w.heap.size + 1)))) hP (Nat.le_refl _) (by simp) (by simp) false false (setsC_at w.heap.size false) (nearC_nb (w.heap.size + 1))
      clear hP hHeld
      revert hE
      generalize ((((((w5.setCell ⟨w.heap.size, 0, none⟩ (.bool false)).setCell ⟨w.heap.size, 1, none⟩ (.int .u64 h0)).setCell ⟨w.heap.size, 2, none⟩ (.int .u64 l0)).setCell ⟨(w.heap.size + 1), 0, none⟩ (.bool false)).setCell ⟨(w.heap.size + 1), 1, none⟩ (.int .u64 0)).setCell ⟨(w.heap.size + 1), 2, none⟩ (.int .u64 0)) = wf
      rintro ⟨e0, e1, e2, e3, e4, e5, e6, e7, e8⟩
      go_wp2_with fail
      refine (implOrder false h0 l0 false 0 0 _).mono ?_
      rintro e w9 ⟨rfl, hB9⟩
      have HZ := Lib.hid (bt2 e8 hB9)
      clear hB9
      go_wp2_with fail
      go_ret
      exact ⟨rfl, HZ.out⟩
  · skip
    go_simp
    refine hK.out _ _ ?_ (fun hHeld2 => ?_)
    · with_reducible assumption
    clear hK K hHeld
    have hHeld := hHeld2
    clear hHeld2
    (try simp only [List.getElem_toArray, List.getElem_cons_succ, List.getElem_cons_zero, Act.put, List.setIfInBounds_toArray, List.set_cons_zero, List.set_cons_succ])
    refine wpAnyH_ready (rs := [3, 6]) (by kernel_rfl) (by simp) ?_
    refine (AllReadyH.cons rfl (fun K hK => ?_) (AllReadyH.cons rfl (fun K hK => ?_) AllReadyH.nil))
    · skip
      go_simp
      refine (withSignS w w.heap.size (w.heap.size + 1) (fun _ => .bool false) (fun wz => .bool (nb wz (w.heap.size + 1))) h0 l0 0 0 (keepsC_at w.heap.size (.bool false)) (keepsC_nb (w.heap.size + 1)) false false h0 l0 false HA.out _ ?_).mono ?_
      · with_reducible assumption
      rintro e w5 ⟨rfl, hP⟩
      refine hK.out _ _ ?_ (fun hHeld2 => ?_)
      · exact hP
      clear hK K hHeld
      have hHeld := hHeld2
      clear hHeld2
      (try simp only [List.getElem_toArray, List.getElem_cons_succ, List.getElem_cons_zero, Act.put, List.setIfInBounds_toArray, List.set_cons_zero, List.set_cons_succ])
      refine wpAnyH_ready (rs := [6]) (by kernel_rfl) (by simp) ?_
      refine (AllReadyH.cons rfl (fun K hK => ?_) AllReadyH.nil)
      go_simp
      refine hK.out _ _ ?_ (fun hHeld2 => ?_)
      · with_reducible assumption
      clear hK K hHeld
      have hHeld := hHeld2
      clear hHeld2
      (try simp only [List.getElem_toArray, List.getElem_cons_succ, List.getElem_cons_zero, Act.put, List.setIfInBounds_toArray, List.set_cons_zero, List.set_cons_succ])
      refine wpAnyH_ready (rs := [7]) (by kernel_rfl) (by simp) ?_
      refine (AllReadyH.cons rfl (fun K hK => ?_) AllReadyH.nil)
      go_simp
      refine (withSignS w w.heap.size (w.heap.size + 1) (fun _ => .bool false) (fun wz => .bool (nb wz (w.heap.size + 1))) h0 l0 0 0 (keepsC_at w.heap.size (.bool false)) (keepsC_nb (w.heap.size + 1)) _ _ 0 0 false (HC.out _) _ ?_).mono ?_
      · with_reducible assumption
      rintro e w5 ⟨rfl, hP⟩
      refine hK.out _ _ ?_ (fun hHeld2 => ?_)
      · exact hP
      clear hK K hHeld
      have hHeld := hHeld2
      clear hHeld2
      (try simp only [List.getElem_toArray, List.getElem_cons_succ, List.getElem_cons_zero, Act.put, List.setIfInBounds_toArray, List.set_cons_zero, List.set_cons_succ])
      refine wpAnyH_ready (rs := [8]) (by kernel_rfl) (by simp) ?_
      refine (AllReadyH.cons rfl (fun K hK => ?_) AllReadyH.nil)
      go_simp
      refine hK.out _ _ ?_ (fun hHeld2 => ?_)
      · exact PairS.setA (pa := (fun _ => .bool false)) (pb := (fun wz => .bool (nb wz (w.heap.size + 1)))) hP (Nat.le_refl _) (by simp) false (setsC_at w.heap.size false) (nearC_nb (w.heap.size + 1))
      clear hK K hHeld
      have hHeld := hHeld2
      clear hHeld2
      (try simp only [List.getElem_toArray, List.getElem_cons_succ, List.getElem_cons_zero, Act.put, List.setIfInBounds_toArray, List.set_cons_zero, List.set_cons_succ])
      refine wpAnyH_ready (rs := [9]) (by kernel_rfl) (by simp) ?_
      refine (AllReadyH.cons rfl (fun K hK => ?_) AllReadyH.nil)
      go_simp
      refine hK.out _ _ ?_ (fun hHeld2 => ?_)
      · exact PairS.setB (pa := (fun _ => .bool false)) (pb := (fun wz => .bool (nb wz (w.heap.size + 1)))) (PairS.setA (pa := (fun _ => .bool false)) (pb := (fun wz => .bool (nb wz (w.heap.size + 1)))) hP (Nat.le_refl _) (by simp) false (setsC_at w.heap.size false) (nearC_nb (w.heap.size + 1))) (by simp) (by simp) false (setsC_nb (w.heap.size + 1) false) (nearC_at w.heap.size (.bool false))
      clear hK K hHeld
      have hHeld := hHeld2
      clear hHeld2
      (try simp only [List.getElem_toArray, List.getElem_cons_succ, List.getElem_cons_zero, Act.put, List.setIfInBounds_toArray, List.set_cons_zero, List.set_cons_succ])
      refine wpAnyH_done (by kernel_rfl) ?_ _
      refine NoPanic.normal ?_
      have hE := PairS.fin (pa := (fun _ => .bool false)) (pb := (fun wz => .bool (nb wz (w.heap.size + 1)))) hP (Nat.le_refl _) (by simp) (by simp) false false (setsC_at w.heap.size false) (nearC_nb (w.heap.size + 1))
      clear hP hHeld
      revert hE
      generalize ((((((w5.setCell ⟨w.heap.size, 0, none⟩ (.bool false)).setCell ⟨w.heap.size, 1, none⟩ (.int .u64 h0)).setCell ⟨w.heap.size, 2, none⟩ (.int .u64 l0)).setCell ⟨(w.heap.size + 1), 0, none⟩ (.bool false)).setCell ⟨(w.heap.size + 1), 1, none⟩ (.int .u64 0)).setCell ⟨(w.heap.size + 1), 2, none⟩ (.int .u64 0)) = wf
      rintro ⟨e0, e1, e2, e3, e4, e5, e6, e7, e8⟩
      go_wp2_with fail
      refine (implOrder false h0 l0 false 0 0 _).mono ?_
      rintro e w9 ⟨rfl, hB9⟩
      have HZ := Lib.hid (bt2 e8 hB9)
      clear hB9
      go_wp2_with fail
      go_ret
      exact ⟨rfl, HZ.out⟩
    · skip
      go_simp
      refine hK.out _ _ ?_ (fun hHeld2 => ?_)
      · with_reducible assumption
      clear hK K hHeld
      have hHeld := hHeld2
      clear hHeld2
      (try simp only [List.getElem_toArray, List.getElem_cons_succ, List.getElem_cons_zero, Act.put, List.setIfInBounds_toArray, List.set_cons_zero, List.set_cons_succ])
      refine wpAnyH_ready (rs := [3]) (by kernel_rfl) (by simp) ?_
      refine (AllReadyH.cons rfl (fun K hK => ?_) AllReadyH.nil)
      go_simp
      refine (withSignS w w.heap.size (w.heap.size + 1) (fun _ => .bool false) (fun wz => .bool (nb wz (w.heap.size + 1))) h0 l0 0 0 (keepsC_at w.heap.size (.bool false)) (keepsC_nb (w.heap.size + 1)) false false h0 l0 false HA.out _ ?_).mono ?_
      · with_reducible assumption
      rintro e w5 ⟨rfl, hP⟩
      refine hK.out _ _ ?_ (fun hHeld2 => ?_)
      · exact hP
      clear hK K hHeld
      have hHeld := hHeld2
      clear hHeld2
      (try simp only [List.getElem_toArray, List.getElem_cons_succ, List.getElem_cons_zero, Act.put, List.setIfInBounds_toArray, List.set_cons_zero, List.set_cons_succ])
      refine wpAnyH_ready (rs := [7]) (by kernel_rfl) (by simp) ?_
      refine (AllReadyH.cons rfl (fun K hK => ?_) AllReadyH.nil)
      go_simp
      refine (withSignS w w.heap.size (w.heap.size + 1) (fun _ => .bool false) (fun wz => .bool (nb wz (w.heap.size + 1))) h0 l0 0 0 (keepsC_at w.heap.size (.bool false)) (keepsC_nb (w.heap.size + 1)) _ _ 0 0 false (HC.out _) _ ?_).mono ?_
      · with_reducible assumption
      rintro e w5 ⟨rfl, hP⟩
      refine hK.out _ _ ?_ (fun hHeld2 => ?_)
      · exact hP
      clear hK K hHeld
      have hHeld := hHeld2
      clear hHeld2
      (try simp only [List.getElem_toArray, List.getElem_cons_succ, List.getElem_cons_zero, Act.put, List.setIfInBounds_toArray, List.set_cons_zero, List.set_cons_succ])
      refine wpAnyH_ready (rs := [8]) (by kernel_rfl) (by simp) ?_
      refine (AllReadyH.cons rfl (fun K hK => ?_) AllReadyH.nil)
      go_simp
      refine hK.out _ _ ?_ (fun hHeld2 => ?_)
      · exact PairS.setA (pa := (fun _ => .bool false)) (pb := (fun wz => .bool (nb wz (w.heap.size + 1)))) hP (Nat.le_refl _) (by simp) false (setsC_at w.heap.size false) (nearC_nb (w.heap.size + 1))
      clear hK K hHeld
      have hHeld := hHeld2
      clear hHeld2
      (try simp only [List.getElem_toArray, List.getElem_cons_succ, List.getElem_cons_zero, Act.put, List.setIfInBounds_toArray, List.set_cons_zero, List.set_cons_succ])
      refine wpAnyH_ready (rs := [9]) (by kernel_rfl) (by simp) ?_
      refine (AllReadyH.cons rfl (fun K hK => ?_) AllReadyH.nil)
      go_simp
      refine hK.out _ _ ?_ (fun hHeld2 => ?_)
      · exact PairS.setB (pa := (fun _ => .bool false)) (pb := (fun wz => .bool (nb wz (w.heap.size + 1)))) (PairS.setA (pa := (fun _ => .bool false)) (pb := (fun wz => .bool (nb wz (w.heap.size + 1)))) hP (Nat.le_refl _) (by simp) false (setsC_at w.heap.size false) (nearC_nb (w.heap.size + 1))) (by simp) (by simp) false (setsC_nb (w.heap.size + 1) false) (nearC_at w.heap.size (.bool false))
      clear hK K hHeld
      have hHeld := hHeld2
      clear hHeld2
      (try simp only [List.getElem_toArray, List.getElem_cons_succ, List.getElem_cons_zero, Act.put, List.setIfInBounds_toArray, List.set_cons_zero, List.set_cons_succ])
      refine wpAnyH_done (by kernel_rfl) ?_ _
      refine NoPanic.normal ?_
      have hE := PairS.fin (pa := (fun _ => .bool false)) (pb := (fun wz => .bool (nb wz (w.heap.size + 1)))) hP (Nat.le_refl _) (by simp) (by simp) false false (setsC_at w.heap.size false) (nearC_nb (w.heap.size + 1))
      clear hP hHeld
      revert hE
      generalize ((((((w5.setCell ⟨w.heap.size, 0, none⟩ (.bool false)).setCell ⟨w.heap.size, 1, none⟩ (.int .u64 h0)).setCell ⟨w.heap.size, 2, none⟩ (.int .u64 l0)).setCell ⟨(w.heap.size + 1), 0, none⟩ (.bool false)).setCell ⟨(w.heap.size + 1), 1, none⟩ (.int .u64 0)).setCell ⟨(w.heap.size + 1), 2, none⟩ (.int .u64 0)) = wf
      rintro ⟨e0, e1, e2, e3, e4, e5, e6, e7, e8⟩
      go_wp2_with fail
      refine (implOrder false h0 l0 false 0 0 _).mono ?_
      rintro e w9 ⟨rfl, hB9⟩
      have HZ := Lib.hid (bt2 e8 hB9)
      clear hB9
      go_wp2_with fail
      go_ret
      exact ⟨rfl, HZ.out⟩
  · skip
    go_simp
    refine hK.out _ _ ?_ (fun hHeld2 => ?_)
    · with_reducible assumption
    clear hK K hHeld
    have hHeld := hHeld2
    clear hHeld2
    (try simp only [List.getElem_toArray, List.getElem_cons_succ, List.getElem_cons_zero, Act.put, List.setIfInBounds_toArray, List.set_cons_zero, List.set_cons_succ])
    refine wpAnyH_ready (rs := [3, 5]) (by kernel_rfl) (by simp) ?_
    refine (AllReadyH.cons rfl (fun K hK => ?_) (AllReadyH.cons rfl (fun K hK => ?_) AllReadyH.nil))
    · skip
      go_simp
      refine (withSignS w w.heap.size (w.heap.size + 1) (fun _ => .bool false) (fun wz => .bool (nb wz (w.heap.size + 1))) h0 l0 0 0 (keepsC_at w.heap.size (.bool false)) (keepsC_nb (w.heap.size + 1)) false false h0 l0 false HA.out _ ?_).mono ?_
      · with_reducible assumption
      rintro e w5 ⟨rfl, hP⟩
      refine hK.out _ _ ?_ (fun hHeld2 => ?_)
      · exact hP
      clear hK K hHeld
      have hHeld := hHeld2
      clear hHeld2
      (try simp only [List.getElem_toArray, List.getElem_cons_succ, List.getElem_cons_zero, Act.put, List.setIfInBounds_toArray, List.set_cons_zero, List.set_cons_succ])
      refine wpAnyH_ready (rs := [5]) (by kernel_rfl) (by simp) ?_
      refine (AllReadyH.cons rfl (fun K hK => ?_) AllReadyH.nil)
      go_simp
      refine hK.out _ _ ?_ (fun hHeld2 => ?_)
      · with_reducible assumption
      clear hK K hHeld
      have hHeld := hHeld2
      clear hHeld2
      (try simp only [List.getElem_toArray, List.getElem_cons_succ, List.getElem_cons_zero, Act.put, List.setIfInBounds_toArray, List.set_cons_zero, List.set_cons_succ])
      refine wpAnyH_ready (rs := [7]) (by kernel_rfl) (by simp) ?_
      refine (AllReadyH.cons rfl (fun K hK => ?_) AllReadyH.nil)
      go_simp
      refine (withSignS w w.heap.size (w.heap.size + 1) (fun _ => .bool false) (fun wz => .bool (nb wz (w.heap.size + 1))) h0 l0 0 0 (keepsC_at w.heap.size (.bool false)) (keepsC_nb (w.heap.size + 1)) _ _ 0 0 false (HC.out _) _ ?_).mono ?_
      · with_reducible assumption
      rintro e w5 ⟨rfl, hP⟩
      refine hK.out _ _ ?_ (fun hHeld2 => ?_)
      · exact hP
      clear hK K hHeld
      have hHeld := hHeld2
      clear hHeld2
      (try simp only [List.getElem_toArray, List.getElem_cons_succ, List.getElem_cons_zero, Act.put, List.setIfInBounds_toArray, List.set_cons_zero, List.set_cons_succ])
      refine wpAnyH_ready (rs := [8]) (by kernel_rfl) (by simp) ?_
      refine (AllReadyH.cons rfl (fun K hK => ?_) AllReadyH.nil)
      go_simp
      refine hK.out _ _ ?_ (fun hHeld2 => ?_)
      · exact PairS.setA (pa := (fun _ => .bool false)) (pb := (fun wz => .bool (nb wz (w.heap.size + 1)))) hP (Nat.le_refl _) (by simp) false (setsC_at w.heap.size false) (nearC_nb (w.heap.size + 1))
      clear hK K hHeld
      have hHeld := hHeld2
      clear hHeld2
      (try simp only [List.getElem_toArray, List.getElem_cons_succ, List.getElem_cons_zero, Act.put, List.setIfInBounds_toArray, List.set_cons_zero, List.set_cons_succ])
      refine wpAnyH_ready (rs := [9]) (by kernel_rfl) (by simp) ?_
      refine (AllReadyH.cons rfl (fun K hK => ?_) AllReadyH.nil)
      go_simp
      refine hK.out _ _ ?_ (fun hHeld2 => ?_)
      · exact PairS.setB (pa := (fun _ => .bool false)) (pb := (fun wz => .bool (nb wz (w.heap.size + 1)))) (PairS.setA (pa := (fun _ => .bool false)) (pb := (fun wz => .bool (nb wz (w.heap.size + 1)))) hP (Nat.le_refl _) (by simp) false (setsC_at w.heap.size false) (nearC_nb (w.heap.size + 1))) (by simp) (by simp) false (setsC_nb (w.heap.size + 1) false) (nearC_at w.heap.size (.bool false))
      clear hK K hHeld
      have hHeld := hHeld2
      clear hHeld2
      (try simp only [List.getElem_toArray, List.getElem_cons_succ, List.getElem_cons_zero, Act.put, List.setIfInBounds_toArray, List.set_cons_zero, List.set_cons_succ])
      refine wpAnyH_done (by kernel_rfl) ?_ _
      refine NoPanic.normal ?_
      have hE := PairS.fin (pa := (fun _ => .bool false)) (pb := (fun wz => .bool (nb wz (w.heap.size + 1)))) hP (Nat.le_refl _) (by simp) (by simp) false false (setsC_at w.heap.size false) (nearC_nb (w.heap.size + 1))
      clear hP hHeld
      revert hE
      generalize ((((((w5.setCell ⟨w.heap.size, 0, none⟩ (.bool false)).setCell ⟨w.heap.size, 1, none⟩ (.int .u64 h0)).setCell ⟨w.heap.size, 2, none⟩ (.int .u64 l0)).setCell ⟨(w.heap.size + 1), 0, none⟩ (.bool false)).setCell ⟨(w.heap.size + 1), 1, none⟩ (.int .u64 0)).setCell ⟨(w.heap.size + 1), 2, none⟩ (.int .u64 0)) = wf
      rintro ⟨e0, e1, e2, e3, e4, e5, e6, e7, e8⟩
      go_wp2_with fail
      refine (implOrder false h0 l0 false 0 0 _).mono ?_
      rintro e w9 ⟨rfl, hB9⟩
      have HZ := Lib.hid (bt2 e8 hB9)
      clear hB9
      go_wp2_with fail
      go_ret
      exact ⟨rfl, HZ.out⟩
    · skip
      go_simp
      refine hK.out _ _ ?_ (fun hHeld2 => ?_)
      · with_reducible assumption
      clear hK K hHeld
      have hHeld := hHeld2
      clear hHeld2
      (try simp only [List.getElem_toArray, List.getElem_cons_succ, List.getElem_cons_zero, Act.put, List.setIfInBounds_toArray, List.set_cons_zero, List.set_cons_succ])
      refine wpAnyH_ready (rs := [3]) (by kernel_rfl) (by simp) ?_
      refine (AllReadyH.cons rfl (fun K hK => ?_) AllReadyH.nil)
      go_simp
      refine (withSignS w w.heap.size (w.heap.size + 1) (fun _ => .bool false) (fun wz => .bool (nb wz (w.heap.size + 1))) h0 l0 0 0 (keepsC_at w.heap.size (.bool false)) (keepsC_nb (w.heap.size + 1)) false false h0 l0 false HA.out _ ?_).mono ?_
      · with_reducible assumption
      rintro e w5 ⟨rfl, hP⟩
      refine hK.out _ _ ?_ (fun hHeld2 => ?_)
      · exact hP
      clear hK K hHeld
      have hHeld := hHeld2
      clear hHeld2
      (try simp only [List.getElem_toArray, List.getElem_cons_succ, List.getElem_cons_zero, Act.put, List.setIfInBounds_toArray, List.set_cons_zero, List.set_cons_succ])
      refine wpAnyH_ready (rs := [7]) (by kernel_rfl) (by simp) ?_
      refine (AllReadyH.cons rfl (fun K hK => ?_) AllReadyH.nil)
      go_simp
      refine (withSignS w w.heap.size (w.heap.size + 1) (fun _ => .bool false) (fun wz => .bool (nb wz (w.heap.size + 1))) h0 l0 0 0 (keepsC_at w.heap.size (.bool false)) (keepsC_nb (w.heap.size + 1)) _ _ 0 0 false (HC.out _) _ ?_).mono ?_
      · with_reducible assumption
      rintro e w5 ⟨rfl, hP⟩
      refine hK.out _ _ ?_ (fun hHeld2 => ?_)
      · exact hP
      clear hK K hHeld
      have hHeld := hHeld2
      clear hHeld2
      (try simp only [List.getElem_toArray, List.getElem_cons_succ, List.getElem_cons_zero, Act.put, List.setIfInBounds_toArray, List.set_cons_zero, List.set_cons_succ])
      refine wpAnyH_ready (rs := [8]) (by kernel_rfl) (by simp) ?_
      refine (AllReadyH.cons rfl (fun K hK => ?_) AllReadyH.nil)
      go_simp
      refine hK.out _ _ ?_ (fun hHeld2 => ?_)
      · exact PairS.setA (pa := (fun _ => .bool false)) (pb := (fun wz => .bool (nb wz (w.heap.size + 1)))) hP (Nat.le_refl _) (by simp) false (setsC_at w.heap.size false) (nearC_nb (w.heap.size + 1))
      clear hK K hHeld
      have hHeld := hHeld2
      clear hHeld2
      (try simp only [List.getElem_toArray, List.getElem_cons_succ, List.getElem_cons_zero, Act.put, List.setIfInBounds_toArray, List.set_cons_zero, List.set_cons_succ])
      refine wpAnyH_ready (rs := [9]) (by kernel_rfl) (by simp) ?_
      refine (AllReadyH.cons rfl (fun K hK => ?_) AllReadyH.nil)
      go_simp
      refine hK.out _ _ ?_ (fun hHeld2 => ?_)
      · exact PairS.setB (pa := (fun _ => .bool false)) (pb := (fun wz => .bool (nb wz (w.heap.size + 1)))) (PairS.setA (pa := (fun _ => .bool false)) (pb := (fun wz => .bool (nb wz (w.heap.size + 1)))) hP (Nat.le_refl _) (by simp) false (setsC_at w.heap.size false) (nearC_nb (w.heap.size + 1))) (by simp) (by simp) false (setsC_nb (w.heap.size + 1) false) (nearC_at w.heap.size (.bool false))
      clear hK K hHeld
      have hHeld := hHeld2
      clear hHeld2
      (try simp only [List.getElem_toArray, List.getElem_cons_succ, List.getElem_cons_zero, Act.put, List.setIfInBounds_toArray, List.set_cons_zero, List.set_cons_succ])
      refine wpAnyH_done (by kernel_rfl) ?_ _
      refine NoPanic.normal ?_
      have hE := PairS.fin (pa := (fun _ => .bool false)) (pb := (fun wz => .bool (nb wz (w.heap.size + 1)))) hP (Nat.le_refl _) (by simp) (by simp) false false (setsC_at w.heap.size false) (nearC_nb (w.heap.size + 1))
      clear hP hHeld
      revert hE
      generalize ((((((w5.setCell ⟨w.heap.size, 0, none⟩ (.bool false)).setCell ⟨w.heap.size, 1, none⟩ (.int .u64 h0)).setCell ⟨w.heap.size, 2, none⟩ (.int .u64 l0)).setCell ⟨(w.heap.size + 1), 0, none⟩ (.bool false)).setCell ⟨(w.heap.size + 1), 1, none⟩ (.int .u64 0)).setCell ⟨(w.heap.size + 1), 2, none⟩ (.int .u64 0)) = wf
      rintro ⟨e0, e1, e2, e3, e4, e5, e6, e7, e8⟩
      go_wp2_with fail
      refine (implOrder false h0 l0 false 0 0 _).mono ?_
      rintro e w9 ⟨rfl, hB9⟩
      have HZ := Lib.hid (bt2 e8 hB9)
      clear hB9
      go_wp2_with fail
      go_ret
      exact ⟨rfl, HZ.out⟩
set_option maxRecDepth 100000 in
set_option maxHeartbeats 4000000 in
theorem implCmp_zt (h1 l1 : Int) (HA : Hid (∀ g, sgV g 0 0 = false)) (HC : Hid (sgV true h1 l1 = true)) (w : World) :
    Calls Try.prog 23 #[.agg #[.bool true, .int .u64 0, .int .u64 0], .agg #[.bool true, .int .u64 h1, .int .u64 l1]] w fun e w' => e = .returned (.int .i64 (1)) ∧ Below w.heap.size w w' := by
  go_enter Try.func23, Try.ntmps23
  go_wp2_with fail
  have HB : Below w.heap.size w ((w.alloc (.cells #[.bool true, .int .u64 0, .int .u64 0] 26)).alloc (.cells #[.bool true, .int .u64 h1, .int .u64 l1] 26)).drew := (((Below.refl _ _).alloc (Nat.le_refl _) _).alloc (by simp) _).drew
  have g0 : ((w.alloc (.cells #[.bool true, .int .u64 0, .int .u64 0] 26)).alloc (.cells #[.bool true, .int .u64 h1, .int .u64 l1] 26)).drew.cell? ⟨w.heap.size, 0, none⟩ = some (.bool true) := by go_simp
  have g1 : ((w.alloc (.cells #[.bool true, .int .u64 0, .int .u64 0] 26)).alloc (.cells #[.bool true, .int .u64 h1, .int .u64 l1] 26)).drew.cell? ⟨w.heap.size, 1, none⟩ = some (.int .u64 0) := by go_simp
  have g2 : ((w.alloc (.cells #[.bool true, .int .u64 0, .int .u64 0] 26)).alloc (.cells #[.bool true, .int .u64 h1, .int .u64 l1] 26)).drew.cell? ⟨w.heap.size, 2, none⟩ = some (.int .u64 0) := by go_simp
  have f0 : ∀ k, ((w.alloc (.cells #[.bool true, .int .u64 0, .int .u64 0] 26)).alloc (.cells #[.bool true, .int .u64 h1, .int .u64 l1] 26)).drew.frozen? ⟨w.heap.size, k, none⟩ = false := fun k => free_blk (w := ((w.alloc (.cells #[.bool true, .int .u64 0, .int .u64 0] 26)).alloc (.cells #[.bool true, .int .u64 h1, .int .u64 l1] 26))) (cs := #[.bool true, .int .u64 0, .int .u64 0]) (T := 26) (by rw [Below.heap_alloc _ _ _ (by simp)]; exact box_new _ _) k
  have g3 : ((w.alloc (.cells #[.bool true, .int .u64 0, .int .u64 0] 26)).alloc (.cells #[.bool true, .int .u64 h1, .int .u64 l1] 26)).drew.cell? ⟨(w.heap.size + 1), 0, none⟩ = some (.bool true) := by go_simp
  have g4 : ((w.alloc (.cells #[.bool true, .int .u64 0, .int .u64 0] 26)).alloc (.cells #[.bool true, .int .u64 h1, .int .u64 l1] 26)).drew.cell? ⟨(w.heap.size + 1), 1, none⟩ = some (.int .u64 h1) := by go_simp
  have g5 : ((w.alloc (.cells #[.bool true, .int .u64 0, .int .u64 0] 26)).alloc (.cells #[.bool true, .int .u64 h1, .int .u64 l1] 26)).drew.cell? ⟨(w.heap.size + 1), 2, none⟩ = some (.int .u64 l1) := by go_simp
  have f1 : ∀ k, ((w.alloc (.cells #[.bool true, .int .u64 0, .int .u64 0] 26)).alloc (.cells #[.bool true, .int .u64 h1, .int .u64 l1] 26)).drew.frozen? ⟨(w.heap.size + 1), k, none⟩ = false := fun k => free_blk (w := ((w.alloc (.cells #[.bool true, .int .u64 0, .int .u64 0] 26)).alloc (.cells #[.bool true, .int .u64 h1, .int .u64 l1] 26))) (cs := #[.bool true, .int .u64 h1, .int .u64 l1]) (T := 26) (by have := box_new (w.alloc (.cells #[.bool true, .int .u64 0, .int .u64 0] 26)) (.cells #[.bool true, .int .u64 h1, .int .u64 l1] 26); rwa [show (w.alloc (.cells #[.bool true, .int .u64 0, .int .u64 0] 26)).heap.size = w.heap.size + 1 by simp] at this) k
  have g0n := nb_mk g0
  clear g0
  refine wp_region_noPanic ?_
  refine wp_region_held_drew (S := (fun w' => w'.cell? ⟨w.heap.size, 0, none⟩ = some (.bool (nb w' w.heap.size)) ∧ w'.cell? ⟨w.heap.size, 1, none⟩ = some (.int .u64 0) ∧ w'.cell? ⟨w.heap.size, 2, none⟩ = some (.int .u64 0) ∧ w'.cell? ⟨(w.heap.size + 1), 0, none⟩ = some (.bool true) ∧ w'.cell? ⟨(w.heap.size + 1), 1, none⟩ = some (.int .u64 h1) ∧ w'.cell? ⟨(w.heap.size + 1), 2, none⟩ = some (.int .u64 l1) ∧ (∀ k, w'.frozen? ⟨w.heap.size, k, none⟩ = false) ∧ (∀ k, w'.frozen? ⟨(w.heap.size + 1), k, none⟩ = false) ∧ Below w.heap.size w w')) (by kernel_rfl) ⟨g0n, g1, g2, g3, g4, g5, f0, f1, HB⟩ (fun hHeld => ?_)
  clear g0n g1 g2 g3 g4 g5 f0 f1 HB
  refine wpAnyH_take (i := 0) (oi := ?o9) (v := ?v9) ?hi9 ?hs9 ?hf9 ?hr9 ?hQ9 ?hy9 ?hS9 ?rest9
  case hi9 => rfl
  case hs9 => kernel_rfl
  case hf9 => kernel_rfl
  case hr9 => kernel_rfl
  case hQ9 => exact fun _ _ _ h => h
  case hS9 => assumption
  case hy9 =>
    refine Or.inl ⟨by kernel_rfl, ?_⟩
    intro w' hSw
    (try dsimp only at hSw)
    go_simp
    (try rfl)
  (try simp only [List.getElem_toArray, List.getElem_cons_zero, Act.put, List.setIfInBounds_toArray, List.set_cons_zero, List.set_cons_succ])
  refine wpAnyH_take (i := 4) (oi := ?o10) (v := ?v10) ?hi10 ?hs10 ?hf10 ?hr10 ?hQ10 ?hy10 ?hS10 ?rest10
  case hi10 => rfl
  case hs10 => kernel_rfl
  case hf10 => kernel_rfl
  case hr10 => kernel_rfl
  case hQ10 => exact fun _ _ _ h => h
  case hS10 => assumption
  case hy10 =>
    refine Or.inl ⟨by kernel_rfl, ?_⟩
    intro w' hSw
    (try dsimp only at hSw)
    go_simp
    (try rfl)
  (try simp only [List.getElem_toArray, List.getElem_cons_succ, List.getElem_cons_zero, Act.put, List.setIfInBounds_toArray, List.set_cons_zero, List.set_cons_succ])
  refine wpAnyH_take (i := 5) (oi := ?o11) (v := ?v11) ?hi11 ?hs11 ?hf11 ?hr11 ?hQ11 ?hy11 ?hS11 ?rest11
  case hi11 => rfl
  case hs11 => kernel_rfl
  case hf11 => kernel_rfl
  case hr11 => kernel_rfl
  case hQ11 => exact fun _ _ _ h => h
  case hS11 => assumption
  case hy11 =>
    refine Or.inl ⟨by kernel_rfl, ?_⟩
    intro w' hSw
    (try dsimp only at hSw)
    go_simp
    (try rfl)
  (try simp only [List.getElem_toArray, List.getElem_cons_succ, List.getElem_cons_zero, Act.put, List.setIfInBounds_toArray, List.set_cons_zero, List.set_cons_succ])
  refine wpAnyH_take (i := 6) (oi := ?o12) (v := ?v12) ?hi12 ?hs12 ?hf12 ?hr12 ?hQ12 ?hy12 ?hS12 ?rest12
  case hi12 => rfl
  case hs12 => kernel_rfl
  case hf12 => kernel_rfl
  case hr12 => kernel_rfl
  case hQ12 => exact fun _ _ _ h => h
  case hS12 => assumption
  case hy12 =>
    refine Or.inl ⟨by kernel_rfl, ?_⟩
    intro w' hSw
    (try dsimp only at hSw)
    go_simp
    (try rfl)
  (try simp only [List.getElem_toArray, List.getElem_cons_succ, List.getElem_cons_zero, Act.put, List.setIfInBounds_toArray, List.set_cons_zero, List.set_cons_succ])
  refine wpAnyH_ready (rs := [1, 2]) (by kernel_rfl) (by simp) ?_
  refine (AllReadyH.cons rfl (fun K hK => ?_) (AllReadyH.cons rfl (fun K hK => ?_) AllReadyH.nil))
  · skip
    go_simp
    refine hK.out _ _ ?_ (fun hHeld2 => ?_)
    · with_reducible assumption
    clear hK K hHeld
    have hHeld := hHeld2
    clear hHeld2
    (try simp only [List.getElem_toArray, List.getElem_cons_succ, List.getElem_cons_zero, Act.put, List.setIfInBounds_toArray, List.set_cons_zero, List.set_cons_succ])
    refine wpAnyH_ready (rs := [2]) (by kernel_rfl) (by simp) ?_
    refine (AllReadyH.cons rfl (fun K hK => ?_) AllReadyH.nil)
    go_simp
    refine hK.out _ _ ?_ (fun hHeld2 => ?_)
    · with_reducible assumption
    clear hK K hHeld
    have hHeld := hHeld2
    clear hHeld2
    (try simp only [List.getElem_toArray, List.getElem_cons_succ, List.getElem_cons_zero, Act.put, List.setIfInBounds_toArray, List.set_cons_zero, List.set_cons_succ])
    refine wpAnyH_ready (rs := [3]) (by kernel_rfl) (by simp) ?_
    refine (AllReadyH.cons rfl (fun K hK => ?_) AllReadyH.nil)
    go_simp
    refine (withSignS w w.heap.size (w.heap.size + 1) (fun wz => .bool (nb wz w.heap.size)) (fun _ => .bool true) 0 0 h1 l1 (keepsC_nb w.heap.size) (keepsC_at (w.heap.size + 1) (.bool true)) _ _ 0 0 false (HA.out _) _ ?_).mono ?_
    · with_reducible assumption
    rintro e w5 ⟨rfl, hP⟩
    refine hK.out _ _ ?_ (fun hHeld2 => ?_)
    · exact hP
    clear hK K hHeld
    have hHeld := hHeld2
    clear hHeld2
    (try simp only [List.getElem_toArray, List.getElem_cons_succ, List.getElem_cons_zero, Act.put, List.setIfInBounds_toArray, List.set_cons_zero, List.set_cons_succ])
    refine wpAnyH_ready (rs := [7]) (by kernel_rfl) (by simp) ?_
    refine (AllReadyH.cons rfl (fun K hK => ?_) AllReadyH.nil)
    go_simp
    refine (withSignS w w.heap.size (w.heap.size + 1) (fun wz => .bool (nb wz w.heap.size)) (fun _ => .bool true) 0 0 h1 l1 (keepsC_nb w.heap.size) (keepsC_at (w.heap.size + 1) (.bool true)) true true h1 l1 true HC.out _ ?_).mono ?_
    · with_reducible assumption
    rintro e w5 ⟨rfl, hP⟩
    refine hK.out _ _ ?_ (fun hHeld2 => ?_)
    · exact hP
    clear hK K hHeld
    have hHeld := hHeld2
    clear hHeld2
    (try simp only [List.getElem_toArray, List.getElem_cons_succ, List.getElem_cons_zero, Act.put, List.setIfInBounds_toArray, List.set_cons_zero, List.set_cons_succ])
    refine wpAnyH_ready (rs := [8]) (by kernel_rfl) (by simp) ?_
    refine (AllReadyH.cons rfl (fun K hK => ?_) AllReadyH.nil)
    go_simp
    refine hK.out _ _ ?_ (fun hHeld2 => ?_)
    · exact PairS.setA (pa := (fun wz => .bool (nb wz w.heap.size))) (pb := (fun _ => .bool true)) hP (Nat.le_refl _) (by simp) false (setsC_nb w.heap.size false) (nearC_at (w.heap.size + 1) (.bool true))
    clear hK K hHeld
    have hHeld := hHeld2
    clear hHeld2
    (try simp only [List.getElem_toArray, List.getElem_cons_succ, List.getElem_cons_zero, Act.put, List.setIfInBounds_toArray, List.set_cons_zero, List.set_cons_succ])
    refine wpAnyH_ready (rs := [9]) (by kernel_rfl) (by simp) ?_
    refine (AllReadyH.cons rfl (fun K hK => ?_) AllReadyH.nil)
    go_simp
    refine hK.out _ _ ?_ (fun hHeld2 => ?_)
    · exact PairS.setB (pa := (fun wz => .bool (nb wz w.heap.size))) (pb := (fun _ => .bool true)) (PairS.setA (pa := (fun wz => .bool (nb wz w.heap.size))) (pb := (fun _ => .bool true)) hP (Nat.le_refl _) (by simp) false (setsC_nb w.heap.size false) (nearC_at (w.heap.size + 1) (.bool true))) (by simp) (by simp) true (setsC_at (w.heap.size + 1) true) (nearC_nb w.heap.size)
    clear hK K hHeld
    have hHeld := hHeld2
    clear hHeld2
    (try simp only [List.getElem_toArray, List.getElem_cons_succ, List.getElem_cons_zero, Act.put, List.setIfInBounds_toArray, List.set_cons_zero, List.set_cons_succ])
    refine wpAnyH_done (by kernel_rfl) ?_ _
    refine NoPanic.normal ?_
    have hE := PairS.fin (pa := (fun wz => .bool (nb wz w.heap.size))) (pb := (fun _ => .bool true)) hP (Nat.le_refl _) (by simp) (by simp) false true (setsC_nb w.heap.size false) (nearC_at (w.heap.size + 1) (.bool true))
    clear hP hHeld
    revert hE
    generalize ((((((w5.setCell ⟨w.heap.size, 0, none⟩ (.bool false)).setCell ⟨w.heap.size, 1, none⟩ (.int .u64 0)).setCell ⟨w.heap.size, 2, none⟩ (.int .u64 0)).setCell ⟨(w.heap.size + 1), 0, none⟩ (.bool true)).setCell ⟨(w.heap.size + 1), 1, none⟩ (.int .u64 h1)).setCell ⟨(w.heap.size + 1), 2, none⟩ (.int .u64 l1)) = wf
    rintro ⟨e0, e1, e2, e3, e4, e5, e6, e7, e8⟩
    go_wp2_with fail
    go_ret
    exact ⟨rfl, e8⟩
  · skip
    go_simp
    refine hK.out _ _ ?_ (fun hHeld2 => ?_)
    · with_reducible assumption
    clear hK K hHeld
    have hHeld := hHeld2
    clear hHeld2
    (try simp only [List.getElem_toArray, List.getElem_cons_succ, List.getElem_cons_zero, Act.put, List.setIfInBounds_toArray, List.set_cons_zero, List.set_cons_succ])
    refine wpAnyH_ready (rs := [1]) (by kernel_rfl) (by simp) ?_
    refine (AllReadyH.cons rfl (fun K hK => ?_) AllReadyH.nil)
    go_simp
    refine hK.out _ _ ?_ (fun hHeld2 => ?_)
    · with_reducible assumption
    clear hK K hHeld
    have hHeld := hHeld2
    clear hHeld2
    (try simp only [List.getElem_toArray, List.getElem_cons_succ, List.getElem_cons_zero, Act.put, List.setIfInBounds_toArray, List.set_cons_zero, List.set_cons_succ])
    refine wpAnyH_ready (rs := [3]) (by kernel_rfl) (by simp) ?_
    refine (AllReadyH.cons rfl (fun K hK => ?_) AllReadyH.nil)
    go_simp
    refine (withSignS w w.heap.size (w.heap.size + 1) (fun wz => .bool (nb wz w.heap.size)) (fun _ => .bool true) 0 0 h1 l1 (keepsC_nb w.heap.size) (keepsC_at (w.heap.size + 1) (.bool true)) _ _ 0 0 false (HA.out _) _ ?_).mono ?_
    · with_reducible assumption
    rintro e w5 ⟨rfl, hP⟩
    refine hK.out _ _ ?_ (fun hHeld2 => ?_)
    · exact hP
    clear hK K hHeld
    have hHeld := hHeld2
    clear hHeld2
    (try simp only [List.getElem_toArray, List.getElem_cons_succ, List.getElem_cons_zero, Act.put, List.setIfInBounds_toArray, List.set_cons_zero, List.set_cons_succ])
    refine wpAnyH_ready (rs := [7]) (by kernel_rfl) (by simp) ?_
    refine (AllReadyH.cons rfl (fun K hK => ?_) AllReadyH.nil)
    go_simp
    refine (withSignS w w.heap.size (w.heap.size + 1) (fun wz => .bool (nb wz w.heap.size)) (fun _ => .bool true) 0 0 h1 l1 (keepsC_nb w.heap.size) (keepsC_at (w.heap.size + 1) (.bool true)) true true h1 l1 true HC.out _ ?_).mono ?_
    · with_reducible assumption
    rintro e w5 ⟨rfl, hP⟩
    refine hK.out _ _ ?_ (fun hHeld2 => ?_)
    · exact hP
    clear hK K hHeld
    have hHeld := hHeld2
    clear hHeld2
    (try simp only [List.getElem_toArray, List.getElem_cons_succ, List.getElem_cons_zero, Act.put, List.setIfInBounds_toArray, List.set_cons_zero, List.set_cons_succ])
    refine wpAnyH_ready (rs := [8]) (by kernel_rfl) (by simp) ?_
    refine (AllReadyH.cons rfl (fun K hK => ?_) AllReadyH.nil)
    go_simp
    refine hK.out _ _ ?_ (fun hHeld2 => ?_)
    · exact PairS.setA (pa := (fun wz => .bool (nb wz w.heap.size))) (pb := (fun _ => .bool true)) hP (Nat.le_refl _) (by simp) false (setsC_nb w.heap.size false) (nearC_at (w.heap.size + 1) (.bool true))
    clear hK K hHeld
    have hHeld := hHeld2
    clear hHeld2
    (try simp only [List.getElem_toArray, List.getElem_cons_succ, List.getElem_cons_zero, Act.put, List.setIfInBounds_toArray, List.set_cons_zero, List.set_cons_succ])
    refine wpAnyH_ready (rs := [9]) (by kernel_rfl) (by simp) ?_
    refine (AllReadyH.cons rfl (fun K hK => ?_) AllReadyH.nil)
    go_simp
    refine hK.out _ _ ?_ (fun hHeld2 => ?_)
    · exact PairS.setB (pa := (fun wz => .bool (nb wz w.heap.size))) (pb := (fun _ => .bool true)) (PairS.setA (pa := (fun wz => .bool (nb wz w.heap.size))) (pb := (fun _ => .bool true)) hP (Nat.le_refl _) (by simp) false (setsC_nb w.heap.size false) (nearC_at (w.heap.size + 1) (.bool true))) (by simp) (by simp) true (setsC_at (w.heap.size + 1) true) (nearC_nb w.heap.size)
    clear hK K hHeld
    have hHeld := hHeld2
    clear hHeld2
    (try simp only [List.getElem_toArray, List.getElem_cons_succ, List.getElem_cons_zero, Act.put, List.setIfInBounds_toArray, List.set_cons_zero, List.set_cons_succ])
    refine wpAnyH_done (by kernel_rfl) ?_ _
    refine NoPanic.normal ?_
    have hE := PairS.fin (pa := (fun wz => .bool (nb wz w.heap.size))) (pb := (fun _ => .bool true)) hP (Nat.le_refl _) (by simp) (by simp) false true (setsC_nb w.heap.size false) (nearC_at (w.heap.size + 1) (.bool true))
    clear hP hHeld
    revert hE
    generalize ((((((w5.setCell ⟨w.heap.size, 0, none⟩ (.bool false)).setCell ⟨w.heap.size, 1, none⟩ (.int .u64 0)).setCell ⟨w.heap.size, 2, none⟩ (.int .u64 0)).setCell ⟨(w.heap.size + 1), 0, none⟩ (.bool true)).setCell ⟨(w.heap.size + 1), 1, none⟩ (.int .u64 h1)).setCell ⟨(w.heap.size + 1), 2, none⟩ (.int .u64 l1)) = wf
    rintro ⟨e0, e1, e2, e3, e4, e5, e6, e7, e8⟩
    go_wp2_with fail
    go_ret
    exact ⟨rfl, e8⟩
set_option maxRecDepth 100000 in
set_option maxHeartbeats 4000000 in
theorem implCmp_zf (h1 l1 : Int) (HA : Hid (∀ g, sgV g 0 0 = false)) (HC : Hid (sgV false h1 l1 = false)) (w : World) :
    Calls Try.prog 23 #[.agg #[.bool true, .int .u64 0, .int .u64 0], .agg #[.bool false, .int .u64 h1, .int .u64 l1]] w fun e w' => e = .returned (.int .i64 (ordV 0 0 h1 l1)) ∧ Below w.heap.size w w' := by
  go_enter Try.func23, Try.ntmps23
  go_wp2_with fail
  have HB : Below w.heap.size w ((w.alloc (.cells #[.bool true, .int .u64 0, .int .u64 0] 26)).alloc (.cells #[.bool false, .int .u64 h1, .int .u64 l1] 26)).drew := (((Below.refl _ _).alloc (Nat.le_refl _) _).alloc (by simp) _).drew
  have g0 : ((w.alloc (.cells #[.bool true, .int .u64 0, .int .u64 0] 26)).alloc (.cells #[.bool false, .int .u64 h1, .int .u64 l1] 26)).drew.cell? ⟨w.heap.size, 0, none⟩ = some (.bool true) := by go_simp
  have g1 : ((w.alloc (.cells #[.bool true, .int .u64 0, .int .u64 0] 26)).alloc (.cells #[.bool false, .int .u64 h1, .int .u64 l1] 26)).drew.cell? ⟨w.heap.size, 1, none⟩ = some (.int .u64 0) := by go_simp
  have g2 : ((w.alloc (.cells #[.bool true, .int .u64 0, .int .u64 0] 26)).alloc (.cells #[.bool false, .int .u64 h1, .int .u64 l1] 26)).drew.cell? ⟨w.heap.size, 2, none⟩ = some (.int .u64 0) := by go_simp
  have f0 : ∀ k, ((w.alloc (.cells #[.bool true, .int .u64 0, .int .u64 0] 26)).alloc (.cells #[.bool false, .int .u64 h1, .int .u64 l1] 26)).drew.frozen? ⟨w.heap.size, k, none⟩ = false := fun k => free_blk (w := ((w.alloc (.cells #[.bool true, .int .u64 0, .int .u64 0] 26)).alloc (.cells #[.bool false, .int .u64 h1, .int .u64 l1] 26))) (cs := #[.bool true, .int .u64 0, .int .u64 0]) (T := 26) (by rw [Below.heap_alloc _ _ _ (by simp)]; exact box_new _ _) k
  have g3 : ((w.alloc (.cells #[.bool true, .int .u64 0, .int .u64 0] 26)).alloc (.cells #[.bool false, .int .u64 h1, .int .u64 l1] 26)).drew.cell? ⟨(w.heap.size + 1), 0, none⟩ = some (.bool false) := by go_simp
  have g4 : ((w.alloc (.cells #[.bool true, .int .u64 0, .int .u64 0] 26)).alloc (.cells #[.bool false, .int .u64 h1, .int .u64 l1] 26)).drew.cell? ⟨(w.heap.size + 1), 1, none⟩ = some (.int .u64 h1) := by go_simp
  have g5 : ((w.alloc (.cells #[.bool true, .int .u64 0, .int .u64 0] 26)).alloc (.cells #[.bool false, .int .u64 h1, .int .u64 l1] 26)).drew.cell? ⟨(w.heap.size + 1), 2, none⟩ = some (.int .u64 l1) := by go_simp
  have f1 : ∀ k, ((w.alloc (.cells #[.bool true, .int .u64 0, .int .u64 0] 26)).alloc (.cells #[.bool false, .int .u64 h1, .int .u64 l1] 26)).drew.frozen? ⟨(w.heap.size + 1), k, none⟩ = false := fun k => free_blk (w := ((w.alloc (.cells #[.bool true, .int .u64 0, .int .u64 0] 26)).alloc (.cells #[.bool false, .int .u64 h1, .int .u64 l1] 26))) (cs := #[.bool false, .int .u64 h1, .int .u64 l1]) (T := 26) (by have := box_new (w.alloc (.cells #[.bool true, .int .u64 0, .int .u64 0] 26)) (.cells #[.bool false, .int .u64 h1, .int .u64 l1] 26); rwa [show (w.alloc (.cells #[.bool true, .int .u64 0, .int .u64 0] 26)).heap.size = w.heap.size + 1 by simp] at this) k
  have g0n := nb_mk g0
  clear g0
  refine wp_region_noPanic ?_
  refine wp_region_held_drew (S := (fun w' => w'.cell? ⟨w.heap.size, 0, none⟩ = some (.bool (nb w' w.heap.size)) ∧ w'.cell? ⟨w.heap.size, 1, none⟩ = some (.int .u64 0) ∧ w'.cell? ⟨w.heap.size, 2, none⟩ = some (.int .u64 0) ∧ w'.cell? ⟨(w.heap.size + 1), 0, none⟩ = some (.bool false) ∧ w'.cell? ⟨(w.heap.size + 1), 1, none⟩ = some (.int .u64 h1) ∧ w'.cell? ⟨(w.heap.size + 1), 2, none⟩ = some (.int .u64 l1) ∧ (∀ k, w'.frozen? ⟨w.heap.size, k, none⟩ = false) ∧ (∀ k, w'.frozen? ⟨(w.heap.size + 1), k, none⟩ = false) ∧ Below w.heap.size w w')) (by kernel_rfl) ⟨g0n, g1, g2, g3, g4, g5, f0, f1, HB⟩ (fun hHeld => ?_)
  clear g0n g1 g2 g3 g4 g5 f0 f1 HB
  refine wpAnyH_take (i := 0) (oi := ?o13) (v := ?v13) ?hi13 ?hs13 ?hf13 ?hr13 ?hQ13 ?hy13 ?hS13 ?rest13
  case hi13 => rfl
  case hs13 => kernel_rfl
  case hf13 => kernel_rfl
  case hr13 => kernel_rfl
  case hQ13 => exact fun _ _ _ h => h
  case hS13 => assumption
  case hy13 =>
    refine Or.inl ⟨by kernel_rfl, ?_⟩
    intro w' hSw
    (try dsimp only at hSw)
    go_simp
    (try rfl)
  (try simp only [List.getElem_toArray, List.getElem_cons_zero, Act.put, List.setIfInBounds_toArray, List.set_cons_zero, List.set_cons_succ])
  refine wpAnyH_take (i := 4) (oi := ?o14) (v := ?v14) ?hi14 ?hs14 ?hf14 ?hr14 ?hQ14 ?hy14 ?hS14 ?rest14
  case hi14 => rfl
  case hs14 => kernel_rfl
  case hf14 => kernel_rfl
  case hr14 => kernel_rfl
  case hQ14 => exact fun _ _ _ h => h
  case hS14 => assumption
  case hy14 =>
    refine Or.inl ⟨by kernel_rfl, ?_⟩
    intro w' hSw
    (try dsimp only at hSw)
    go_simp
    (try rfl)
  (try simp only [List.getElem_toArray, List.getElem_cons_succ, List.getElem_cons_zero, Act.put, List.setIfInBounds_toArray, List.set_cons_zero, List.set_cons_succ])
  refine wpAnyH_take (i := 5) (oi := ?o15) (v := ?v15) ?hi15 ?hs15 ?hf15 ?hr15 ?hQ15 ?hy15 ?hS15 ?rest15
  case hi15 => rfl
  case hs15 => kernel_rfl
  case hf15 => kernel_rfl
  case hr15 => kernel_rfl
  case hQ15 => exact fun _ _ _ h => h
  case hS15 => assumption
  case hy15 =>
    refine Or.inl ⟨by kernel_rfl, ?_⟩
    intro w' hSw
    (try dsimp only at hSw)
    go_simp
    (try rfl)
  (try simp only [List.getElem_toArray, List.getElem_cons_succ, List.getElem_cons_zero, Act.put, List.setIfInBounds_toArray, List.set_cons_zero, List.set_cons_succ])
  refine wpAnyH_take (i := 6) (oi := ?o16) (v := ?v16) ?hi16 ?hs16 ?hf16 ?hr16 ?hQ16 ?hy16 ?hS16 ?rest16
  case hi16 => rfl
  case hs16 => kernel_rfl
  case hf16 => kernel_rfl
  case hr16 => kernel_rfl
  case hQ16 => exact fun _ _ _ h => h
  case hS16 => assumption
  case hy16 =>
    refine Or.inl ⟨by kernel_rfl, ?_⟩
    intro w' hSw
    (try dsimp only at hSw)
    go_simp
    (try rfl)
  (try simp only [List.getElem_toArray, List.getElem_cons_succ, List.getElem_cons_zero, Act.put, List.setIfInBounds_toArray, List.set_cons_zero, List.set_cons_succ])
  refine wpAnyH_ready (rs := [1, 2]) (by kernel_rfl) (by simp) ?_
  refine (AllReadyH.cons rfl (fun K hK => ?_) (AllReadyH.cons rfl (fun K hK => ?_) AllReadyH.nil))
  · skip
    go_simp
    refine hK.out _ _ ?_ (fun hHeld2 => ?_)
    · with_reducible assumption
    clear hK K hHeld
    have hHeld := hHeld2
    clear hHeld2
    (try simp only [List.getElem_toArray, List.getElem_cons_succ, List.getElem_cons_zero, Act.put, List.setIfInBounds_toArray, List.set_cons_zero, List.set_cons_succ])
    refine wpAnyH_ready (rs := [2]) (by kernel_rfl) (by simp) ?_
    refine (AllReadyH.cons rfl (fun K hK => ?_) AllReadyH.nil)
    go_simp
    refine hK.out _ _ ?_ (fun hHeld2 => ?_)
    · with_reducible assumption
    clear hK K hHeld
    have hHeld := hHeld2
    clear hHeld2
    (try simp only [List.getElem_toArray, List.getElem_cons_succ, List.getElem_cons_zero, Act.put, List.setIfInBounds_toArray, List.set_cons_zero, List.set_cons_succ])
    refine wpAnyH_ready (rs := [3]) (by kernel_rfl) (by simp) ?_
    refine (AllReadyH.cons rfl (fun K hK => ?_) AllReadyH.nil)
    go_simp
    refine (withSignS w w.heap.size (w.heap.size + 1) (fun wz => .bool (nb wz w.heap.size)) (fun _ => .bool false) 0 0 h1 l1 (keepsC_nb w.heap.size) (keepsC_at (w.heap.size + 1) (.bool false)) _ _ 0 0 false (HA.out _) _ ?_).mono ?_
    · with_reducible assumption
    rintro e w5 ⟨rfl, hP⟩
    refine hK.out _ _ ?_ (fun hHeld2 => ?_)
    · exact hP
    clear hK K hHeld
    have hHeld := hHeld2
    clear hHeld2
    (try simp only [List.getElem_toArray, List.getElem_cons_succ, List.getElem_cons_zero, Act.put, List.setIfInBounds_toArray, List.set_cons_zero, List.set_cons_succ])
    refine wpAnyH_ready (rs := [7]) (by kernel_rfl) (by simp) ?_
    refine (AllReadyH.cons rfl (fun K hK => ?_) AllReadyH.nil)
    go_simp
    refine (withSignS w w.heap.size (w.heap.size + 1) (fun wz => .bool (nb wz w.heap.size)) (fun _ => .bool false) 0 0 h1 l1 (keepsC_nb w.heap.size) (keepsC_at (w.heap.size + 1) (.bool false)) false false h1 l1 false HC.out _ ?_).mono ?_
    · with_reducible assumption
    rintro e w5 ⟨rfl, hP⟩
    refine hK.out _ _ ?_ (fun hHeld2 => ?_)
    · exact hP
    clear hK K hHeld
    have hHeld := hHeld2
    clear hHeld2
    (try simp only [List.getElem_toArray, List.getElem_cons_succ, List.getElem_cons_zero, Act.put, List.setIfInBounds_toArray, List.set_cons_zero, List.set_cons_succ])
    refine wpAnyH_ready (rs := [8]) (by kernel_rfl) (by simp) ?_
    refine (AllReadyH.cons rfl (fun K hK => ?_) AllReadyH.nil)
    go_simp
    refine hK.out _ _ ?_ (fun hHeld2 => ?_)
    · exact PairS.setA (pa := (fun wz => .bool (nb wz w.heap.size))) (pb := (fun _ => .bool false)) hP (Nat.le_refl _) (by simp) false (setsC_nb w.heap.size false) (nearC_at (w.heap.size + 1) (.bool false))
    clear hK K hHeld
    have hHeld := hHeld2
    clear hHeld2
    (try simp only [List.getElem_toArray, List.getElem_cons_succ, List.getElem_cons_zero, Act.put, List.setIfInBounds_toArray, List.set_cons_zero, List.set_cons_succ])
    refine wpAnyH_ready (rs := [9]) (by kernel_rfl) (by simp) ?_
    refine (AllReadyH.cons rfl (fun K hK => ?_) AllReadyH.nil)
    go_simp
    refine hK.out _ _ ?_ (fun hHeld2 => ?_)
    · exact PairS.setB (pa := (fun wz => .bool (nb wz w.heap.size))) (pb := (fun _ => .bool false)) (PairS.setA (pa := (fun wz => .bool (nb wz w.heap.size))) (pb := (fun _ => .bool false)) hP (Nat.le_refl _) (by simp) false (setsC_nb w.heap.size false) (nearC_at (w.heap.size + 1) (.bool false))) (by simp) (by simp) false (setsC_at (w.heap.size + 1) false) (nearC_nb w.heap.size)
    clear hK K hHeld
    have hHeld := hHeld2
    clear hHeld2
    (try simp only [List.getElem_toArray, List.getElem_cons_succ, List.getElem_cons_zero, Act.put, List.setIfInBounds_toArray, List.set_cons_zero, List.set_cons_succ])
    refine wpAnyH_done (by kernel_rfl) ?_ _
    refine NoPanic.normal ?_
    have hE := PairS.fin (pa := (fun wz => .bool (nb wz w.heap.size))) (pb := (fun _ => .bool false)) hP (Nat.le_refl _) (by simp) (by simp) false false (setsC_nb w.heap.size false) (nearC_at (w.heap.size + 1) (.bool false))
    clear hP hHeld
    revert hE
    generalize ((((((w5.setCell ⟨w.heap.size, 0, none⟩ (.bool false)).setCell ⟨w.heap.size, 1, none⟩ (.int .u64 0)).setCell ⟨w.heap.size, 2, none⟩ (.int .u64 0)).setCell ⟨(w.heap.size + 1), 0, none⟩ (.bool false)).setCell ⟨(w.heap.size + 1), 1, none⟩ (.int .u64 h1)).setCell ⟨(w.heap.size + 1), 2, none⟩ (.int .u64 l1)) = wf
    rintro ⟨e0, e1, e2, e3, e4, e5, e6, e7, e8⟩
    go_wp2_with fail
    refine (implOrder false 0 0 false h1 l1 _).mono ?_
    rintro e w9 ⟨rfl, hB9⟩
    have HZ := Lib.hid (bt2 e8 hB9)
    clear hB9
    go_wp2_with fail
    go_ret
    exact ⟨rfl, HZ.out⟩
  · skip
    go_simp
    refine hK.out _ _ ?_ (fun hHeld2 => ?_)
    · with_reducible assumption
    clear hK K hHeld
    have hHeld := hHeld2
    clear hHeld2
    (try simp only [List.getElem_toArray, List.getElem_cons_succ, List.getElem_cons_zero, Act.put, List.setIfInBounds_toArray, List.set_cons_zero, List.set_cons_succ])
    refine wpAnyH_ready (rs := [1]) (by kernel_rfl) (by simp) ?_
    refine (AllReadyH.cons rfl (fun K hK => ?_) AllReadyH.nil)
    go_simp
    refine hK.out _ _ ?_ (fun hHeld2 => ?_)
    · with_reducible assumption
    clear hK K hHeld
    have hHeld := hHeld2
    clear hHeld2
    (try simp only [List.getElem_toArray, List.getElem_cons_succ, List.getElem_cons_zero, Act.put, List.setIfInBounds_toArray, List.set_cons_zero, List.set_cons_succ])
    refine wpAnyH_ready (rs := [3]) (by kernel_rfl) (by simp) ?_
    refine (AllReadyH.cons rfl (fun K hK => ?_) AllReadyH.nil)
    go_simp
    refine (withSignS w w.heap.size (w.heap.size + 1) (fun wz => .bool (nb wz w.heap.size)) (fun _ => .bool false) 0 0 h1 l1 (keepsC_nb w.heap.size) (keepsC_at (w.heap.size + 1) (.bool false)) _ _ 0 0 false (HA.out _) _ ?_).mono ?_
    · with_reducible assumption
    rintro e w5 ⟨rfl, hP⟩
    refine hK.out _ _ ?_ (fun hHeld2 => ?_)
    · exact hP
    clear hK K hHeld
    have hHeld := hHeld2
    clear hHeld2
    (try simp only [List.getElem_toArray, List.getElem_cons_succ, List.getElem_cons_zero, Act.put, List.setIfInBounds_toArray, List.set_cons_zero, List.set_cons_succ])
    refine wpAnyH_ready (rs := [7]) (by kernel_rfl) (by simp) ?_
    refine (AllReadyH.cons rfl (fun K hK => ?_) AllReadyH.nil)
    go_simp
    refine (withSignS w w.heap.size (w.heap.size + 1) (fun wz => .bool (nb wz w.heap.size)) (fun _ => .bool false) 0 0 h1 l1 (keepsC_nb w.heap.size) (keepsC_at (w.heap.size + 1) (.bool false)) false false h1 l1 false HC.out _ ?_).mono ?_
    · with_reducible assumption
    rintro e w5 ⟨rfl, hP⟩
    refine hK.out _ _ ?_ (fun hHeld2 => ?_)
    · exact hP
    clear hK K hHeld
    have hHeld := hHeld2
    clear hHeld2
    (try simp only [List.getElem_toArray, List.getElem_cons_succ, List.getElem_cons_zero, Act.put, List.setIfInBounds_toArray, List.set_cons_zero, List.set_cons_succ])
    refine wpAnyH_ready (rs := [8]) (by kernel_rfl) (by simp) ?_
    refine (AllReadyH.cons rfl (fun K hK => ?_) AllReadyH.nil)
    go_simp
    refine hK.out _ _ ?_ (fun hHeld2 => ?_)
    · exact PairS.setA (pa := (fun wz => .bool (nb wz w.heap.size))) (pb := (fun _ => .bool false)) hP (Nat.le_refl _) (by simp) false (setsC_nb w.heap.size false) (nearC_at (w.heap.size + 1) (.bool false))
    clear hK K hHeld
    have hHeld := hHeld2
    clear hHeld2
    (try simp only [List.getElem_toArray, List.getElem_cons_succ, List.getElem_cons_zero, Act.put, List.setIfInBounds_toArray, List.set_cons_zero, List.set_cons_succ])
    refine wpAnyH_ready (rs := [9]) (by kernel_rfl) (by simp) ?_
    refine (AllReadyH.cons rfl (fun K hK => ?_) AllReadyH.nil)
    go_simp
    refine hK.out _ _ ?_ (fun hHeld2 => ?_)
    · exact PairS.setB (pa := (fun wz => .bool (nb wz w.heap.size))) (pb := (fun _ => .bool false)) (PairS.setA (pa := (fun wz => .bool (nb wz w.heap.size))) (pb := (fun _ => .bool false)) hP (Nat.le_refl _) (by simp) false (setsC_nb w.heap.size false) (nearC_at (w.heap.size + 1) (.bool false))) (by simp) (by simp) false (setsC_at (w.heap.size + 1) false) (nearC_nb w.heap.size)
    clear hK K hHeld
    have hHeld := hHeld2
    clear hHeld2
    (try simp only [List.getElem_toArray, List.getElem_cons_succ, List.getElem_cons_zero, Act.put, List.setIfInBounds_toArray, List.set_cons_zero, List.set_cons_succ])
    refine wpAnyH_done (by kernel_rfl) ?_ _
    refine NoPanic.normal ?_
    have hE := PairS.fin (pa := (fun wz => .bool (nb wz w.heap.size))) (pb := (fun _ => .bool false)) hP (Nat.le_refl _) (by simp) (by simp) false false (setsC_nb w.heap.size false) (nearC_at (w.heap.size + 1) (.bool false))
    clear hP hHeld
    revert hE
    generalize ((((((w5.setCell ⟨w.heap.size, 0, none⟩ (.bool false)).setCell ⟨w.heap.size, 1, none⟩ (.int .u64 0)).setCell ⟨w.heap.size, 2, none⟩ (.int .u64 0)).setCell ⟨(w.heap.size + 1), 0, none⟩ (.bool false)).setCell ⟨(w.heap.size + 1), 1, none⟩ (.int .u64 h1)).setCell ⟨(w.heap.size + 1), 2, none⟩ (.int .u64 l1)) = wf
    rintro ⟨e0, e1, e2, e3, e4, e5, e6, e7, e8⟩
    go_wp2_with fail
    refine (implOrder false 0 0 false h1 l1 _).mono ?_
    rintro e w9 ⟨rfl, hB9⟩
    have HZ := Lib.hid (bt2 e8 hB9)
    clear hB9
    go_wp2_with fail
    go_ret
    exact ⟨rfl, HZ.out⟩
end Go.Proofs.Ytapdocfifgnjgaa
