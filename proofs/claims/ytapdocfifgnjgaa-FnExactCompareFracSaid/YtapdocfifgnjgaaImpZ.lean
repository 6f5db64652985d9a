
/-
  Wide numbers of the program: the order of two negated nothings.
-/
import Derived.Test.YtapdocfifgnjgaaImpS
namespace Go.Proofs.Ytapdocfifgnjgaa
open Go.RowKit

set_option maxRecDepth 100000 in
set_option maxHeartbeats 20000000 in
theorem implCmp_zz  (HA : Hid (∀ g, sgV g 0 0 = false)) (HC : Hid (∀ g, sgV g 0 0 = false)) (w : World) :
    Calls Try.prog 23 #[.agg #[.bool true, .int .u64 0, .int .u64 0], .agg #[.bool true, .int .u64 0, .int .u64 0]] w fun e w' => e = .returned (.int .i64 (ordV 0 0 0 0)) ∧ Below w.heap.size w w' := by
  go_enter Try.func23, Try.ntmps23
  go_wp2_with fail
  have HB : Below w.heap.size w ((w.alloc (.cells #[.bool true, .int .u64 0, .int .u64 0] 26)).alloc (.cells #[.bool true, .int .u64 0, .int .u64 0] 26)).drew := (((Below.refl _ _).alloc (Nat.le_refl _) _).alloc (by simp) _).drew
  have g0 : ((w.alloc (.cells #[.bool true, .int .u64 0, .int .u64 0] 26)).alloc (.cells #[.bool true, .int .u64 0, .int .u64 0] 26)).drew.cell? ⟨w.heap.size, 0, none⟩ = some (.bool true) := by go_simp
  have g1 : ((w.alloc (.cells #[.bool true, .int .u64 0, .int .u64 0] 26)).alloc (.cells #[.bool true, .int .u64 0, .int .u64 0] 26)).drew.cell? ⟨w.heap.size, 1, none⟩ = some (.int .u64 0) := by go_simp
  have g2 : ((w.alloc (.cells #[.bool true, .int .u64 0, .int .u64 0] 26)).alloc (.cells #[.bool true, .int .u64 0, .int .u64 0] 26)).drew.cell? ⟨w.heap.size, 2, none⟩ = some (.int .u64 0) := by go_simp
  have f0 : ∀ k, ((w.alloc (.cells #[.bool true, .int .u64 0, .int .u64 0] 26)).alloc (.cells #[.bool true, .int .u64 0, .int .u64 0] 26)).drew.frozen? ⟨w.heap.size, k, none⟩ = false := fun k => free_blk (w := ((w.alloc (.cells #[.bool true, .int .u64 0, .int .u64 0] 26)).alloc (.cells #[.bool true, .int .u64 0, .int .u64 0] 26))) (cs := #[.bool true, .int .u64 0, .int .u64 0]) (T := 26) (by rw [Below.heap_alloc _ _ _ (by simp)]; exact box_new _ _) k
  have g3 : ((w.alloc (.cells #[.bool true, .int .u64 0, .int .u64 0] 26)).alloc (.cells #[.bool true, .int .u64 0, .int .u64 0] 26)).drew.cell? ⟨(w.heap.size + 1), 0, none⟩ = some (.bool true) := by go_simp
  have g4 : ((w.alloc (.cells #[.bool true, .int .u64 0, .int .u64 0] 26)).alloc (.cells #[.bool true, .int .u64 0, .int .u64 0] 26)).drew.cell? ⟨(w.heap.size + 1), 1, none⟩ = some (.int .u64 0) := by go_simp
  have g5 : ((w.alloc (.cells #[.bool true, .int .u64 0, .int .u64 0] 26)).alloc (.cells #[.bool true, .int .u64 0, .int .u64 0] 26)).drew.cell? ⟨(w.heap.size + 1), 2, none⟩ = some (.int .u64 0) := by go_simp
  have f1 : ∀ k, ((w.alloc (.cells #[.bool true, .int .u64 0, .int .u64 0] 26)).alloc (.cells #[.bool true, .int .u64 0, .int .u64 0] 26)).drew.frozen? ⟨(w.heap.size + 1), k, none⟩ = false := fun k => free_blk (w := ((w.alloc (.cells #[.bool true, .int .u64 0, .int .u64 0] 26)).alloc (.cells #[.bool true, .int .u64 0, .int .u64 0] 26))) (cs := #[.bool true, .int .u64 0, .int .u64 0]) (T := 26) (by have := box_new (w.alloc (.cells #[.bool true, .int .u64 0, .int .u64 0] 26)) (.cells #[.bool true, .int .u64 0, .int .u64 0] 26); rwa [show (w.alloc (.cells #[.bool true, .int .u64 0, .int .u64 0] 26)).heap.size = w.heap.size + 1 by simp] at this) k
  have g0n := nb_mk g0
  clear g0
  have g3n := nb_mk g3
  clear g3
  refine wp_region_noPanic ?_
  refine wp_region_held_drew (S := (fun w' => w'.cell? ⟨w.heap.size, 0, none⟩ = some (.bool (nb w' w.heap.size)) ∧ w'.cell? ⟨w.heap.size, 1, none⟩ = some (.int .u64 0) ∧ w'.cell? ⟨w.heap.size, 2, none⟩ = some (.int .u64 0) ∧ w'.cell? ⟨(w.heap.size + 1), 0, none⟩ = some (.bool (nb w' (w.heap.size + 1))) ∧ w'.cell? ⟨(w.heap.size + 1), 1, none⟩ = some (.int .u64 0) ∧ w'.cell? ⟨(w.heap.size + 1), 2, none⟩ = some (.int .u64 0) ∧ (∀ k, w'.frozen? ⟨w.heap.size, k, none⟩ = false) ∧ (∀ k, w'.frozen? ⟨(w.heap.size + 1), k, none⟩ = false) ∧ Below w.heap.size w w')) (by kernel_rfl) ⟨g0n, g1, g2, g3n, g4, g5, f0, f1, HB⟩ (fun hHeld => ?_)
  clear g0n g1 g2 g3n g4 g5 f0 f1 HB
  refine wpAnyH_take (i := 0) (oi := ?o17) (v := ?v17) ?hi17 ?hs17 ?hf17 ?hr17 ?hQ17 ?hy17 ?hS17 ?rest17
  case hi17 => rfl
  case hs17 => kernel_rfl
  case hf17 => kernel_rfl
  case hr17 => kernel_rfl
  case hQ17 => exact fun _ _ _ h => h
  case hS17 => assumption
  case hy17 =>
    refine Or.inl ⟨by kernel_rfl, ?_⟩
    intro w' hSw
    (try dsimp only at hSw)
    go_simp
    (try rfl)
  (try simp only [List.getElem_toArray, List.getElem_cons_zero, Act.put, List.setIfInBounds_toArray, List.set_cons_zero, List.set_cons_succ])
  refine wpAnyH_take (i := 4) (oi := ?o18) (v := ?v18) ?hi18 ?hs18 ?hf18 ?hr18 ?hQ18 ?hy18 ?hS18 ?rest18
  case hi18 => rfl
  case hs18 => kernel_rfl
  case hf18 => kernel_rfl
  case hr18 => kernel_rfl
  case hQ18 => exact fun _ _ _ h => h
  case hS18 => assumption
  case hy18 =>
    refine Or.inl ⟨by kernel_rfl, ?_⟩
    intro w' hSw
    (try dsimp only at hSw)
    go_simp
    (try rfl)
  (try simp only [List.getElem_toArray, List.getElem_cons_succ, List.getElem_cons_zero, Act.put, List.setIfInBounds_toArray, List.set_cons_zero, List.set_cons_succ])
  refine wpAnyH_ready (rs := [1, 2, 5, 6]) (by kernel_rfl) (by simp) ?_
  refine (AllReadyH.cons rfl (fun K hK => ?_) (AllReadyH.cons rfl (fun K hK => ?_) (AllReadyH.cons rfl (fun K hK => ?_) (AllReadyH.cons rfl (fun K hK => ?_) AllReadyH.nil))))
  · skip
    go_simp
    refine hK.out _ _ ?_ (fun hHeld2 => ?_)
    · with_reducible assumption
    clear hK K hHeld
    have hHeld := hHeld2
    clear hHeld2
    (try simp only [List.getElem_toArray, List.getElem_cons_succ, List.getElem_cons_zero, Act.put, List.setIfInBounds_toArray, List.set_cons_zero, List.set_cons_succ])
    refine wpAnyH_ready (rs := [2, 5, 6]) (by kernel_rfl) (by simp) ?_
    refine (AllReadyH.cons rfl (fun K hK => ?_) (AllReadyH.cons rfl (fun K hK => ?_) (AllReadyH.cons rfl (fun K hK => ?_) AllReadyH.nil)))
    · skip
      go_simp
      refine hK.out _ _ ?_ (fun hHeld2 => ?_)
      · with_reducible assumption
      clear hK K hHeld
      have hHeld := hHeld2
      clear hHeld2
      (try simp only [List.getElem_toArray, List.getElem_cons_succ, List.getElem_cons_zero, Act.put, List.setIfInBounds_toArray, List.set_cons_zero, List.set_cons_succ])
      refine wpAnyH_ready (rs := [3, 5, 6]) (by kernel_rfl) (by simp) ?_
      refine (AllReadyH.cons rfl (fun K hK => ?_) (AllReadyH.cons rfl (fun K hK => ?_) (AllReadyH.cons rfl (fun K hK => ?_) AllReadyH.nil)))
      · skip
        go_simp
        refine (withSignS w w.heap.size (w.heap.size + 1) (fun wz => .bool (nb wz w.heap.size)) (fun wz => .bool (nb wz (w.heap.size + 1))) 0 0 0 0 (keepsC_nb w.heap.size) (keepsC_nb (w.heap.size + 1)) _ _ 0 0 false (HA.out _) _ ?_).mono ?_
        · with_reducible assumption
        rintro e w5 ⟨rfl, hP⟩
        refine hK.out _ _ ?_ (fun hHeld2 => ?_)
        · exact hP
        clear hK K hHeld
        have hHeld := hHeld2
        clear hHeld2
        (try simp only [List.getElem_toArray, List.getElem_cons_succ, List.getElem_cons_zero, Act.put, List.setIfInBounds_toArray, List.set_cons_zero, List.set_cons_succ])
        refine wpAnyH_ready (rs := [5, 6]) (by kernel_rfl) (by simp) ?_
        refine (AllReadyH.cons rfl (fun K hK => ?_) (AllReadyH.cons rfl (fun K hK => ?_) AllReadyH.nil))
        · skip
          go_simp
          refine hK.out _ _ ?_ (fun hHeld2 => ?_)
          · with_reducible assumption
          clear hK K hHeld
          have hHeld := hHeld2
          clear hHeld2
          (try simp only [List.getElem_toArray, List.getElem_cons_succ, List.getElem_cons_zero, Act.put, List.setIfInBounds_toArray, List.set_cons_zero, List.set_cons_succ])
          refine wpAnyH_ready (rs := [6]) (by kernel_rfl) (by simp) ?_
          refine (AllReadyH.cons rfl (fun K hK => ?_) AllReadyH.nil)
          go_simp
          refine hK.out _ _ ?_ (fun hHeld2 => ?_)
          · with_reducible assumption
          clear hK K hHeld
          have hHeld := hHeld2
          clear hHeld2
          (try simp only [List.getElem_toArray, List.getElem_cons_succ, List.getElem_cons_zero, Act.put, List.setIfInBounds_toArray, List.set_cons_zero, List.set_cons_succ])
          refine wpAnyH_ready (rs := [7]) (by kernel_rfl) (by simp) ?_
          refine (AllReadyH.cons rfl (fun K hK => ?_) AllReadyH.nil)
          go_simp
          refine (withSignS w w.heap.size (w.heap.size + 1) (fun wz => .bool (nb wz w.heap.size)) (fun wz => .bool (nb wz (w.heap.size + 1))) 0 0 0 0 (keepsC_nb w.heap.size) (keepsC_nb (w.heap.size + 1)) _ _ 0 0 false (HC.out _) _ ?_).mono ?_
          · with_reducible assumption
          rintro e w5 ⟨rfl, hP⟩
          refine hK.out _ _ ?_ (fun hHeld2 => ?_)
          · exact hP
          clear hK K hHeld
          have hHeld := hHeld2
          clear hHeld2
          (try simp only [List.getElem_toArray, List.getElem_cons_succ, List.getElem_cons_zero, Act.put, List.setIfInBounds_toArray, List.set_cons_zero, List.set_cons_succ])
          refine wpAnyH_ready (rs := [8]) (by kernel_rfl) (by simp) ?_
          refine (AllReadyH.cons rfl (fun K hK => ?_) AllReadyH.nil)
          go_simp
          refine hK.out _ _ ?_ (fun hHeld2 => ?_)
          · exact PairS.setA (pa := (fun wz => .bool (nb wz w.heap.size))) (pb := (fun wz => .bool (nb wz (w.heap.size + 1)))) hP (Nat.le_refl _) (by simp) false (setsC_nb w.heap.size false) (nearC_nb (w.heap.size + 1))
          clear hK K hHeld
          have hHeld := hHeld2
          clear hHeld2
          (try simp only [List.getElem_toArray, List.getElem_cons_succ, List.getElem_cons_zero, Act.put, List.setIfInBounds_toArray, List.set_cons_zero, List.set_cons_succ])
          refine wpAnyH_ready (rs := [9]) (by kernel_rfl) (by simp) ?_
          refine (AllReadyH.cons rfl (fun K hK => ?_) AllReadyH.nil)
          go_simp
          refine hK.out _ _ ?_ (fun hHeld2 => ?_)
          · exact PairS.setB (pa := (fun wz => .bool (nb wz w.heap.size))) (pb := (fun wz => .bool (nb wz (w.heap.size + 1)))) (PairS.setA (pa := (fun wz => .bool (nb wz w.heap.size))) (pb := (fun wz => .bool (nb wz (w.heap.size + 1)))) hP (Nat.le_refl _) (by simp) false (setsC_nb w.heap.size false) (nearC_nb (w.heap.size + 1))) (by simp) (by simp) false (setsC_nb (w.heap.size + 1) false) (nearC_nb w.heap.size)
          clear hK K hHeld
          have hHeld := hHeld2
          clear hHeld2
          (try simp only [List.getElem_toArray, List.getElem_cons_succ, List.getElem_cons_zero, Act.put, List.setIfInBounds_toArray, List.set_cons_zero, List.set_cons_succ])
          refine wpAnyH_done (by kernel_rfl) ?_ _
          refine NoPanic.normal ?_
          have hE := PairS.fin (pa := (fun wz => .bool (nb wz w.heap.size))) (pb := (fun wz => .bool (nb wz (w.heap.size + 1)))) hP (Nat.le_refl _) (by simp) (by simp) false false (setsC_nb w.heap.size false) (nearC_nb (w.heap.size + 1))
          clear hP hHeld
          revert hE
          generalize ((((((w5.setCell ⟨w.heap.size, 0, none⟩ (.bool false)).setCell ⟨w.heap.size, 1, none⟩ (.int .u64 0)).setCell ⟨w.heap.size, 2, none⟩ (.int .u64 0)).setCell ⟨(w.heap.size + 1), 0, none⟩ (.bool false)).setCell ⟨(w.heap.size + 1), 1, none⟩ (.int .u64 0)).setCell ⟨(w.heap.size + 1), 2, none⟩ (.int .u64 0)) = wf
          rintro ⟨e0, e1, e2, e3, e4, e5, e6, e7, e8⟩
          go_wp2_with fail
          refine (implOrder false 0 0 false 0 0 _).mono ?_
          rintro e w9 ⟨rfl, hB9⟩
          have HZ := Lib.hid (bt2 e8 hB9)
          clear hB9
          go_wp2_with fail
          go_ret
          exact ⟨rfl, HZ.out⟩
        · skip
          go_simp
          refine hK.out _ _ ?_ (fun hHeld2 => ?_)
          · with_reducible assumption
          clear hK K hHeld
          have hHeld := hHeld2
          clear hHeld2
          (try simp only [List.getElem_toArray, List.getElem_cons_succ, List.getElem_cons_zero, Act.put, List.setIfInBounds_toArray, List.set_cons_zero, List.set_cons_succ])
          refine wpAnyH_ready (rs := [5]) (by kernel_rfl) (by simp) ?_
          refine (AllReadyH.cons rfl (fun K hK => ?_) AllReadyH.nil)
          go_simp
          refine hK.out _ _ ?_ (fun hHeld2 => ?_)
          · with_reducible assumption
          clear hK K hHeld
          have hHeld := hHeld2
          clear hHeld2
          (try simp only [List.getElem_toArray, List.getElem_cons_succ, List.getElem_cons_zero, Act.put, List.setIfInBounds_toArray, List.set_cons_zero, List.set_cons_succ])
          refine wpAnyH_ready (rs := [7]) (by kernel_rfl) (by simp) ?_
          refine (AllReadyH.cons rfl (fun K hK => ?_) AllReadyH.nil)
          go_simp
          refine (withSignS w w.heap.size (w.heap.size + 1) (fun wz => .bool (nb wz w.heap.size)) (fun wz => .bool (nb wz (w.heap.size + 1))) 0 0 0 0 (keepsC_nb w.heap.size) (keepsC_nb (w.heap.size + 1)) _ _ 0 0 false (HC.out _) _ ?_).mono ?_
          · with_reducible assumption
          rintro e w5 ⟨rfl, hP⟩
          refine hK.out _ _ ?_ (fun hHeld2 => ?_)
          · exact hP
          clear hK K hHeld
          have hHeld := hHeld2
          clear hHeld2
          (try simp only [List.getElem_toArray, List.getElem_cons_succ, List.getElem_cons_zero, Act.put, List.setIfInBounds_toArray, List.set_cons_zero, List.set_cons_succ])
          refine wpAnyH_ready (rs := [8]) (by kernel_rfl) (by simp) ?_
          refine (AllReadyH.cons rfl (fun K hK => ?_) AllReadyH.nil)
          go_simp
          refine hK.out _ _ ?_ (fun hHeld2 => ?_)
          · exact PairS.setA (pa := (fun wz => .bool (nb wz w.heap.size))) (pb := (fun wz => .bool (nb wz (w.heap.size + 1)))) hP (Nat.le_refl _) (by simp) false (setsC_nb w.heap.size false) (nearC_nb (w.heap.size + 1))
          clear hK K hHeld
          have hHeld := hHeld2
          clear hHeld2
          (try simp only [List.getElem_toArray, List.getElem_cons_succ, List.getElem_cons_zero, Act.put, List.setIfInBounds_toArray, List.set_cons_zero, List.set_cons_succ])
          refine wpAnyH_ready (rs := [9]) (by kernel_rfl) (by simp) ?_
          refine (AllReadyH.cons rfl (fun K hK => ?_) AllReadyH.nil)
          go_simp
          refine hK.out _ _ ?_ (fun hHeld2 => ?_)
          · exact PairS.setB (pa := (fun wz => .bool (nb wz w.heap.size))) (pb := (fun wz => .bool (nb wz (w.heap.size + 1)))) (PairS.setA (pa := (fun wz => .bool (nb wz w.heap.size))) (pb := (fun wz => .bool (nb wz (w.heap.size + 1)))) hP (Nat.le_refl _) (by simp) false (setsC_nb w.heap.size false) (nearC_nb (w.heap.size + 1))) (by simp) (by simp) false (setsC_nb (w.heap.size + 1) false) (nearC_nb w.heap.size)
          clear hK K hHeld
          have hHeld := hHeld2
          clear hHeld2
          (try simp only [List.getElem_toArray, List.getElem_cons_succ, List.getElem_cons_zero, Act.put, List.setIfInBounds_toArray, List.set_cons_zero, List.set_cons_succ])
          refine wpAnyH_done (by kernel_rfl) ?_ _
          refine NoPanic.normal ?_
          have hE := PairS.fin (pa := (fun wz => .bool (nb wz w.heap.size))) (pb := (fun wz => .bool (nb wz (w.heap.size + 1)))) hP (Nat.le_refl _) (by simp) (by simp) false false (setsC_nb w.heap.size false) (nearC_nb (w.heap.size + 1))
          clear hP hHeld
          revert hE
          generalize ((((((w5.setCell ⟨w.heap.size, 0, none⟩ (.bool false)).setCell ⟨w.heap.size, 1, none⟩ (.int .u64 0)).setCell ⟨w.heap.size, 2, none⟩ (.int .u64 0)).setCell ⟨(w.heap.size + 1), 0, none⟩ (.bool false)).setCell ⟨(w.heap.size + 1), 1, none⟩ (.int .u64 0)).setCell ⟨(w.heap.size + 1), 2, none⟩ (.int .u64 0)) = wf
          rintro ⟨e0, e1, e2, e3, e4, e5, e6, e7, e8⟩
          go_wp2_with fail
          refine (implOrder false 0 0 false 0 0 _).mono ?_
          rintro e w9 ⟨rfl, hB9⟩
          have HZ := Lib.hid (bt2 e8 hB9)
          clear hB9
          go_wp2_with fail
          go_ret
          exact ⟨rfl, HZ.out⟩
      · skip
        go_simp
        refine hK.out _ _ ?_ (fun hHeld2 => ?_)
        · with_reducible assumption
        clear hK K hHeld
        have hHeld := hHeld2
        clear hHeld2
        (try simp only [List.getElem_toArray, List.getElem_cons_succ, List.getElem_cons_zero, Act.put, List.setIfInBounds_toArray, List.set_cons_zero, List.set_cons_succ])
        refine wpAnyH_ready (rs := [3, 6]) (by kernel_rfl) (by simp) ?_
        refine (AllReadyH.cons rfl (fun K hK => ?_) (AllReadyH.cons rfl (fun K hK => ?_) AllReadyH.nil))
        · skip
          go_simp
          refine (withSignS w w.heap.size (w.heap.size + 1) (fun wz => .bool (nb wz w.heap.size)) (fun wz => .bool (nb wz (w.heap.size + 1))) 0 0 0 0 (keepsC_nb w.heap.size) (keepsC_nb (w.heap.size + 1)) _ _ 0 0 false (HA.out _) _ ?_).mono ?_
          · with_reducible assumption
          rintro e w5 ⟨rfl, hP⟩
          refine hK.out _ _ ?_ (fun hHeld2 => ?_)
          · exact hP
          clear hK K hHeld
          have hHeld := hHeld2
          clear hHeld2
          (try simp only [List.getElem_toArray, List.getElem_cons_succ, List.getElem_cons_zero, Act.put, List.setIfInBounds_toArray, List.set_cons_zero, List.set_cons_succ])
          refine wpAnyH_ready (rs := [6]) (by kernel_rfl) (by simp) ?_
          refine (AllReadyH.cons rfl (fun K hK => ?_) AllReadyH.nil)
          go_simp
          refine hK.out _ _ ?_ (fun hHeld2 => ?_)
          · with_reducible assumption
          clear hK K hHeld
          have hHeld := hHeld2
          clear hHeld2
          (try simp only [List.getElem_toArray, List.getElem_cons_succ, List.getElem_cons_zero, Act.put, List.setIfInBounds_toArray, List.set_cons_zero, List.set_cons_succ])
          refine wpAnyH_ready (rs := [7]) (by kernel_rfl) (by simp) ?_
          refine (AllReadyH.cons rfl (fun K hK => ?_) AllReadyH.nil)
          go_simp
          refine (withSignS w w.heap.size (w.heap.size + 1) (fun wz => .bool (nb wz w.heap.size)) (fun wz => .bool (nb wz (w.heap.size + 1))) 0 0 0 0 (keepsC_nb w.heap.size) (keepsC_nb (w.heap.size + 1)) _ _ 0 0 false (HC.out _) _ ?_).mono ?_
          · with_reducible assumption
          rintro e w5 ⟨rfl, hP⟩
          refine hK.out _ _ ?_ (fun hHeld2 => ?_)
          · exact hP
          clear hK K hHeld
          have hHeld := hHeld2
          clear hHeld2
          (try simp only [List.getElem_toArray, List.getElem_cons_succ, List.getElem_cons_zero, Act.put, List.setIfInBounds_toArray, List.set_cons_zero, List.set_cons_succ])
          refine wpAnyH_ready (rs := [8]) (by kernel_rfl) (by simp) ?_
          refine (AllReadyH.cons rfl (fun K hK => ?_) AllReadyH.nil)
          go_simp
          refine hK.out _ _ ?_ (fun hHeld2 => ?_)
          · exact PairS.setA (pa := (fun wz => .bool (nb wz w.heap.size))) (pb := (fun wz => .bool (nb wz (w.heap.size + 1)))) hP (Nat.le_refl _) (by simp) false (setsC_nb w.heap.size false) (nearC_nb (w.heap.size + 1))
          clear hK K hHeld
          have hHeld := hHeld2
          clear hHeld2
          (try simp only [List.getElem_toArray, List.getElem_cons_succ, List.getElem_cons_zero, Act.put, List.setIfInBounds_toArray, List.set_cons_zero, List.set_cons_succ])
          refine wpAnyH_ready (rs := [9]) (by kernel_rfl) (by simp) ?_
          refine (AllReadyH.cons rfl (fun K hK => ?_) AllReadyH.nil)
          go_simp
          refine hK.out _ _ ?_ (fun hHeld2 => ?_)
          · exact PairS.setB (pa := (fun wz => .bool (nb wz w.heap.size))) (pb := (fun wz => .bool (nb wz (w.heap.size + 1)))) (PairS.setA (pa := (fun wz => .bool (nb wz w.heap.size))) (pb := (fun wz => .bool (nb wz (w.heap.size + 1)))) hP (Nat.le_refl _) (by simp) false (setsC_nb w.heap.size false) (nearC_nb (w.heap.size + 1))) (by simp) (by simp) false (setsC_nb (w.heap.size + 1) false) (nearC_nb w.heap.size)
          clear hK K hHeld
          have hHeld := hHeld2
          clear hHeld2
          (try simp only [List.getElem_toArray, List.getElem_cons_succ, List.getElem_cons_zero, Act.put, List.setIfInBounds_toArray, List.set_cons_zero, List.set_cons_succ])
          refine wpAnyH_done (by kernel_rfl) ?_ _
          refine NoPanic.normal ?_
          have hE := PairS.fin (pa := (fun wz => .bool (nb wz w.heap.size))) (pb := (fun wz => .bool (nb wz (w.heap.size + 1)))) hP (Nat.le_refl _) (by simp) (by simp) false false (setsC_nb w.heap.size false) (nearC_nb (w.heap.size + 1))
          clear hP hHeld
          revert hE
          generalize ((((((w5.setCell ⟨w.heap.size, 0, none⟩ (.bool false)).setCell ⟨w.heap.size, 1, none⟩ (.int .u64 0)).setCell ⟨w.heap.size, 2, none⟩ (.int .u64 0)).setCell ⟨(w.heap.size + 1), 0, none⟩ (.bool false)).setCell ⟨(w.heap.size + 1), 1, none⟩ (.int .u64 0)).setCell ⟨(w.heap.size + 1), 2, none⟩ (.int .u64 0)) = wf
          rintro ⟨e0, e1, e2, e3, e4, e5, e6, e7, e8⟩
          go_wp2_with fail
          refine (implOrder false 0 0 false 0 0 _).mono ?_
          rintro e w9 ⟨rfl, hB9⟩
          have HZ := Lib.hid (bt2 e8 hB9)
          clear hB9
          go_wp2_with fail
          go_ret
          exact ⟨rfl, HZ.out⟩
        · skip
          go_simp
          refine hK.out _ _ ?_ (fun hHeld2 => ?_)
          · with_reducible assumption
          clear hK K hHeld
          have hHeld := hHeld2
          clear hHeld2
          (try simp only [List.getElem_toArray, List.getElem_cons_succ, List.getElem_cons_zero, Act.put, List.setIfInBounds_toArray, List.set_cons_zero, List.set_cons_succ])
          refine wpAnyH_ready (rs := [3]) (by kernel_rfl) (by simp) ?_
          refine (AllReadyH.cons rfl (fun K hK => ?_) AllReadyH.nil)
          go_simp
          refine (withSignS w w.heap.size (w.heap.size + 1) (fun wz => .bool (nb wz w.heap.size)) (fun wz => .bool (nb wz (w.heap.size + 1))) 0 0 0 0 (keepsC_nb w.heap.size) (keepsC_nb (w.heap.size + 1)) _ _ 0 0 false (HA.out _) _ ?_).mono ?_
          · with_reducible assumption
          rintro e w5 ⟨rfl, hP⟩
          refine hK.out _ _ ?_ (fun hHeld2 => ?_)
          · exact hP
          clear hK K hHeld
          have hHeld := hHeld2
          clear hHeld2
          (try simp only [List.getElem_toArray, List.getElem_cons_succ, List.getElem_cons_zero, Act.put, List.setIfInBounds_toArray, List.set_cons_zero, List.set_cons_succ])
          refine wpAnyH_ready (rs := [7]) (by kernel_rfl) (by simp) ?_
          refine (AllReadyH.cons rfl (fun K hK => ?_) AllReadyH.nil)
          go_simp
          refine (withSignS w w.heap.size (w.heap.size + 1) (fun wz => .bool (nb wz w.heap.size)) (fun wz => .bool (nb wz (w.heap.size + 1))) 0 0 0 0 (keepsC_nb w.heap.size) (keepsC_nb (w.heap.size + 1)) _ _ 0 0 false (HC.out _) _ ?_).mono ?_
          · with_reducible assumption
          rintro e w5 ⟨rfl, hP⟩
          refine hK.out _ _ ?_ (fun hHeld2 => ?_)
          · exact hP
          clear hK K hHeld
          have hHeld := hHeld2
          clear hHeld2
          (try simp only [List.getElem_toArray, List.getElem_cons_succ, List.getElem_cons_zero, Act.put, List.setIfInBounds_toArray, List.set_cons_zero, List.set_cons_succ])
          refine wpAnyH_ready (rs := [8]) (by kernel_rfl) (by simp) ?_
          refine (AllReadyH.cons rfl (fun K hK => ?_) AllReadyH.nil)
          go_simp
          refine hK.out _ _ ?_ (fun hHeld2 => ?_)
          · exact PairS.setA (pa := (fun wz => .bool (nb wz w.heap.size))) (pb := (fun wz => .bool (nb wz (w.heap.size + 1)))) hP (Nat.le_refl _) (by simp) false (setsC_nb w.heap.size false) (nearC_nb (w.heap.size + 1))
          clear hK K hHeld
          have hHeld := hHeld2
          clear hHeld2
          (try simp only [List.getElem_toArray, List.getElem_cons_succ, List.getElem_cons_zero, Act.put, List.setIfInBounds_toArray, List.set_cons_zero, List.set_cons_succ])
          refine wpAnyH_ready (rs := [9]) (by kernel_rfl) (by simp) ?_
          refine (AllReadyH.cons rfl (fun K hK => ?_) AllReadyH.nil)
          go_simp
          refine hK.out _ _ ?_ (fun hHeld2 => ?_)
          · exact PairS.setB (pa := (fun wz => .bool (nb wz w.heap.size))) (pb := (fun wz => .bool (nb wz (w.heap.size + 1)))) (PairS.setA (pa := (fun wz => .bool (nb wz w.heap.size))) (pb := (fun wz => .bool (nb wz (w.heap.size + 1)))) hP (Nat.le_refl _) (by simp) false (setsC_nb w.heap.size false) (nearC_nb (w.heap.size + 1))) (by simp) (by simp) false (setsC_nb (w.heap.size + 1) false) (nearC_nb w.heap.size)
          clear hK K hHeld
          have hHeld := hHeld2
          clear hHeld2
          (try simp only [List.getElem_toArray, List.getElem_cons_succ, List.getElem_cons_zero, Act.put, List.setIfInBounds_toArray, List.set_cons_zero, List.set_cons_succ])
          refine wpAnyH_done (by kernel_rfl) ?_ _
          refine NoPanic.normal ?_
          have hE := PairS.fin (pa := (fun wz => .bool (nb wz w.heap.size))) (pb := (fun wz => .bool (nb wz (w.heap.size + 1)))) hP (Nat.le_refl _) (by simp) (by simp) false false (setsC_nb w.heap.size false) (nearC_nb (w.heap.size + 1))
          clear hP hHeld
          revert hE
          generalize ((((((w5.setCell ⟨w.heap.size, 0, none⟩ (.bool false)).setCell ⟨w.heap.size, 1, none⟩ (.int .u64 0)).setCell ⟨w.heap.size, 2, none⟩ (.int .u64 0)).setCell ⟨(w.heap.size + 1), 0, none⟩ (.bool false)).setCell ⟨(w.heap.size + 1), 1, none⟩ (.int .u64 0)).setCell ⟨(w.heap.size + 1), 2, none⟩ (.int .u64 0)) = wf
          rintro ⟨e0, e1, e2, e3, e4, e5, e6, e7, e8⟩
          go_wp2_with fail
          refine (implOrder false 0 0 false 0 0 _).mono ?_
          rintro e w9 ⟨rfl, hB9⟩
          have HZ := Lib.hid (bt2 e8 hB9)
          clear hB9
          go_wp2_with fail
          go_ret
          exact ⟨rfl, HZ.out⟩
      · skip
        go_simp
        refine hK.out _ _ ?_ (fun hHeld2 => ?_)
        · with_reducible assumption
        clear hK K hHeld
        have hHeld := hHeld2
        clear hHeld2
        (try simp only [List.getElem_toArray, List.getElem_cons_succ, List.getElem_cons_zero, Act.put, List.setIfInBounds_toArray, List.set_cons_zero, List.set_cons_succ])
        refine wpAnyH_ready (rs := [3, 5]) (by kernel_rfl) (by simp) ?_
        refine (AllReadyH.cons rfl (fun K hK => ?_) (AllReadyH.cons rfl (fun K hK => ?_) AllReadyH.nil))
        · skip
          go_simp
          refine (withSignS w w.heap.size (w.heap.size + 1) (fun wz => .bool (nb wz w.heap.size)) (fun wz => .bool (nb wz (w.heap.size + 1))) 0 0 0 0 (keepsC_nb w.heap.size) (keepsC_nb (w.heap.size + 1)) _ _ 0 0 false (HA.out _) _ ?_).mono ?_
          · with_reducible assumption
          rintro e w5 ⟨rfl, hP⟩
          refine hK.out _ _ ?_ (fun hHeld2 => ?_)
          · exact hP
          clear hK K hHeld
          have hHeld := hHeld2
          clear hHeld2
          (try simp only [List.getElem_toArray, List.getElem_cons_succ, List.getElem_cons_zero, Act.put, List.setIfInBounds_toArray, List.set_cons_zero, List.set_cons_succ])
          refine wpAnyH_ready (rs := [5]) (by kernel_rfl) (by simp) ?_
          refine (AllReadyH.cons rfl (fun K hK => ?_) AllReadyH.nil)
          go_simp
          refine hK.out _ _ ?_ (fun hHeld2 => ?_)
          · with_reducible assumption
          clear hK K hHeld
          have hHeld := hHeld2
          clear hHeld2
          (try simp only [List.getElem_toArray, List.getElem_cons_succ, List.getElem_cons_zero, Act.put, List.setIfInBounds_toArray, List.set_cons_zero, List.set_cons_succ])
          refine wpAnyH_ready (rs := [7]) (by kernel_rfl) (by simp) ?_
          refine (AllReadyH.cons rfl (fun K hK => ?_) AllReadyH.nil)
          go_simp
          refine (withSignS w w.heap.size (w.heap.size + 1) (fun wz => .bool (nb wz w.heap.size)) (fun wz => .bool (nb wz (w.heap.size + 1))) 0 0 0 0 (keepsC_nb w.heap.size) (keepsC_nb (w.heap.size + 1)) _ _ 0 0 false (HC.out _) _ ?_).mono ?_
          · with_reducible assumption
          rintro e w5 ⟨rfl, hP⟩
          refine hK.out _ _ ?_ (fun hHeld2 => ?_)
          · exact hP
          clear hK K hHeld
          have hHeld := hHeld2
          clear hHeld2
          (try simp only [List.getElem_toArray, List.getElem_cons_succ, List.getElem_cons_zero, Act.put, List.setIfInBounds_toArray, List.set_cons_zero, List.set_cons_succ])
          refine wpAnyH_ready (rs := [8]) (by kernel_rfl) (by simp) ?_
          refine (AllReadyH.cons rfl (fun K hK => ?_) AllReadyH.nil)
          go_simp
          refine hK.out _ _ ?_ (fun hHeld2 => ?_)
          · exact PairS.setA (pa := (fun wz => .bool (nb wz w.heap.size))) (pb := (fun wz => .bool (nb wz (w.heap.size + 1)))) hP (Nat.le_refl _) (by simp) false (setsC_nb w.heap.size false) (nearC_nb (w.heap.size + 1))
          clear hK K hHeld
          have hHeld := hHeld2
          clear hHeld2
          (try simp only [List.getElem_toArray, List.getElem_cons_succ, List.getElem_cons_zero, Act.put, List.setIfInBounds_toArray, List.set_cons_zero, List.set_cons_succ])
          refine wpAnyH_ready (rs := [9]) (by kernel_rfl) (by simp) ?_
          refine (AllReadyH.cons rfl (fun K hK => ?_) AllReadyH.nil)
          go_simp
          refine hK.out _ _ ?_ (fun hHeld2 => ?_)
          · exact PairS.setB (pa := (fun wz => .bool (nb wz w.heap.size))) (pb := (fun wz => .bool (nb wz (w.heap.size + 1)))) (PairS.setA (pa := (fun wz => .bool (nb wz w.heap.size))) (pb := (fun wz => .bool (nb wz (w.heap.size + 1)))) hP (Nat.le_refl _) (by simp) false (setsC_nb w.heap.size false) (nearC_nb (w.heap.size + 1))) (by simp) (by simp) false (setsC_nb (w.heap.size + 1) false) (nearC_nb w.heap.size)
          clear hK K hHeld
          have hHeld := hHeld2
          clear hHeld2
          (try simp only [List.getElem_toArray, List.getElem_cons_succ, List.getElem_cons_zero, Act.put, List.setIfInBounds_toArray, List.set_cons_zero, List.set_cons_succ])
          refine wpAnyH_done (by kernel_rfl) ?_ _
          refine NoPanic.normal ?_
          have hE := PairS.fin (pa := (fun wz => .bool (nb wz w.heap.size))) (pb := (fun wz => .bool (nb wz (w.heap.size + 1)))) hP (Nat.le_refl _) (by simp) (by simp) false false (setsC_nb w.heap.size false) (nearC_nb (w.heap.size + 1))
          clear hP hHeld
          revert hE
          generalize ((((((w5.setCell ⟨w.heap.size, 0, none⟩ (.bool false)).setCell ⟨w.heap.size, 1, none⟩ (.int .u64 0)).setCell ⟨w.heap.size, 2, none⟩ (.int .u64 0)).setCell ⟨(w.heap.size + 1), 0, none⟩ (.bool false)).setCell ⟨(w.heap.size + 1), 1, none⟩ (.int .u64 0)).setCell ⟨(w.heap.size + 1), 2, none⟩ (.int .u64 0)) = wf
          rintro ⟨e0, e1, e2, e3, e4, e5, e6, e7, e8⟩
          go_wp2_with fail
          refine (implOrder false 0 0 false 0 0 _).mono ?_
          rintro e w9 ⟨rfl, hB9⟩
          have HZ := Lib.hid (bt2 e8 hB9)
          clear hB9
          go_wp2_with fail
          go_ret
          exact ⟨rfl, HZ.out⟩
        · skip
          go_simp
          refine hK.out _ _ ?_ (fun hHeld2 => ?_)
          · with_reducible assumption
          clear hK K hHeld
          have hHeld := hHeld2
          clear hHeld2
          (try simp only [List.getElem_toArray, List.getElem_cons_succ, List.getElem_cons_zero, Act.put, List.setIfInBounds_toArray, List.set_cons_zero, List.set_cons_succ])
          refine wpAnyH_ready (rs := [3]) (by kernel_rfl) (by simp) ?_
          refine (AllReadyH.cons rfl (fun K hK => ?_) AllReadyH.nil)
          go_simp
          refine (withSignS w w.heap.size (w.heap.size + 1) (fun wz => .bool (nb wz w.heap.size)) (fun wz => .bool (nb wz (w.heap.size + 1))) 0 0 0 0 (keepsC_nb w.heap.size) (keepsC_nb (w.heap.size + 1)) _ _ 0 0 false (HA.out _) _ ?_).mono ?_
          · with_reducible assumption
          rintro e w5 ⟨rfl, hP⟩
          refine hK.out _ _ ?_ (fun hHeld2 => ?_)
          · exact hP
          clear hK K hHeld
          have hHeld := hHeld2
          clear hHeld2
          (try simp only [List.getElem_toArray, List.getElem_cons_succ, List.getElem_cons_zero, Act.put, List.setIfInBounds_toArray, List.set_cons_zero, List.set_cons_succ])
          refine wpAnyH_ready (rs := [7]) (by kernel_rfl) (by simp) ?_
          refine (AllReadyH.cons rfl (fun K hK => ?_) AllReadyH.nil)
          go_simp
          refine (withSignS w w.heap.size (w.heap.size + 1) (fun wz => .bool (nb wz w.heap.size)) (fun wz => .bool (nb wz (w.heap.size + 1))) 0 0 0 0 (keepsC_nb w.heap.size) (keepsC_nb (w.heap.size + 1)) _ _ 0 0 false (HC.out _) _ ?_).mono ?_
          · with_reducible assumption
          rintro e w5 ⟨rfl, hP⟩
          refine hK.out _ _ ?_ (fun hHeld2 => ?_)
          · exact hP
          clear hK K hHeld
          have hHeld := hHeld2
          clear hHeld2
          (try simp only [List.getElem_toArray, List.getElem_cons_succ, List.getElem_cons_zero, Act.put, List.setIfInBounds_toArray, List.set_cons_zero, List.set_cons_succ])
          refine wpAnyH_ready (rs := [8]) (by kernel_rfl) (by simp) ?_
          refine (AllReadyH.cons rfl (fun K hK => ?_) AllReadyH.nil)
          go_simp
          refine hK.out _ _ ?_ (fun hHeld2 => ?_)
          · exact PairS.setA (pa := (fun wz => .bool (nb wz w.heap.size))) (pb := (fun wz => .bool (nb wz (w.heap.size + 1)))) hP (Nat.le_refl _) (by simp) false (setsC_nb w.heap.size false) (nearC_nb (w.heap.size + 1))
          clear hK K hHeld
          have hHeld := hHeld2
          clear hHeld2
          (try simp only [List.getElem_toArray, List.getElem_cons_succ, List.getElem_cons_zero, Act.put, List.setIfInBounds_toArray, List.set_cons_zero, List.set_cons_succ])
          refine wpAnyH_ready (rs := [9]) (by kernel_rfl) (by simp) ?_
          refine (AllReadyH.cons rfl (fun K hK => ?_) AllReadyH.nil)
          go_simp
          refine hK.out _ _ ?_ (fun hHeld2 => ?_)
          · exact PairS.setB (pa := (fun wz => .bool (nb wz w.heap.size))) (pb := (fun wz => .bool (nb wz (w.heap.size + 1)))) (PairS.setA (pa := (fun wz => .bool (nb wz w.heap.size))) (pb := (fun wz => .bool (nb wz (w.heap.size + 1)))) hP (Nat.le_refl _) (by simp) false (setsC_nb w.heap.size false) (nearC_nb (w.heap.size + 1))) (by simp) (by simp) false (setsC_nb (w.heap.size + 1) false) (nearC_nb w.heap.size)
          clear hK K hHeld
          have hHeld := hHeld2
          clear hHeld2
          (try simp only [List.getElem_toArray, List.getElem_cons_succ, List.getElem_cons_zero, Act.put, List.setIfInBounds_toArray, List.set_cons_zero, List.set_cons_succ])
          refine wpAnyH_done (by kernel_rfl) ?_ _
          refine NoPanic.normal ?_
          have hE := PairS.fin (pa := (fun wz => .bool (nb wz w.heap.size))) (pb := (fun wz => .bool (nb wz (w.heap.size + 1)))) hP (Nat.le_refl _) (by simp) (by simp) false false (setsC_nb w.heap.size false) (nearC_nb (w.heap.size + 1))
          clear hP hHeld
          revert hE
          generalize ((((((w5.setCell ⟨w.heap.size, 0, none⟩ (.bool false)).setCell ⟨w.heap.size, 1, none⟩ (.int .u64 0)).setCell ⟨w.heap.size, 2, none⟩ (.int .u64 0)).setCell ⟨(w.heap.size + 1), 0, none⟩ (.bool false)).setCell ⟨(w.heap.size + 1), 1, none⟩ (.int .u64 0)).setCell ⟨(w.heap.size + 1), 2, none⟩ (.int .u64 0)) = wf
          rintro ⟨e0, e1, e2, e3, e4, e5, e6, e7, e8⟩
          go_wp2_with fail
          refine (implOrder false 0 0 false 0 0 _).mono ?_
          rintro e w9 ⟨rfl, hB9⟩
          have HZ := Lib.hid (bt2 e8 hB9)
          clear hB9
          go_wp2_with fail
          go_ret
          exact ⟨rfl, HZ.out⟩
    · skip
      go_simp
      refine hK.out _ _ ?_ (fun hHeld2 => ?_)
      · with_reducible assumption
      clear hK K hHeld
      have hHeld := hHeld2
      clear hHeld2
      (try simp only [List.getElem_toArray, List.getElem_cons_succ, List.getElem_cons_zero, Act.put, List.setIfInBounds_toArray, List.set_cons_zero, List.set_cons_succ])
      refine wpAnyH_ready (rs := [2, 6]) (by kernel_rfl) (by simp) ?_
      refine (AllReadyH.cons rfl (fun K hK => ?_) (AllReadyH.cons rfl (fun K hK => ?_) AllReadyH.nil))
      · skip
        go_simp
        refine hK.out _ _ ?_ (fun hHeld2 => ?_)
        · with_reducible assumption
        clear hK K hHeld
        have hHeld := hHeld2
        clear hHeld2
        (try simp only [List.getElem_toArray, List.getElem_cons_succ, List.getElem_cons_zero, Act.put, List.setIfInBounds_toArray, List.set_cons_zero, List.set_cons_succ])
        refine wpAnyH_ready (rs := [3, 6]) (by kernel_rfl) (by simp) ?_
        refine (AllReadyH.cons rfl (fun K hK => ?_) (AllReadyH.cons rfl (fun K hK => ?_) AllReadyH.nil))
        · skip
          go_simp
          refine (withSignS w w.heap.size (w.heap.size + 1) (fun wz => .bool (nb wz w.heap.size)) (fun wz => .bool (nb wz (w.heap.size + 1))) 0 0 0 0 (keepsC_nb w.heap.size) (keepsC_nb (w.heap.size + 1)) _ _ 0 0 false (HA.out _) _ ?_).mono ?_
          · with_reducible assumption
          rintro e w5 ⟨rfl, hP⟩
          refine hK.out _ _ ?_ (fun hHeld2 => ?_)
          · exact hP
          clear hK K hHeld
          have hHeld := hHeld2
          clear hHeld2
          (try simp only [List.getElem_toArray, List.getElem_cons_succ, List.getElem_cons_zero, Act.put, List.setIfInBounds_toArray, List.set_cons_zero, List.set_cons_succ])
          refine wpAnyH_ready (rs := [6]) (by kernel_rfl) (by simp) ?_
          refine (AllReadyH.cons rfl (fun K hK => ?_) AllReadyH.nil)
          go_simp
          refine hK.out _ _ ?_ (fun hHeld2 => ?_)
          · with_reducible assumption
          clear hK K hHeld
          have hHeld := hHeld2
          clear hHeld2
          (try simp only [List.getElem_toArray, List.getElem_cons_succ, List.getElem_cons_zero, Act.put, List.setIfInBounds_toArray, List.set_cons_zero, List.set_cons_succ])
          refine wpAnyH_ready (rs := [7]) (by kernel_rfl) (by simp) ?_
          refine (AllReadyH.cons rfl (fun K hK => ?_) AllReadyH.nil)
          go_simp
          refine (withSignS w w.heap.size (w.heap.size + 1) (fun wz => .bool (nb wz w.heap.size)) (fun wz => .bool (nb wz (w.heap.size + 1))) 0 0 0 0 (keepsC_nb w.heap.size) (keepsC_nb (w.heap.size + 1)) _ _ 0 0 false (HC.out _) _ ?_).mono ?_
          · with_reducible assumption
          rintro e w5 ⟨rfl, hP⟩
          refine hK.out _ _ ?_ (fun hHeld2 => ?_)
          · exact hP
          clear hK K hHeld
          have hHeld := hHeld2
          clear hHeld2
          (try simp only [List.getElem_toArray, List.getElem_cons_succ, List.getElem_cons_zero, Act.put, List.setIfInBounds_toArray, List.set_cons_zero, List.set_cons_succ])
          refine wpAnyH_ready (rs := [8]) (by kernel_rfl) (by simp) ?_
          refine (AllReadyH.cons rfl (fun K hK => ?_) AllReadyH.nil)
          go_simp
          refine hK.out _ _ ?_ (fun hHeld2 => ?_)
          · exact PairS.setA (pa := (fun wz => .bool (nb wz w.heap.size))) (pb := (fun wz => .bool (nb wz (w.heap.size + 1)))) hP (Nat.le_refl _) (by simp) false (setsC_nb w.heap.size false) (nearC_nb (w.heap.size + 1))
          clear hK K hHeld
          have hHeld := hHeld2
          clear hHeld2
          (try simp only [List.getElem_toArray, List.getElem_cons_succ, List.getElem_cons_zero, Act.put, List.setIfInBounds_toArray, List.set_cons_zero, List.set_cons_succ])
          refine wpAnyH_ready (rs := [9]) (by kernel_rfl) (by simp) ?_
          refine (AllReadyH.cons rfl (fun K hK => ?_) AllReadyH.nil)
          go_simp
          refine hK.out _ _ ?_ (fun hHeld2 => ?_)
          · exact PairS.setB (pa := (fun wz => .bool (nb wz w.heap.size))) (pb := (fun wz => .bool (nb wz (w.heap.size + 1)))) (PairS.setA (pa := (fun wz => .bool (nb wz w.heap.size))) (pb := (fun wz => .bool (nb wz (w.heap.size + 1)))) hP (Nat.le_refl _) (by simp) false (setsC_nb w.heap.size false) (nearC_nb (w.heap.size + 1))) (by simp) (by simp) false (setsC_nb (w.heap.size + 1) false) (nearC_nb w.heap.size)
          clear hK K hHeld
          have hHeld := hHeld2
          clear hHeld2
          (try simp only [List.getElem_toArray, List.getElem_cons_succ, List.getElem_cons_zero, Act.put, List.setIfInBounds_toArray, List.set_cons_zero, List.set_cons_succ])
          refine wpAnyH_done (by kernel_rfl) ?_ _
          refine NoPanic.normal ?_
          have hE := PairS.fin (pa := (fun wz => .bool (nb wz w.heap.size))) (pb := (fun wz => .bool (nb wz (w.heap.size + 1)))) hP (Nat.le_refl _) (by simp) (by simp) false false (setsC_nb w.heap.size false) (nearC_nb (w.heap.size + 1))
          clear hP hHeld
          revert hE
          generalize ((((((w5.setCell ⟨w.heap.size, 0, none⟩ (.bool false)).setCell ⟨w.heap.size, 1, none⟩ (.int .u64 0)).setCell ⟨w.heap.size, 2, none⟩ (.int .u64 0)).setCell ⟨(w.heap.size + 1), 0, none⟩ (.bool false)).setCell ⟨(w.heap.size + 1), 1, none⟩ (.int .u64 0)).setCell ⟨(w.heap.size + 1), 2, none⟩ (.int .u64 0)) = wf
          rintro ⟨e0, e1, e2, e3, e4, e5, e6, e7, e8⟩
          go_wp2_with fail
          refine (implOrder false 0 0 false 0 0 _).mono ?_
          rintro e w9 ⟨rfl, hB9⟩
          have HZ := Lib.hid (bt2 e8 hB9)
          clear hB9
          go_wp2_with fail
          go_ret
          exact ⟨rfl, HZ.out⟩
        · skip
          go_simp
          refine hK.out _ _ ?_ (fun hHeld2 => ?_)
          · with_reducible assumption
          clear hK K hHeld
          have hHeld := hHeld2
          clear hHeld2
          (try simp only [List.getElem_toArray, List.getElem_cons_succ, List.getElem_cons_zero, Act.put, List.setIfInBounds_toArray, List.set_cons_zero, List.set_cons_succ])
          refine wpAnyH_ready (rs := [3]) (by kernel_rfl) (by simp) ?_
          refine (AllReadyH.cons rfl (fun K hK => ?_) AllReadyH.nil)
          go_simp
          refine (withSignS w w.heap.size (w.heap.size + 1) (fun wz => .bool (nb wz w.heap.size)) (fun wz => .bool (nb wz (w.heap.size + 1))) 0 0 0 0 (keepsC_nb w.heap.size) (keepsC_nb (w.heap.size + 1)) _ _ 0 0 false (HA.out _) _ ?_).mono ?_
          · with_reducible assumption
          rintro e w5 ⟨rfl, hP⟩
          refine hK.out _ _ ?_ (fun hHeld2 => ?_)
          · exact hP
          clear hK K hHeld
          have hHeld := hHeld2
          clear hHeld2
          (try simp only [List.getElem_toArray, List.getElem_cons_succ, List.getElem_cons_zero, Act.put, List.setIfInBounds_toArray, List.set_cons_zero, List.set_cons_succ])
          refine wpAnyH_ready (rs := [7]) (by kernel_rfl) (by simp) ?_
          refine (AllReadyH.cons rfl (fun K hK => ?_) AllReadyH.nil)
          go_simp
          refine (withSignS w w.heap.size (w.heap.size + 1) (fun wz => .bool (nb wz w.heap.size)) (fun wz => .bool (nb wz (w.heap.size + 1))) 0 0 0 0 (keepsC_nb w.heap.size) (keepsC_nb (w.heap.size + 1)) _ _ 0 0 false (HC.out _) _ ?_).mono ?_
          · with_reducible assumption
          rintro e w5 ⟨rfl, hP⟩
          refine hK.out _ _ ?_ (fun hHeld2 => ?_)
          · exact hP
          clear hK K hHeld
          have hHeld := hHeld2
          clear hHeld2
          (try simp only [List.getElem_toArray, List.getElem_cons_succ, List.getElem_cons_zero, Act.put, List.setIfInBounds_toArray, List.set_cons_zero, List.set_cons_succ])
          refine wpAnyH_ready (rs := [8]) (by kernel_rfl) (by simp) ?_
          refine (AllReadyH.cons rfl (fun K hK => ?_) AllReadyH.nil)
          go_simp
          refine hK.out _ _ ?_ (fun hHeld2 => ?_)
          · exact PairS.setA (pa := (fun wz => .bool (nb wz w.heap.size))) (pb := (fun wz => .bool (nb wz (w.heap.size + 1)))) hP (Nat.le_refl _) (by simp) false (setsC_nb w.heap.size false) (nearC_nb (w.heap.size + 1))
          clear hK K hHeld
          have hHeld := hHeld2
          clear hHeld2
          (try simp only [List.getElem_toArray, List.getElem_cons_succ, List.getElem_cons_zero, Act.put, List.setIfInBounds_toArray, List.set_cons_zero, List.set_cons_succ])
          refine wpAnyH_ready (rs := [9]) (by kernel_rfl) (by simp) ?_
          refine (AllReadyH.cons rfl (fun K hK => ?_) AllReadyH.nil)
          go_simp
          refine hK.out _ _ ?_ (fun hHeld2 => ?_)
          · exact PairS.setB (pa := (fun wz => .bool (nb wz w.heap.size))) (pb := (fun wz => .bool (nb wz (w.heap.size + 1)))) (PairS.setA (pa := (fun wz => .bool (nb wz w.heap.size))) (pb := (fun wz => .bool (nb wz (w.heap.size + 1)))) hP (Nat.le_refl _) (by simp) false (setsC_nb w.heap.size false) (nearC_nb (w.heap.size + 1))) (by simp) (by simp) false (setsC_nb (w.heap.size + 1) false) (nearC_nb w.heap.size)
          clear hK K hHeld
          have hHeld := hHeld2
          clear hHeld2
          (try simp only [List.getElem_toArray, List.getElem_cons_succ, List.getElem_cons_zero, Act.put, List.setIfInBounds_toArray, List.set_cons_zero, List.set_cons_succ])
          refine wpAnyH_done (by kernel_rfl) ?_ _
          refine NoPanic.normal ?_
          have hE := PairS.fin (pa := (fun wz => .bool (nb wz w.heap.size))) (pb := (fun wz => .bool (nb wz (w.heap.size + 1)))) hP (Nat.le_refl _) (by simp) (by simp) false false (setsC_nb w.heap.size false) (nearC_nb (w.heap.size + 1))
          clear hP hHeld
          revert hE
          generalize ((((((w5.setCell ⟨w.heap.size, 0, none⟩ (.bool false)).setCell ⟨w.heap.size, 1, none⟩ (.int .u64 0)).setCell ⟨w.heap.size, 2, none⟩ (.int .u64 0)).setCell ⟨(w.heap.size + 1), 0, none⟩ (.bool false)).setCell ⟨(w.heap.size + 1), 1, none⟩ (.int .u64 0)).setCell ⟨(w.heap.size + 1), 2, none⟩ (.int .u64 0)) = wf
          rintro ⟨e0, e1, e2, e3, e4, e5, e6, e7, e8⟩
          go_wp2_with fail
          refine (implOrder false 0 0 false 0 0 _).mono ?_
          rintro e w9 ⟨rfl, hB9⟩
          have HZ := Lib.hid (bt2 e8 hB9)
          clear hB9
          go_wp2_with fail
          go_ret
          exact ⟨rfl, HZ.out⟩
      · skip
        go_simp
        refine hK.out _ _ ?_ (fun hHeld2 => ?_)
        · with_reducible assumption
        clear hK K hHeld
        have hHeld := hHeld2
        clear hHeld2
        (try simp only [List.getElem_toArray, List.getElem_cons_succ, List.getElem_cons_zero, Act.put, List.setIfInBounds_toArray, List.set_cons_zero, List.set_cons_succ])
        refine wpAnyH_ready (rs := [2]) (by kernel_rfl) (by simp) ?_
        refine (AllReadyH.cons rfl (fun K hK => ?_) AllReadyH.nil)
        go_simp
        refine hK.out _ _ ?_ (fun hHeld2 => ?_)
        · with_reducible assumption
        clear hK K hHeld
        have hHeld := hHeld2
        clear hHeld2
        (try simp only [List.getElem_toArray, List.getElem_cons_succ, List.getElem_cons_zero, Act.put, List.setIfInBounds_toArray, List.set_cons_zero, List.set_cons_succ])
        refine wpAnyH_ready (rs := [3]) (by kernel_rfl) (by simp) ?_
        refine (AllReadyH.cons rfl (fun K hK => ?_) AllReadyH.nil)
        go_simp
        refine (withSignS w w.heap.size (w.heap.size + 1) (fun wz => .bool (nb wz w.heap.size)) (fun wz => .bool (nb wz (w.heap.size + 1))) 0 0 0 0 (keepsC_nb w.heap.size) (keepsC_nb (w.heap.size + 1)) _ _ 0 0 false (HA.out _) _ ?_).mono ?_
        · with_reducible assumption
        rintro e w5 ⟨rfl, hP⟩
        refine hK.out _ _ ?_ (fun hHeld2 => ?_)
        · exact hP
        clear hK K hHeld
        have hHeld := hHeld2
        clear hHeld2
        (try simp only [List.getElem_toArray, List.getElem_cons_succ, List.getElem_cons_zero, Act.put, List.setIfInBounds_toArray, List.set_cons_zero, List.set_cons_succ])
        refine wpAnyH_ready (rs := [7]) (by kernel_rfl) (by simp) ?_
        refine (AllReadyH.cons rfl (fun K hK => ?_) AllReadyH.nil)
        go_simp
        refine (withSignS w w.heap.size (w.heap.size + 1) (fun wz => .bool (nb wz w.heap.size)) (fun wz => .bool (nb wz (w.heap.size + 1))) 0 0 0 0 (keepsC_nb w.heap.size) (keepsC_nb (w.heap.size + 1)) _ _ 0 0 false (HC.out _) _ ?_).mono ?_
        · with_reducible assumption
        rintro e w5 ⟨rfl, hP⟩
        refine hK.out _ _ ?_ (fun hHeld2 => ?_)
        · exact hP
        clear hK K hHeld
        have hHeld := hHeld2
        clear hHeld2
        (try simp only [List.getElem_toArray, List.getElem_cons_succ, List.getElem_cons_zero, Act.put, List.setIfInBounds_toArray, List.set_cons_zero, List.set_cons_succ])
        refine wpAnyH_ready (rs := [8]) (by kernel_rfl) (by simp) ?_
        refine (AllReadyH.cons rfl (fun K hK => ?_) AllReadyH.nil)
        go_simp
        refine hK.out _ _ ?_ (fun hHeld2 => ?_)
        · exact PairS.setA (pa := (fun wz => .bool (nb wz w.heap.size))) (pb := (fun wz => .bool (nb wz (w.heap.size + 1)))) hP (Nat.le_refl _) (by simp) false (setsC_nb w.heap.size false) (nearC_nb (w.heap.size + 1))
        clear hK K hHeld
        have hHeld := hHeld2
        clear hHeld2
        (try simp only [List.getElem_toArray, List.getElem_cons_succ, List.getElem_cons_zero, Act.put, List.setIfInBounds_toArray, List.set_cons_zero, List.set_cons_succ])
        refine wpAnyH_ready (rs := [9]) (by kernel_rfl) (by simp) ?_
        refine (AllReadyH.cons rfl (fun K hK => ?_) AllReadyH.nil)
        go_simp
        refine hK.out _ _ ?_ (fun hHeld2 => ?_)
        · exact PairS.setB (pa := (fun wz => .bool (nb wz w.heap.size))) (pb := (fun wz => .bool (nb wz (w.heap.size + 1)))) (PairS.setA (pa := (fun wz => .bool (nb wz w.heap.size))) (pb := (fun wz => .bool (nb wz (w.heap.size + 1)))) hP (Nat.le_refl _) (by simp) false (setsC_nb w.heap.size false) (nearC_nb (w.heap.size + 1))) (by simp) (by simp) false (setsC_nb (w.heap.size + 1) false) (nearC_nb w.heap.size)
        clear hK K hHeld
        have hHeld := hHeld2
        clear hHeld2
        (try simp only [List.getElem_toArray, List.getElem_cons_succ, List.getElem_cons_zero, Act.put, List.setIfInBounds_toArray, List.set_cons_zero, List.set_cons_succ])
        refine wpAnyH_done (by kernel_rfl) ?_ _
        refine NoPanic.normal ?_
        have hE := PairS.fin (pa := (fun wz => .bool (nb wz w.heap.size))) (pb := (fun wz => .bool (nb wz (w.heap.size + 1)))) hP (Nat.le_refl _) (by simp) (by simp) false false (setsC_nb w.heap.size false) (nearC_nb (w.heap.size + 1))
        clear hP hHeld
        revert hE
        generalize ((((((w5.setCell ⟨w.heap.size, 0, none⟩ (.bool false)).setCell ⟨w.heap.size, 1, none⟩ (.int .u64 0)).setCell ⟨w.heap.size, 2, none⟩ (.int .u64 0)).setCell ⟨(w.heap.size + 1), 0, none⟩ (.bool false)).setCell ⟨(w.heap.size + 1), 1, none⟩ (.int .u64 0)).setCell ⟨(w.heap.size + 1), 2, none⟩ (.int .u64 0)) = wf
        rintro ⟨e0, e1, e2, e3, e4, e5, e6, e7, e8⟩
        go_wp2_with fail
        refine (implOrder false 0 0 false 0 0 _).mono ?_
        rintro e w9 ⟨rfl, hB9⟩
        have HZ := Lib.hid (bt2 e8 hB9)
        clear hB9
        go_wp2_with fail
        go_ret
        exact ⟨rfl, HZ.out⟩
    · skip
      go_simp
      refine hK.out _ _ ?_ (fun hHeld2 => ?_)
      · with_reducible assumption
      clear hK K hHeld
      have hHeld := hHeld2
      clear hHeld2
      (try simp only [List.getElem_toArray, List.getElem_cons_succ, List.getElem_cons_zero, Act.put, List.setIfInBounds_toArray, List.set_cons_zero, List.set_cons_succ])
      refine wpAnyH_ready (rs := [2, 5]) (by kernel_rfl) (by simp) ?_
      refine (AllReadyH.cons rfl (fun K hK => ?_) (AllReadyH.cons rfl (fun K hK => ?_) AllReadyH.nil))
      · skip
        go_simp
        refine hK.out _ _ ?_ (fun hHeld2 => ?_)
        · with_reducible assumption
        clear hK K hHeld
        have hHeld := hHeld2
        clear hHeld2
        (try simp only [List.getElem_toArray, List.getElem_cons_succ, List.getElem_cons_zero, Act.put, List.setIfInBounds_toArray, List.set_cons_zero, List.set_cons_succ])
        refine wpAnyH_ready (rs := [3, 5]) (by kernel_rfl) (by simp) ?_
        refine (AllReadyH.cons rfl (fun K hK => ?_) (AllReadyH.cons rfl (fun K hK => ?_) AllReadyH.nil))
        · skip
          go_simp
          refine (withSignS w w.heap.size (w.heap.size + 1) (fun wz => .bool (nb wz w.heap.size)) (fun wz => .bool (nb wz (w.heap.size + 1))) 0 0 0 0 (keepsC_nb w.heap.size) (keepsC_nb (w.heap.size + 1)) _ _ 0 0 false (HA.out _) _ ?_).mono ?_
          · with_reducible assumption
          rintro e w5 ⟨rfl, hP⟩
          refine hK.out _ _ ?_ (fun hHeld2 => ?_)
          · exact hP
          clear hK K hHeld
          have hHeld := hHeld2
          clear hHeld2
          (try simp only [List.getElem_toArray, List.getElem_cons_succ, List.getElem_cons_zero, Act.put, List.setIfInBounds_toArray, List.set_cons_zero, List.set_cons_succ])
          refine wpAnyH_ready (rs := [5]) (by kernel_rfl) (by simp) ?_
          refine (AllReadyH.cons rfl (fun K hK => ?_) AllReadyH.nil)
          go_simp
          refine hK.out _ _ ?_ (fun hHeld2 => ?_)
          · with_reducible assumption
          clear hK K hHeld
          have hHeld := hHeld2
          clear hHeld2
          (try simp only [List.getElem_toArray, List.getElem_cons_succ, List.getElem_cons_zero, Act.put, List.setIfInBounds_toArray, List.set_cons_zero, List.set_cons_succ])
          refine wpAnyH_ready (rs := [7]) (by kernel_rfl) (by simp) ?_
          refine (AllReadyH.cons rfl (fun K hK => ?_) AllReadyH.nil)
          go_simp
          refine (withSignS w w.heap.size (w.heap.size + 1) (fun wz => .bool (nb wz w.heap.size)) (fun wz => .bool (nb wz (w.heap.size + 1))) 0 0 0 0 (keepsC_nb w.heap.size) (keepsC_nb (w.heap.size + 1)) _ _ 0 0 false (HC.out _) _ ?_).mono ?_
          · with_reducible assumption
          rintro e w5 ⟨rfl, hP⟩
          refine hK.out _ _ ?_ (fun hHeld2 => ?_)
          · exact hP
          clear hK K hHeld
          have hHeld := hHeld2
          clear hHeld2
          (try simp only [List.getElem_toArray, List.getElem_cons_succ, List.getElem_cons_zero, Act.put, List.setIfInBounds_toArray, List.set_cons_zero, List.set_cons_succ])
          refine wpAnyH_ready (rs := [8]) (by kernel_rfl) (by simp) ?_
          refine (AllReadyH.cons rfl (fun K hK => ?_) AllReadyH.nil)
          go_simp
          refine hK.out _ _ ?_ (fun hHeld2 => ?_)
          · exact PairS.setA (pa := (fun wz => .bool (nb wz w.heap.size))) (pb := (fun wz => .bool (nb wz (w.heap.size + 1)))) hP (Nat.le_refl _) (by simp) false (setsC_nb w.heap.size false) (nearC_nb (w.heap.size + 1))
          clear hK K hHeld
          have hHeld := hHeld2
          clear hHeld2
          (try simp only [List.getElem_toArray, List.getElem_cons_succ, List.getElem_cons_zero, Act.put, List.setIfInBounds_toArray, List.set_cons_zero, List.set_cons_succ])
          refine wpAnyH_ready (rs := [9]) (by kernel_rfl) (by simp) ?_
          refine (AllReadyH.cons rfl (fun K hK => ?_) AllReadyH.nil)
          go_simp
          refine hK.out _ _ ?_ (fun hHeld2 => ?_)
          · exact PairS.setB (pa := (fun wz => .bool (nb wz w.heap.size))) (pb := (fun wz => .bool (nb wz (w.heap.size + 1)))) (PairS.setA (pa := (fun wz => .bool (nb wz w.heap.size))) (pb := (fun wz => .bool (nb wz (w.heap.size + 1)))) hP (Nat.le_refl _) (by simp) false (setsC_nb w.heap.size false) (nearC_nb (w.heap.size + 1))) (by simp) (by simp) false (setsC_nb (w.heap.size + 1) false) (nearC_nb w.heap.size)
          clear hK K hHeld
          have hHeld := hHeld2
          clear hHeld2
          (try simp only [List.getElem_toArray, List.getElem_cons_succ, List.getElem_cons_zero, Act.put, List.setIfInBounds_toArray, List.set_cons_zero, List.set_cons_succ])
          refine wpAnyH_done (by kernel_rfl) ?_ _
          refine NoPanic.normal ?_
          have hE := PairS.fin (pa := (fun wz => .bool (nb wz w.heap.size))) (pb := (fun wz => .bool (nb wz (w.heap.size + 1)))) hP (Nat.le_refl _) (by simp) (by simp) false false (setsC_nb w.heap.size false) (nearC_nb (w.heap.size + 1))
          clear hP hHeld
          revert hE
          generalize ((((((w5.setCell ⟨w.heap.size, 0, none⟩ (.bool false)).setCell ⟨w.heap.size, 1, none⟩ (.int .u64 0)).setCell ⟨w.heap.size, 2, none⟩ (.int .u64 0)).setCell ⟨(w.heap.size + 1), 0, none⟩ (.bool false)).setCell ⟨(w.heap.size + 1), 1, none⟩ (.int .u64 0)).setCell ⟨(w.heap.size + 1), 2, none⟩ (.int .u64 0)) = wf
          rintro ⟨e0, e1, e2, e3, e4, e5, e6, e7, e8⟩
          go_wp2_with fail
          refine (implOrder false 0 0 false 0 0 _).mono ?_
          rintro e w9 ⟨rfl, hB9⟩
          have HZ := Lib.hid (bt2 e8 hB9)
          clear hB9
          go_wp2_with fail
          go_ret
          exact ⟨rfl, HZ.out⟩
        · skip
          go_simp
          refine hK.out _ _ ?_ (fun hHeld2 => ?_)
          · with_reducible assumption
          clear hK K hHeld
          have hHeld := hHeld2
          clear hHeld2
          (try simp only [List.getElem_toArray, List.getElem_cons_succ, List.getElem_cons_zero, Act.put, List.setIfInBounds_toArray, List.set_cons_zero, List.set_cons_succ])
          refine wpAnyH_ready (rs := [3]) (by kernel_rfl) (by simp) ?_
          refine (AllReadyH.cons rfl (fun K hK => ?_) AllReadyH.nil)
          go_simp
          refine (withSignS w w.heap.size (w.heap.size + 1) (fun wz => .bool (nb wz w.heap.size)) (fun wz => .bool (nb wz (w.heap.size + 1))) 0 0 0 0 (keepsC_nb w.heap.size) (keepsC_nb (w.heap.size + 1)) _ _ 0 0 false (HA.out _) _ ?_).mono ?_
          · with_reducible assumption
          rintro e w5 ⟨rfl, hP⟩
          refine hK.out _ _ ?_ (fun hHeld2 => ?_)
          · exact hP
          clear hK K hHeld
          have hHeld := hHeld2
          clear hHeld2
          (try simp only [List.getElem_toArray, List.getElem_cons_succ, List.getElem_cons_zero, Act.put, List.setIfInBounds_toArray, List.set_cons_zero, List.set_cons_succ])
          refine wpAnyH_ready (rs := [7]) (by kernel_rfl) (by simp) ?_
          refine (AllReadyH.cons rfl (fun K hK => ?_) AllReadyH.nil)
          go_simp
          refine (withSignS w w.heap.size (w.heap.size + 1) (fun wz => .bool (nb wz w.heap.size)) (fun wz => .bool (nb wz (w.heap.size + 1))) 0 0 0 0 (keepsC_nb w.heap.size) (keepsC_nb (w.heap.size + 1)) _ _ 0 0 false (HC.out _) _ ?_).mono ?_
          · with_reducible assumption
          rintro e w5 ⟨rfl, hP⟩
          refine hK.out _ _ ?_ (fun hHeld2 => ?_)
          · exact hP
          clear hK K hHeld
          have hHeld := hHeld2
          clear hHeld2
          (try simp only [List.getElem_toArray, List.getElem_cons_succ, List.getElem_cons_zero, Act.put, List.setIfInBounds_toArray, List.set_cons_zero, List.set_cons_succ])
          refine wpAnyH_ready (rs := [8]) (by kernel_rfl) (by simp) ?_
          refine (AllReadyH.cons rfl (fun K hK => ?_) AllReadyH.nil)
          go_simp
          refine hK.out _ _ ?_ (fun hHeld2 => ?_)
          · exact PairS.setA (pa := (fun wz => .bool (nb wz w.heap.size))) (pb := (fun wz => .bool (nb wz (w.heap.size + 1)))) hP (Nat.le_refl _) (by simp) false (setsC_nb w.heap.size false) (nearC_nb (w.heap.size + 1))
          clear hK K hHeld
          have hHeld := hHeld2
          clear hHeld2
          (try simp only [List.getElem_toArray, List.getElem_cons_succ, List.getElem_cons_zero, Act.put, List.setIfInBounds_toArray, List.set_cons_zero, List.set_cons_succ])
          refine wpAnyH_ready (rs := [9]) (by kernel_rfl) (by simp) ?_
          refine (AllReadyH.cons rfl (fun K hK => ?_) AllReadyH.nil)
          go_simp
          refine hK.out _ _ ?_ (fun hHeld2 => ?_)
          · exact PairS.setB (pa := (fun wz => .bool (nb wz w.heap.size))) (pb := (fun wz => .bool (nb wz (w.heap.size + 1)))) (PairS.setA (pa := (fun wz => .bool (nb wz w.heap.size))) (pb := (fun wz => .bool (nb wz (w.heap.size + 1)))) hP (Nat.le_refl _) (by simp) false (setsC_nb w.heap.size false) (nearC_nb (w.heap.size + 1))) (by simp) (by simp) false (setsC_nb (w.heap.size + 1) false) (nearC_nb w.heap.size)
          clear hK K hHeld
          have hHeld := hHeld2
          clear hHeld2
          (try simp only [List.getElem_toArray, List.getElem_cons_succ, List.getElem_cons_zero, Act.put, List.setIfInBounds_toArray, List.set_cons_zero, List.set_cons_succ])
          refine wpAnyH_done (by kernel_rfl) ?_ _
          refine NoPanic.normal ?_
          have hE := PairS.fin (pa := (fun wz => .bool (nb wz w.heap.size))) (pb := (fun wz => .bool (nb wz (w.heap.size + 1)))) hP (Nat.le_refl _) (by simp) (by simp) false false (setsC_nb w.heap.size false) (nearC_nb (w.heap.size + 1))
          clear hP hHeld
          revert hE
          generalize ((((((w5.setCell ⟨w.heap.size, 0, none⟩ (.bool false)).setCell ⟨w.heap.size, 1, none⟩ (.int .u64 0)).setCell ⟨w.heap.size, 2, none⟩ (.int .u64 0)).setCell ⟨(w.heap.size + 1), 0, none⟩ (.bool false)).setCell ⟨(w.heap.size + 1), 1, none⟩ (.int .u64 0)).setCell ⟨(w.heap.size + 1), 2, none⟩ (.int .u64 0)) = wf
          rintro ⟨e0, e1, e2, e3, e4, e5, e6, e7, e8⟩
          go_wp2_with fail
          refine (implOrder false 0 0 false 0 0 _).mono ?_
          rintro e w9 ⟨rfl, hB9⟩
          have HZ := Lib.hid (bt2 e8 hB9)
          clear hB9
          go_wp2_with fail
          go_ret
          exact ⟨rfl, HZ.out⟩
      · skip
        go_simp
        refine hK.out _ _ ?_ (fun hHeld2 => ?_)
        · with_reducible assumption
        clear hK K hHeld
        have hHeld := hHeld2
        clear hHeld2
        (try simp only [List.getElem_toArray, List.getElem_cons_succ, List.getElem_cons_zero, Act.put, List.setIfInBounds_toArray, List.set_cons_zero, List.set_cons_succ])
        refine wpAnyH_ready (rs := [2]) (by kernel_rfl) (by simp) ?_
        refine (AllReadyH.cons rfl (fun K hK => ?_) AllReadyH.nil)
        go_simp
        refine hK.out _ _ ?_ (fun hHeld2 => ?_)
        · with_reducible assumption
        clear hK K hHeld
        have hHeld := hHeld2
        clear hHeld2
        (try simp only [List.getElem_toArray, List.getElem_cons_succ, List.getElem_cons_zero, Act.put, List.setIfInBounds_toArray, List.set_cons_zero, List.set_cons_succ])
        refine wpAnyH_ready (rs := [3]) (by kernel_rfl) (by simp) ?_
        refine (AllReadyH.cons rfl (fun K hK => ?_) AllReadyH.nil)
        go_simp
        refine (withSignS w w.heap.size (w.heap.size + 1) (fun wz => .bool (nb wz w.heap.size)) (fun wz => .bool (nb wz (w.heap.size + 1))) 0 0 0 0 (keepsC_nb w.heap.size) (keepsC_nb (w.heap.size + 1)) _ _ 0 0 false (HA.out _) _ ?_).mono ?_
        · with_reducible assumption
        rintro e w5 ⟨rfl, hP⟩
        refine hK.out _ _ ?_ (fun hHeld2 => ?_)
        · exact hP
        clear hK K hHeld
        have hHeld := hHeld2
        clear hHeld2
        (try simp only [List.getElem_toArray, List.getElem_cons_succ, List.getElem_cons_zero, Act.put, List.setIfInBounds_toArray, List.set_cons_zero, List.set_cons_succ])
        refine wpAnyH_ready (rs := [7]) (by kernel_rfl) (by simp) ?_
        refine (AllReadyH.cons rfl (fun K hK => ?_) AllReadyH.nil)
        go_simp
        refine (withSignS w w.heap.size (w.heap.size + 1) (fun wz => .bool (nb wz w.heap.size)) (fun wz => .bool (nb wz (w.heap.size + 1))) 0 0 0 0 (keepsC_nb w.heap.size) (keepsC_nb (w.heap.size + 1)) _ _ 0 0 false (HC.out _) _ ?_).mono ?_
        · with_reducible assumption
        rintro e w5 ⟨rfl, hP⟩
        refine hK.out _ _ ?_ (fun hHeld2 => ?_)
        · exact hP
        clear hK K hHeld
        have hHeld := hHeld2
        clear hHeld2
        (try simp only [List.getElem_toArray, List.getElem_cons_succ, List.getElem_cons_zero, Act.put, List.setIfInBounds_toArray, List.set_cons_zero, List.set_cons_succ])
        refine wpAnyH_ready (rs := [8]) (by kernel_rfl) (by simp) ?_
        refine (AllReadyH.cons rfl (fun K hK => ?_) AllReadyH.nil)
        go_simp
        refine hK.out _ _ ?_ (fun hHeld2 => ?_)
        · exact PairS.setA (pa := (fun wz => .bool (nb wz w.heap.size))) (pb := (fun wz => .bool (nb wz (w.heap.size + 1)))) hP (Nat.le_refl _) (by simp) false (setsC_nb w.heap.size false) (nearC_nb (w.heap.size + 1))
        clear hK K hHeld
        have hHeld := hHeld2
        clear hHeld2
        (try simp only [List.getElem_toArray, List.getElem_cons_succ, List.getElem_cons_zero, Act.put, List.setIfInBounds_toArray, List.set_cons_zero, List.set_cons_succ])
        refine wpAnyH_ready (rs := [9]) (by kernel_rfl) (by simp) ?_
        refine (AllReadyH.cons rfl (fun K hK => ?_) AllReadyH.nil)
        go_simp
        refine hK.out _ _ ?_ (fun hHeld2 => ?_)
        · exact PairS.setB (pa := (fun wz => .bool (nb wz w.heap.size))) (pb := (fun wz => .bool (nb wz (w.heap.size + 1)))) (PairS.setA (pa := (fun wz => .bool (nb wz w.heap.size))) (pb := (fun wz => .bool (nb wz (w.heap.size + 1)))) hP (Nat.le_refl _) (by simp) false (setsC_nb w.heap.size false) (nearC_nb (w.heap.size + 1))) (by simp) (by simp) false (setsC_nb (w.heap.size + 1) false) (nearC_nb w.heap.size)
        clear hK K hHeld
        have hHeld := hHeld2
        clear hHeld2
        (try simp only [List.getElem_toArray, List.getElem_cons_succ, List.getElem_cons_zero, Act.put, List.setIfInBounds_toArray, List.set_cons_zero, List.set_cons_succ])
        refine wpAnyH_done (by kernel_rfl) ?_ _
        refine NoPanic.normal ?_
        have hE := PairS.fin (pa := (fun wz => .bool (nb wz w.heap.size))) (pb := (fun wz => .bool (nb wz (w.heap.size + 1)))) hP (Nat.le_refl _) (by simp) (by simp) false false (setsC_nb w.heap.size false) (nearC_nb (w.heap.size + 1))
        clear hP hHeld
        revert hE
        generalize ((((((w5.setCell ⟨w.heap.size, 0, none⟩ (.bool false)).setCell ⟨w.heap.size, 1, none⟩ (.int .u64 0)).setCell ⟨w.heap.size, 2, none⟩ (.int .u64 0)).setCell ⟨(w.heap.size + 1), 0, none⟩ (.bool false)).setCell ⟨(w.heap.size + 1), 1, none⟩ (.int .u64 0)).setCell ⟨(w.heap.size + 1), 2, none⟩ (.int .u64 0)) = wf
        rintro ⟨e0, e1, e2, e3, e4, e5, e6, e7, e8⟩
        go_wp2_with fail
        refine (implOrder false 0 0 false 0 0 _).mono ?_
        rintro e w9 ⟨rfl, hB9⟩
        have HZ := Lib.hid (bt2 e8 hB9)
        clear hB9
        go_wp2_with fail
        go_ret
        exact ⟨rfl, HZ.out⟩
  · skip
    go_simp
    refine hK.out _ _ ?_ (fun hHeld2 => ?_)
    · with_reducible assumption
    clear hK K hHeld
    have hHeld := hHeld2
    clear hHeld2
    (try simp only [List.getElem_toArray, List.getElem_cons_succ, List.getElem_cons_zero, Act.put, List.setIfInBounds_toArray, List.set_cons_zero, List.set_cons_succ])
    refine wpAnyH_ready (rs := [1, 5, 6]) (by kernel_rfl) (by simp) ?_
    refine (AllReadyH.cons rfl (fun K hK => ?_) (AllReadyH.cons rfl (fun K hK => ?_) (AllReadyH.cons rfl (fun K hK => ?_) AllReadyH.nil)))
    · skip
      go_simp
      refine hK.out _ _ ?_ (fun hHeld2 => ?_)
      · with_reducible assumption
      clear hK K hHeld
      have hHeld := hHeld2
      clear hHeld2
      (try simp only [List.getElem_toArray, List.getElem_cons_succ, List.getElem_cons_zero, Act.put, List.setIfInBounds_toArray, List.set_cons_zero, List.set_cons_succ])
      refine wpAnyH_ready (rs := [3, 5, 6]) (by kernel_rfl) (by simp) ?_
      refine (AllReadyH.cons rfl (fun K hK => ?_) (AllReadyH.cons rfl (fun K hK => ?_) (AllReadyH.cons rfl (fun K hK => ?_) AllReadyH.nil)))
      · skip
        go_simp
        refine (withSignS w w.heap.size (w.heap.size + 1) (fun wz => .bool (nb wz w.heap.size)) (fun wz => .bool (nb wz (w.heap.size + 1))) 0 0 0 0 (keepsC_nb w.heap.size) (keepsC_nb (w.heap.size + 1)) _ _ 0 0 false (HA.out _) _ ?_).mono ?_
        · with_reducible assumption
        rintro e w5 ⟨rfl, hP⟩
        refine hK.out _ _ ?_ (fun hHeld2 => ?_)
        · exact hP
        clear hK K hHeld
        have hHeld := hHeld2
        clear hHeld2
        (try simp only [List.getElem_toArray, List.getElem_cons_succ, List.getElem_cons_zero, Act.put, List.setIfInBounds_toArray, List.set_cons_zero, List.set_cons_succ])
        refine wpAnyH_ready (rs := [5, 6]) (by kernel_rfl) (by simp) ?_
        refine (AllReadyH.cons rfl (fun K hK => ?_) (AllReadyH.cons rfl (fun K hK => ?_) AllReadyH.nil))
        · skip
          go_simp
          refine hK.out _ _ ?_ (fun hHeld2 => ?_)
          · with_reducible assumption
          clear hK K hHeld
          have hHeld := hHeld2
          clear hHeld2
          (try simp only [List.getElem_toArray, List.getElem_cons_succ, List.getElem_cons_zero, Act.put, List.setIfInBounds_toArray, List.set_cons_zero, List.set_cons_succ])
          refine wpAnyH_ready (rs := [6]) (by kernel_rfl) (by simp) ?_
          refine (AllReadyH.cons rfl (fun K hK => ?_) AllReadyH.nil)
          go_simp
          refine hK.out _ _ ?_ (fun hHeld2 => ?_)
          · with_reducible assumption
          clear hK K hHeld
          have hHeld := hHeld2
          clear hHeld2
          (try simp only [List.getElem_toArray, List.getElem_cons_succ, List.getElem_cons_zero, Act.put, List.setIfInBounds_toArray, List.set_cons_zero, List.set_cons_succ])
          refine wpAnyH_ready (rs := [7]) (by kernel_rfl) (by simp) ?_
          refine (AllReadyH.cons rfl (fun K hK => ?_) AllReadyH.nil)
          go_simp
          refine (withSignS w w.heap.size (w.heap.size + 1) (fun wz => .bool (nb wz w.heap.size)) (fun wz => .bool (nb wz (w.heap.size + 1))) 0 0 0 0 (keepsC_nb w.heap.size) (keepsC_nb (w.heap.size + 1)) _ _ 0 0 false (HC.out _) _ ?_).mono ?_
          · with_reducible assumption
          rintro e w5 ⟨rfl, hP⟩
          refine hK.out _ _ ?_ (fun hHeld2 => ?_)
          · exact hP
          clear hK K hHeld
          have hHeld := hHeld2
          clear hHeld2
          (try simp only [List.getElem_toArray, List.getElem_cons_succ, List.getElem_cons_zero, Act.put, List.setIfInBounds_toArray, List.set_cons_zero, List.set_cons_succ])
          refine wpAnyH_ready (rs := [8]) (by kernel_rfl) (by simp) ?_
          refine (AllReadyH.cons rfl (fun K hK => ?_) AllReadyH.nil)
          go_simp
          refine hK.out _ _ ?_ (fun hHeld2 => ?_)
          · exact PairS.setA (pa := (fun wz => .bool (nb wz w.heap.size))) (pb := (fun wz => .bool (nb wz (w.heap.size + 1)))) hP (Nat.le_refl _) (by simp) false (setsC_nb w.heap.size false) (nearC_nb (w.heap.size + 1))
          clear hK K hHeld
          have hHeld := hHeld2
          clear hHeld2
          (try simp only [List.getElem_toArray, List.getElem_cons_succ, List.getElem_cons_zero, Act.put, List.setIfInBounds_toArray, List.set_cons_zero, List.set_cons_succ])
          refine wpAnyH_ready (rs := [9]) (by kernel_rfl) (by simp) ?_
          refine (AllReadyH.cons rfl (fun K hK => ?_) AllReadyH.nil)
          go_simp
          refine hK.out _ _ ?_ (fun hHeld2 => ?_)
          · exact PairS.setB (pa := (fun wz => .bool (nb wz w.heap.size))) (pb := (fun wz => .bool (nb wz (w.heap.size + 1)))) (PairS.setA (pa := (fun wz => .bool (nb wz w.heap.size))) (pb := (fun wz => .bool (nb wz (w.heap.size + 1)))) hP (Nat.le_refl _) (by simp) false (setsC_nb w.heap.size false) (nearC_nb (w.heap.size + 1))) (by simp) (by simp) false (setsC_nb (w.heap.size + 1) false) (nearC_nb w.heap.size)
          clear hK K hHeld
          have hHeld := hHeld2
          clear hHeld2
          (try simp only [List.getElem_toArray, List.getElem_cons_succ, List.getElem_cons_zero, Act.put, List.setIfInBounds_toArray, List.set_cons_zero, List.set_cons_succ])
          refine wpAnyH_done (by kernel_rfl) ?_ _
          refine NoPanic.normal ?_
          have hE := PairS.fin (pa := (fun wz => .bool (nb wz w.heap.size))) (pb := (fun wz => .bool (nb wz (w.heap.size + 1)))) hP (Nat.le_refl _) (by simp) (by simp) false false (setsC_nb w.heap.size false) (nearC_nb (w.heap.size + 1))
          clear hP hHeld
          revert hE
          generalize ((((((w5.setCell ⟨w.heap.size, 0, none⟩ (.bool false)).setCell ⟨w.heap.size, 1, none⟩ (.int .u64 0)).setCell ⟨w.heap.size, 2, none⟩ (.int .u64 0)).setCell ⟨(w.heap.size + 1), 0, none⟩ (.bool false)).setCell ⟨(w.heap.size + 1), 1, none⟩ (.int .u64 0)).setCell ⟨(w.heap.size + 1), 2, none⟩ (.int .u64 0)) = wf
          rintro ⟨e0, e1, e2, e3, e4, e5, e6, e7, e8⟩
          go_wp2_with fail
          refine (implOrder false 0 0 false 0 0 _).mono ?_
          rintro e w9 ⟨rfl, hB9⟩
          have HZ := Lib.hid (bt2 e8 hB9)
          clear hB9
          go_wp2_with fail
          go_ret
          exact ⟨rfl, HZ.out⟩
        · skip
          go_simp
          refine hK.out _ _ ?_ (fun hHeld2 => ?_)
          · with_reducible assumption
          clear hK K hHeld
          have hHeld := hHeld2
          clear hHeld2
          (try simp only [List.getElem_toArray, List.getElem_cons_succ, List.getElem_cons_zero, Act.put, List.setIfInBounds_toArray, List.set_cons_zero, List.set_cons_succ])
          refine wpAnyH_ready (rs := [5]) (by kernel_rfl) (by simp) ?_
          refine (AllReadyH.cons rfl (fun K hK => ?_) AllReadyH.nil)
          go_simp
          refine hK.out _ _ ?_ (fun hHeld2 => ?_)
          · with_reducible assumption
          clear hK K hHeld
          have hHeld := hHeld2
          clear hHeld2
          (try simp only [List.getElem_toArray, List.getElem_cons_succ, List.getElem_cons_zero, Act.put, List.setIfInBounds_toArray, List.set_cons_zero, List.set_cons_succ])
          refine wpAnyH_ready (rs := [7]) (by kernel_rfl) (by simp) ?_
          refine (AllReadyH.cons rfl (fun K hK => ?_) AllReadyH.nil)
          go_simp
          refine (withSignS w w.heap.size (w.heap.size + 1) (fun wz => .bool (nb wz w.heap.size)) (fun wz => .bool (nb wz (w.heap.size + 1))) 0 0 0 0 (keepsC_nb w.heap.size) (keepsC_nb (w.heap.size + 1)) _ _ 0 0 false (HC.out _) _ ?_).mono ?_
          · with_reducible assumption
          rintro e w5 ⟨rfl, hP⟩
          refine hK.out _ _ ?_ (fun hHeld2 => ?_)
          · exact hP
          clear hK K hHeld
          have hHeld := hHeld2
          clear hHeld2
          (try simp only [List.getElem_toArray, List.getElem_cons_succ, List.getElem_cons_zero, Act.put, List.setIfInBounds_toArray, List.set_cons_zero, List.set_cons_succ])
          refine wpAnyH_ready (rs := [8]) (by kernel_rfl) (by simp) ?_
          refine (AllReadyH.cons rfl (fun K hK => ?_) AllReadyH.nil)
          go_simp
          refine hK.out _ _ ?_ (fun hHeld2 => ?_)
          · exact PairS.setA (pa := (fun wz => .bool (nb wz w.heap.size))) (pb := (fun wz => .bool (nb wz (w.heap.size + 1)))) hP (Nat.le_refl _) (by simp) false (setsC_nb w.heap.size false) (nearC_nb (w.heap.size + 1))
          clear hK K hHeld
          have hHeld := hHeld2
          clear hHeld2
          (try simp only [List.getElem_toArray, List.getElem_cons_succ, List.getElem_cons_zero, Act.put, List.setIfInBounds_toArray, List.set_cons_zero, List.set_cons_succ])
          refine wpAnyH_ready (rs := [9]) (by kernel_rfl) (by simp) ?_
          refine (AllReadyH.cons rfl (fun K hK => ?_) AllReadyH.nil)
          go_simp
          refine hK.out _ _ ?_ (fun hHeld2 => ?_)
          · exact PairS.setB (pa := (fun wz => .bool (nb wz w.heap.size))) (pb := (fun wz => .bool (nb wz (w.heap.size + 1)))) (PairS.setA (pa := (fun wz => .bool (nb wz w.heap.size))) (pb := (fun wz => .bool (nb wz (w.heap.size + 1)))) hP (Nat.le_refl _) (by simp) false (setsC_nb w.heap.size false) (nearC_nb (w.heap.size + 1))) (by simp) (by simp) false (setsC_nb (w.heap.size + 1) false) (nearC_nb w.heap.size)
          clear hK K hHeld
          have hHeld := hHeld2
          clear hHeld2
          (try simp only [List.getElem_toArray, List.getElem_cons_succ, List.getElem_cons_zero, Act.put, List.setIfInBounds_toArray, List.set_cons_zero, List.set_cons_succ])
          refine wpAnyH_done (by kernel_rfl) ?_ _
          refine NoPanic.normal ?_
          have hE := PairS.fin (pa := (fun wz => .bool (nb wz w.heap.size))) (pb := (fun wz => .bool (nb wz (w.heap.size + 1)))) hP (Nat.le_refl _) (by simp) (by simp) false false (setsC_nb w.heap.size false) (nearC_nb (w.heap.size + 1))
          clear hP hHeld
          revert hE
          generalize ((((((w5.setCell ⟨w.heap.size, 0, none⟩ (.bool false)).setCell ⟨w.heap.size, 1, none⟩ (.int .u64 0)).setCell ⟨w.heap.size, 2, none⟩ (.int .u64 0)).setCell ⟨(w.heap.size + 1), 0, none⟩ (.bool false)).setCell ⟨(w.heap.size + 1), 1, none⟩ (.int .u64 0)).setCell ⟨(w.heap.size + 1), 2, none⟩ (.int .u64 0)) = wf
          rintro ⟨e0, e1, e2, e3, e4, e5, e6, e7, e8⟩
          go_wp2_with fail
          refine (implOrder false 0 0 false 0 0 _).mono ?_
          rintro e w9 ⟨rfl, hB9⟩
          have HZ := Lib.hid (bt2 e8 hB9)
          clear hB9
          go_wp2_with fail
          go_ret
          exact ⟨rfl, HZ.out⟩
      · skip
        go_simp
        refine hK.out _ _ ?_ (fun hHeld2 => ?_)
        · with_reducible assumption
        clear hK K hHeld
        have hHeld := hHeld2
        clear hHeld2
        (try simp only [List.getElem_toArray, List.getElem_cons_succ, List.getElem_cons_zero, Act.put, List.setIfInBounds_toArray, List.set_cons_zero, List.set_cons_succ])
        refine wpAnyH_ready (rs := [3, 6]) (by kernel_rfl) (by simp) ?_
        refine (AllReadyH.cons rfl (fun K hK => ?_) (AllReadyH.cons rfl (fun K hK => ?_) AllReadyH.nil))
        · skip
          go_simp
          refine (withSignS w w.heap.size (w.heap.size + 1) (fun wz => .bool (nb wz w.heap.size)) (fun wz => .bool (nb wz (w.heap.size + 1))) 0 0 0 0 (keepsC_nb w.heap.size) (keepsC_nb (w.heap.size + 1)) _ _ 0 0 false (HA.out _) _ ?_).mono ?_
          · with_reducible assumption
          rintro e w5 ⟨rfl, hP⟩
          refine hK.out _ _ ?_ (fun hHeld2 => ?_)
          · exact hP
          clear hK K hHeld
          have hHeld := hHeld2
          clear hHeld2
          (try simp only [List.getElem_toArray, List.getElem_cons_succ, List.getElem_cons_zero, Act.put, List.setIfInBounds_toArray, List.set_cons_zero, List.set_cons_succ])
          refine wpAnyH_ready (rs := [6]) (by kernel_rfl) (by simp) ?_
          refine (AllReadyH.cons rfl (fun K hK => ?_) AllReadyH.nil)
          go_simp
          refine hK.out _ _ ?_ (fun hHeld2 => ?_)
          · with_reducible assumption
          clear hK K hHeld
          have hHeld := hHeld2
          clear hHeld2
          (try simp only [List.getElem_toArray, List.getElem_cons_succ, List.getElem_cons_zero, Act.put, List.setIfInBounds_toArray, List.set_cons_zero, List.set_cons_succ])
          refine wpAnyH_ready (rs := [7]) (by kernel_rfl) (by simp) ?_
          refine (AllReadyH.cons rfl (fun K hK => ?_) AllReadyH.nil)
          go_simp
          refine (withSignS w w.heap.size (w.heap.size + 1) (fun wz => .bool (nb wz w.heap.size)) (fun wz => .bool (nb wz (w.heap.size + 1))) 0 0 0 0 (keepsC_nb w.heap.size) (keepsC_nb (w.heap.size + 1)) _ _ 0 0 false (HC.out _) _ ?_).mono ?_
          · with_reducible assumption
          rintro e w5 ⟨rfl, hP⟩
          refine hK.out _ _ ?_ (fun hHeld2 => ?_)
          · exact hP
          clear hK K hHeld
          have hHeld := hHeld2
          clear hHeld2
          (try simp only [List.getElem_toArray, List.getElem_cons_succ, List.getElem_cons_zero, Act.put, List.setIfInBounds_toArray, List.set_cons_zero, List.set_cons_succ])
          refine wpAnyH_ready (rs := [8]) (by kernel_rfl) (by simp) ?_
          refine (AllReadyH.cons rfl (fun K hK => ?_) AllReadyH.nil)
          go_simp
          refine hK.out _ _ ?_ (fun hHeld2 => ?_)
          · exact PairS.setA (pa := (fun wz => .bool (nb wz w.heap.size))) (pb := (fun wz => .bool (nb wz (w.heap.size + 1)))) hP (Nat.le_refl _) (by simp) false (setsC_nb w.heap.size false) (nearC_nb (w.heap.size + 1))
          clear hK K hHeld
          have hHeld := hHeld2
          clear hHeld2
          (try simp only [List.getElem_toArray, List.getElem_cons_succ, List.getElem_cons_zero, Act.put, List.setIfInBounds_toArray, List.set_cons_zero, List.set_cons_succ])
          refine wpAnyH_ready (rs := [9]) (by kernel_rfl) (by simp) ?_
          refine (AllReadyH.cons rfl (fun K hK => ?_) AllReadyH.nil)
          go_simp
          refine hK.out _ _ ?_ (fun hHeld2 => ?_)
          · exact PairS.setB (pa := (fun wz => .bool (nb wz w.heap.size))) (pb := (fun wz => .bool (nb wz (w.heap.size + 1)))) (PairS.setA (pa := (fun wz => .bool (nb wz w.heap.size))) (pb := (fun wz => .bool (nb wz (w.heap.size + 1)))) hP (Nat.le_refl _) (by simp) false (setsC_nb w.heap.size false) (nearC_nb (w.heap.size + 1))) (by simp) (by simp) false (setsC_nb (w.heap.size + 1) false) (nearC_nb w.heap.size)
          clear hK K hHeld
          have hHeld := hHeld2
          clear hHeld2
          (try simp only [List.getElem_toArray, List.getElem_cons_succ, List.getElem_cons_zero, Act.put, List.setIfInBounds_toArray, List.set_cons_zero, List.set_cons_succ])
          refine wpAnyH_done (by kernel_rfl) ?_ _
          refine NoPanic.normal ?_
          have hE := PairS.fin (pa := (fun wz => .bool (nb wz w.heap.size))) (pb := (fun wz => .bool (nb wz (w.heap.size + 1)))) hP (Nat.le_refl _) (by simp) (by simp) false false (setsC_nb w.heap.size false) (nearC_nb (w.heap.size + 1))
          clear hP hHeld
          revert hE
          generalize ((((((w5.setCell ⟨w.heap.size, 0, none⟩ (.bool false)).setCell ⟨w.heap.size, 1, none⟩ (.int .u64 0)).setCell ⟨w.heap.size, 2, none⟩ (.int .u64 0)).setCell ⟨(w.heap.size + 1), 0, none⟩ (.bool false)).setCell ⟨(w.heap.size + 1), 1, none⟩ (.int .u64 0)).setCell ⟨(w.heap.size + 1), 2, none⟩ (.int .u64 0)) = wf
          rintro ⟨e0, e1, e2, e3, e4, e5, e6, e7, e8⟩
          go_wp2_with fail
          refine (implOrder false 0 0 false 0 0 _).mono ?_
          rintro e w9 ⟨rfl, hB9⟩
          have HZ := Lib.hid (bt2 e8 hB9)
          clear hB9
          go_wp2_with fail
          go_ret
          exact ⟨rfl, HZ.out⟩
        · skip
          go_simp
          refine hK.out _ _ ?_ (fun hHeld2 => ?_)
          · with_reducible assumption
          clear hK K hHeld
          have hHeld := hHeld2
          clear hHeld2
          (try simp only [List.getElem_toArray, List.getElem_cons_succ, List.getElem_cons_zero, Act.put, List.setIfInBounds_toArray, List.set_cons_zero, List.set_cons_succ])
          refine wpAnyH_ready (rs := [3]) (by kernel_rfl) (by simp) ?_
          refine (AllReadyH.cons rfl (fun K hK => ?_) AllReadyH.nil)
          go_simp
          refine (withSignS w w.heap.size (w.heap.size + 1) (fun wz => .bool (nb wz w.heap.size)) (fun wz => .bool (nb wz (w.heap.size + 1))) 0 0 0 0 (keepsC_nb w.heap.size) (keepsC_nb (w.heap.size + 1)) _ _ 0 0 false (HA.out _) _ ?_).mono ?_
          · with_reducible assumption
          rintro e w5 ⟨rfl, hP⟩
          refine hK.out _ _ ?_ (fun hHeld2 => ?_)
          · exact hP
          clear hK K hHeld
          have hHeld := hHeld2
          clear hHeld2
          (try simp only [List.getElem_toArray, List.getElem_cons_succ, List.getElem_cons_zero, Act.put, List.setIfInBounds_toArray, List.set_cons_zero, List.set_cons_succ])
          refine wpAnyH_ready (rs := [7]) (by kernel_rfl) (by simp) ?_
          refine (AllReadyH.cons rfl (fun K hK => ?_) AllReadyH.nil)
          go_simp
          refine (withSignS w w.heap.size (w.heap.size + 1) (fun wz => .bool (nb wz w.heap.size)) (fun wz => .bool (nb wz (w.heap.size + 1))) 0 0 0 0 (keepsC_nb w.heap.size) (keepsC_nb (w.heap.size + 1)) _ _ 0 0 false (HC.out _) _ ?_).mono ?_
          · with_reducible assumption
          rintro e w5 ⟨rfl, hP⟩
          refine hK.out _ _ ?_ (fun hHeld2 => ?_)
          · exact hP
          clear hK K hHeld
          have hHeld := hHeld2
          clear hHeld2
          (try simp only [List.getElem_toArray, List.getElem_cons_succ, List.getElem_cons_zero, Act.put, List.setIfInBounds_toArray, List.set_cons_zero, List.set_cons_succ])
          refine wpAnyH_ready (rs := [8]) (by kernel_rfl) (by simp) ?_
          refine (AllReadyH.cons rfl (fun K hK => ?_) AllReadyH.nil)
          go_simp
          refine hK.out _ _ ?_ (fun hHeld2 => ?_)
          · exact PairS.setA (pa := (fun wz => .bool (nb wz w.heap.size))) (pb := (fun wz => .bool (nb wz (w.heap.size + 1)))) hP (Nat.le_refl _) (by simp) false (setsC_nb w.heap.size false) (nearC_nb (w.heap.size + 1))
          clear hK K hHeld
          have hHeld := hHeld2
          clear hHeld2
          (try simp only [List.getElem_toArray, List.getElem_cons_succ, List.getElem_cons_zero, Act.put, List.setIfInBounds_toArray, List.set_cons_zero, List.set_cons_succ])
          refine wpAnyH_ready (rs := [9]) (by kernel_rfl) (by simp) ?_
          refine (AllReadyH.cons rfl (fun K hK => ?_) AllReadyH.nil)
          go_simp
          refine hK.out _ _ ?_ (fun hHeld2 => ?_)
          · exact PairS.setB (pa := (fun wz => .bool (nb wz w.heap.size))) (pb := (fun wz => .bool (nb wz (w.heap.size + 1)))) (PairS.setA (pa := (fun wz => .bool (nb wz w.heap.size))) (pb := (fun wz => .bool (nb wz (w.heap.size + 1)))) hP (Nat.le_refl _) (by simp) false (setsC_nb w.heap.size false) (nearC_nb (w.heap.size + 1))) (by simp) (by simp) false (setsC_nb (w.heap.size + 1) false) (nearC_nb w.heap.size)
          clear hK K hHeld
          have hHeld := hHeld2
          clear hHeld2
          (try simp only [List.getElem_toArray, List.getElem_cons_succ, List.getElem_cons_zero, Act.put, List.setIfInBounds_toArray, List.set_cons_zero, List.set_cons_succ])
          refine wpAnyH_done (by kernel_rfl) ?_ _
          refine NoPanic.normal ?_
          have hE := PairS.fin (pa := (fun wz => .bool (nb wz w.heap.size))) (pb := (fun wz => .bool (nb wz (w.heap.size + 1)))) hP (Nat.le_refl _) (by simp) (by simp) false false (setsC_nb w.heap.size false) (nearC_nb (w.heap.size + 1))
          clear hP hHeld
          revert hE
          generalize ((((((w5.setCell ⟨w.heap.size, 0, none⟩ (.bool false)).setCell ⟨w.heap.size, 1, none⟩ (.int .u64 0)).setCell ⟨w.heap.size, 2, none⟩ (.int .u64 0)).setCell ⟨(w.heap.size + 1), 0, none⟩ (.bool false)).setCell ⟨(w.heap.size + 1), 1, none⟩ (.int .u64 0)).setCell ⟨(w.heap.size + 1), 2, none⟩ (.int .u64 0)) = wf
          rintro ⟨e0, e1, e2, e3, e4, e5, e6, e7, e8⟩
          go_wp2_with fail
          refine (implOrder false 0 0 false 0 0 _).mono ?_
          rintro e w9 ⟨rfl, hB9⟩
          have HZ := Lib.hid (bt2 e8 hB9)
          clear hB9
          go_wp2_with fail
          go_ret
          exact ⟨rfl, HZ.out⟩
      · skip
        go_simp
        refine hK.out _ _ ?_ (fun hHeld2 => ?_)
        · with_reducible assumption
        clear hK K hHeld
        have hHeld := hHeld2
        clear hHeld2
        (try simp only [List.getElem_toArray, List.getElem_cons_succ, List.getElem_cons_zero, Act.put, List.setIfInBounds_toArray, List.set_cons_zero, List.set_cons_succ])
        refine wpAnyH_ready (rs := [3, 5]) (by kernel_rfl) (by simp) ?_
        refine (AllReadyH.cons rfl (fun K hK => ?_) (AllReadyH.cons rfl (fun K hK => ?_) AllReadyH.nil))
        · skip
          go_simp
          refine (withSignS w w.heap.size (w.heap.size + 1) (fun wz => .bool (nb wz w.heap.size)) (fun wz => .bool (nb wz (w.heap.size + 1))) 0 0 0 0 (keepsC_nb w.heap.size) (keepsC_nb (w.heap.size + 1)) _ _ 0 0 false (HA.out _) _ ?_).mono ?_
          · with_reducible assumption
          rintro e w5 ⟨rfl, hP⟩
          refine hK.out _ _ ?_ (fun hHeld2 => ?_)
          · exact hP
          clear hK K hHeld
          have hHeld := hHeld2
          clear hHeld2
          (try simp only [List.getElem_toArray, List.getElem_cons_succ, List.getElem_cons_zero, Act.put, List.setIfInBounds_toArray, List.set_cons_zero, List.set_cons_succ])
          refine wpAnyH_ready (rs := [5]) (by kernel_rfl) (by simp) ?_
          refine (AllReadyH.cons rfl (fun K hK => ?_) AllReadyH.nil)
          go_simp
          refine hK.out _ _ ?_ (fun hHeld2 => ?_)
          · with_reducible assumption
          clear hK K hHeld
          have hHeld := hHeld2
          clear hHeld2
          (try simp only [List.getElem_toArray, List.getElem_cons_succ, List.getElem_cons_zero, Act.put, List.setIfInBounds_toArray, List.set_cons_zero, List.set_cons_succ])
          refine wpAnyH_ready (rs := [7]) (by kernel_rfl) (by simp) ?_
          refine (AllReadyH.cons rfl (fun K hK => ?_) AllReadyH.nil)
          go_simp
          refine (withSignS w w.heap.size (w.heap.size + 1) (fun wz => .bool (nb wz w.heap.size)) (fun wz => .bool (nb wz (w.heap.size + 1))) 0 0 0 0 (keepsC_nb w.heap.size) (keepsC_nb (w.heap.size + 1)) _ _ 0 0 false (HC.out _) _ ?_).mono ?_
          · with_reducible assumption
          rintro e w5 ⟨rfl, hP⟩
          refine hK.out _ _ ?_ (fun hHeld2 => ?_)
          · exact hP
          clear hK K hHeld
          have hHeld := hHeld2
          clear hHeld2
          (try simp only [List.getElem_toArray, List.getElem_cons_succ, List.getElem_cons_zero, Act.put, List.setIfInBounds_toArray, List.set_cons_zero, List.set_cons_succ])
          refine wpAnyH_ready (rs := [8]) (by kernel_rfl) (by simp) ?_
          refine (AllReadyH.cons rfl (fun K hK => ?_) AllReadyH.nil)
          go_simp
          refine hK.out _ _ ?_ (fun hHeld2 => ?_)
          · exact PairS.setA (pa := (fun wz => .bool (nb wz w.heap.size))) (pb := (fun wz => .bool (nb wz (w.heap.size + 1)))) hP (Nat.le_refl _) (by simp) false (setsC_nb w.heap.size false) (nearC_nb (w.heap.size + 1))
          clear hK K hHeld
          have hHeld := hHeld2
          clear hHeld2
          (try simp only [List.getElem_toArray, List.getElem_cons_succ, List.getElem_cons_zero, Act.put, List.setIfInBounds_toArray, List.set_cons_zero, List.set_cons_succ])
          refine wpAnyH_ready (rs := [9]) (by kernel_rfl) (by simp) ?_
          refine (AllReadyH.cons rfl (fun K hK => ?_) AllReadyH.nil)
          go_simp
          refine hK.out _ _ ?_ (fun hHeld2 => ?_)
          · exact PairS.setB (pa := (fun wz => .bool (nb wz w.heap.size))) (pb := (fun wz => .bool (nb wz (w.heap.size + 1)))) (PairS.setA (pa := (fun wz => .bool (nb wz w.heap.size))) (pb := (fun wz => .bool (nb wz (w.heap.size + 1)))) hP (Nat.le_refl _) (by simp) false (setsC_nb w.heap.size false) (nearC_nb (w.heap.size + 1))) (by simp) (by simp) false (setsC_nb (w.heap.size + 1) false) (nearC_nb w.heap.size)
          clear hK K hHeld
          have hHeld := hHeld2
          clear hHeld2
          (try simp only [List.getElem_toArray, List.getElem_cons_succ, List.getElem_cons_zero, Act.put, List.setIfInBounds_toArray, List.set_cons_zero, List.set_cons_succ])
          refine wpAnyH_done (by kernel_rfl) ?_ _
          refine NoPanic.normal ?_
          have hE := PairS.fin (pa := (fun wz => .bool (nb wz w.heap.size))) (pb := (fun wz => .bool (nb wz (w.heap.size + 1)))) hP (Nat.le_refl _) (by simp) (by simp) false false (setsC_nb w.heap.size false) (nearC_nb (w.heap.size + 1))
          clear hP hHeld
          revert hE
          generalize ((((((w5.setCell ⟨w.heap.size, 0, none⟩ (.bool false)).setCell ⟨w.heap.size, 1, none⟩ (.int .u64 0)).setCell ⟨w.heap.size, 2, none⟩ (.int .u64 0)).setCell ⟨(w.heap.size + 1), 0, none⟩ (.bool false)).setCell ⟨(w.heap.size + 1), 1, none⟩ (.int .u64 0)).setCell ⟨(w.heap.size + 1), 2, none⟩ (.int .u64 0)) = wf
          rintro ⟨e0, e1, e2, e3, e4, e5, e6, e7, e8⟩
          go_wp2_with fail
          refine (implOrder false 0 0 false 0 0 _).mono ?_
          rintro e w9 ⟨rfl, hB9⟩
          have HZ := Lib.hid (bt2 e8 hB9)
          clear hB9
          go_wp2_with fail
          go_ret
          exact ⟨rfl, HZ.out⟩
        · skip
          go_simp
          refine hK.out _ _ ?_ (fun hHeld2 => ?_)
          · with_reducible assumption
          clear hK K hHeld
          have hHeld := hHeld2
          clear hHeld2
          (try simp only [List.getElem_toArray, List.getElem_cons_succ, List.getElem_cons_zero, Act.put, List.setIfInBounds_toArray, List.set_cons_zero, List.set_cons_succ])
          refine wpAnyH_ready (rs := [3]) (by kernel_rfl) (by simp) ?_
          refine (AllReadyH.cons rfl (fun K hK => ?_) AllReadyH.nil)
          go_simp
          refine (withSignS w w.heap.size (w.heap.size + 1) (fun wz => .bool (nb wz w.heap.size)) (fun wz => .bool (nb wz (w.heap.size + 1))) 0 0 0 0 (keepsC_nb w.heap.size) (keepsC_nb (w.heap.size + 1)) _ _ 0 0 false (HA.out _) _ ?_).mono ?_
          · with_reducible assumption
          rintro e w5 ⟨rfl, hP⟩
          refine hK.out _ _ ?_ (fun hHeld2 => ?_)
          · exact hP
          clear hK K hHeld
          have hHeld := hHeld2
          clear hHeld2
          (try simp only [List.getElem_toArray, List.getElem_cons_succ, List.getElem_cons_zero, Act.put, List.setIfInBounds_toArray, List.set_cons_zero, List.set_cons_succ])
          refine wpAnyH_ready (rs := [7]) (by kernel_rfl) (by simp) ?_
          refine (AllReadyH.cons rfl (fun K hK => ?_) AllReadyH.nil)
          go_simp
          refine (withSignS w w.heap.size (w.heap.size + 1) (fun wz => .bool (nb wz w.heap.size)) (fun wz => .bool (nb wz (w.heap.size + 1))) 0 0 0 0 (keepsC_nb w.heap.size) (keepsC_nb (w.heap.size + 1)) _ _ 0 0 false (HC.out _) _ ?_).mono ?_
          · with_reducible assumption
          rintro e w5 ⟨rfl, hP⟩
          refine hK.out _ _ ?_ (fun hHeld2 => ?_)
          · exact hP
          clear hK K hHeld
          have hHeld := hHeld2
          clear hHeld2
          (try simp only [List.getElem_toArray, List.getElem_cons_succ, List.getElem_cons_zero, Act.put, List.setIfInBounds_toArray, List.set_cons_zero, List.set_cons_succ])
          refine wpAnyH_ready (rs := [8]) (by kernel_rfl) (by simp) ?_
          refine (AllReadyH.cons rfl (fun K hK => ?_) AllReadyH.nil)
          go_simp
          refine hK.out _ _ ?_ (fun hHeld2 => ?_)
          · exact PairS.setA (pa := (fun wz => .bool (nb wz w.heap.size))) (pb := (fun wz => .bool (nb wz (w.heap.size + 1)))) hP (Nat.le_refl _) (by simp) false (setsC_nb w.heap.size false) (nearC_nb (w.heap.size + 1))
          clear hK K hHeld
          have hHeld := hHeld2
          clear hHeld2
          (try simp only [List.getElem_toArray, List.getElem_cons_succ, List.getElem_cons_zero, Act.put, List.setIfInBounds_toArray, List.set_cons_zero, List.set_cons_succ])
          refine wpAnyH_ready (rs := [9]) (by kernel_rfl) (by simp) ?_
          refine (AllReadyH.cons rfl (fun K hK => ?_) AllReadyH.nil)
          go_simp
          refine hK.out _ _ ?_ (fun hHeld2 => ?_)
          · exact PairS.setB (pa := (fun wz => .bool (nb wz w.heap.size))) (pb := (fun wz => .bool (nb wz (w.heap.size + 1)))) (PairS.setA (pa := (fun wz => .bool (nb wz w.heap.size))) (pb := (fun wz => .bool (nb wz (w.heap.size + 1)))) hP (Nat.le_refl _) (by simp) false (setsC_nb w.heap.size false) (nearC_nb (w.heap.size + 1))) (by simp) (by simp) false (setsC_nb (w.heap.size + 1) false) (nearC_nb w.heap.size)
          clear hK K hHeld
          have hHeld := hHeld2
          clear hHeld2
          (try simp only [List.getElem_toArray, List.getElem_cons_succ, List.getElem_cons_zero, Act.put, List.setIfInBounds_toArray, List.set_cons_zero, List.set_cons_succ])
          refine wpAnyH_done (by kernel_rfl) ?_ _
          refine NoPanic.normal ?_
          have hE := PairS.fin (pa := (fun wz => .bool (nb wz w.heap.size))) (pb := (fun wz => .bool (nb wz (w.heap.size + 1)))) hP (Nat.le_refl _) (by simp) (by simp) false false (setsC_nb w.heap.size false) (nearC_nb (w.heap.size + 1))
          clear hP hHeld
          revert hE
          generalize ((((((w5.setCell ⟨w.heap.size, 0, none⟩ (.bool false)).setCell ⟨w.heap.size, 1, none⟩ (.int .u64 0)).setCell ⟨w.heap.size, 2, none⟩ (.int .u64 0)).setCell ⟨(w.heap.size + 1), 0, none⟩ (.bool false)).setCell ⟨(w.heap.size + 1), 1, none⟩ (.int .u64 0)).setCell ⟨(w.heap.size + 1), 2, none⟩ (.int .u64 0)) = wf
          rintro ⟨e0, e1, e2, e3, e4, e5, e6, e7, e8⟩
          go_wp2_with fail
          refine (implOrder false 0 0 false 0 0 _).mono ?_
          rintro e w9 ⟨rfl, hB9⟩
          have HZ := Lib.hid (bt2 e8 hB9)
          clear hB9
          go_wp2_with fail
          go_ret
          exact ⟨rfl, HZ.out⟩
    · skip
      go_simp
      refine hK.out _ _ ?_ (fun hHeld2 => ?_)
      · with_reducible assumption
      clear hK K hHeld
      have hHeld := hHeld2
      clear hHeld2
      (try simp only [List.getElem_toArray, List.getElem_cons_succ, List.getElem_cons_zero, Act.put, List.setIfInBounds_toArray, List.set_cons_zero, List.set_cons_succ])
      refine wpAnyH_ready (rs := [1, 6]) (by kernel_rfl) (by simp) ?_
      refine (AllReadyH.cons rfl (fun K hK => ?_) (AllReadyH.cons rfl (fun K hK => ?_) AllReadyH.nil))
      · skip
        go_simp
        refine hK.out _ _ ?_ (fun hHeld2 => ?_)
        · with_reducible assumption
        clear hK K hHeld
        have hHeld := hHeld2
        clear hHeld2
        (try simp only [List.getElem_toArray, List.getElem_cons_succ, List.getElem_cons_zero, Act.put, List.setIfInBounds_toArray, List.set_cons_zero, List.set_cons_succ])
        refine wpAnyH_ready (rs := [3, 6]) (by kernel_rfl) (by simp) ?_
        refine (AllReadyH.cons rfl (fun K hK => ?_) (AllReadyH.cons rfl (fun K hK => ?_) AllReadyH.nil))
        · skip
          go_simp
          refine (withSignS w w.heap.size (w.heap.size + 1) (fun wz => .bool (nb wz w.heap.size)) (fun wz => .bool (nb wz (w.heap.size + 1))) 0 0 0 0 (keepsC_nb w.heap.size) (keepsC_nb (w.heap.size + 1)) _ _ 0 0 false (HA.out _) _ ?_).mono ?_
          · with_reducible assumption
          rintro e w5 ⟨rfl, hP⟩
          refine hK.out _ _ ?_ (fun hHeld2 => ?_)
          · exact hP
          clear hK K hHeld
          have hHeld := hHeld2
          clear hHeld2
          (try simp only [List.getElem_toArray, List.getElem_cons_succ, List.getElem_cons_zero, Act.put, List.setIfInBounds_toArray, List.set_cons_zero, List.set_cons_succ])
          refine wpAnyH_ready (rs := [6]) (by kernel_rfl) (by simp) ?_
          refine (AllReadyH.cons rfl (fun K hK => ?_) AllReadyH.nil)
          go_simp
          refine hK.out _ _ ?_ (fun hHeld2 => ?_)
          · with_reducible assumption
          clear hK K hHeld
          have hHeld := hHeld2
          clear hHeld2
          (try simp only [List.getElem_toArray, List.getElem_cons_succ, List.getElem_cons_zero, Act.put, List.setIfInBounds_toArray, List.set_cons_zero, List.set_cons_succ])
          refine wpAnyH_ready (rs := [7]) (by kernel_rfl) (by simp) ?_
          refine (AllReadyH.cons rfl (fun K hK => ?_) AllReadyH.nil)
          go_simp
          refine (withSignS w w.heap.size (w.heap.size + 1) (fun wz => .bool (nb wz w.heap.size)) (fun wz => .bool (nb wz (w.heap.size + 1))) 0 0 0 0 (keepsC_nb w.heap.size) (keepsC_nb (w.heap.size + 1)) _ _ 0 0 false (HC.out _) _ ?_).mono ?_
          · with_reducible assumption
          rintro e w5 ⟨rfl, hP⟩
          refine hK.out _ _ ?_ (fun hHeld2 => ?_)
          · exact hP
          clear hK K hHeld
          have hHeld := hHeld2
          clear hHeld2
          (try simp only [List.getElem_toArray, List.getElem_cons_succ, List.getElem_cons_zero, Act.put, List.setIfInBounds_toArray, List.set_cons_zero, List.set_cons_succ])
          refine wpAnyH_ready (rs := [8]) (by kernel_rfl) (by simp) ?_
          refine (AllReadyH.cons rfl (fun K hK => ?_) AllReadyH.nil)
          go_simp
          refine hK.out _ _ ?_ (fun hHeld2 => ?_)
          · exact PairS.setA (pa := (fun wz => .bool (nb wz w.heap.size))) (pb := (fun wz => .bool (nb wz (w.heap.size + 1)))) hP (Nat.le_refl _) (by simp) false (setsC_nb w.heap.size false) (nearC_nb (w.heap.size + 1))
          clear hK K hHeld
          have hHeld := hHeld2
          clear hHeld2
          (try simp only [List.getElem_toArray, List.getElem_cons_succ, List.getElem_cons_zero, Act.put, List.setIfInBounds_toArray, List.set_cons_zero, List.set_cons_succ])
          refine wpAnyH_ready (rs := [9]) (by kernel_rfl) (by simp) ?_
          refine (AllReadyH.cons rfl (fun K hK => ?_) AllReadyH.nil)
          go_simp
          refine hK.out _ _ ?_ (fun hHeld2 => ?_)
          · exact PairS.setB (pa := (fun wz => .bool (nb wz w.heap.size))) (pb := (fun wz => .bool (nb wz (w.heap.size + 1)))) (PairS.setA (pa := (fun wz => .bool (nb wz w.heap.size))) (pb := (fun wz => .bool (nb wz (w.heap.size + 1)))) hP (Nat.le_refl _) (by simp) false (setsC_nb w.heap.size false) (nearC_nb (w.heap.size + 1))) (by simp) (by simp) false (setsC_nb (w.heap.size + 1) false) (nearC_nb w.heap.size)
          clear hK K hHeld
          have hHeld := hHeld2
          clear hHeld2
          (try simp only [List.getElem_toArray, List.getElem_cons_succ, List.getElem_cons_zero, Act.put, List.setIfInBounds_toArray, List.set_cons_zero, List.set_cons_succ])
          refine wpAnyH_done (by kernel_rfl) ?_ _
          refine NoPanic.normal ?_
          have hE := PairS.fin (pa := (fun wz => .bool (nb wz w.heap.size))) (pb := (fun wz => .bool (nb wz (w.heap.size + 1)))) hP (Nat.le_refl _) (by simp) (by simp) false false (setsC_nb w.heap.size false) (nearC_nb (w.heap.size + 1))
          clear hP hHeld
          revert hE
          generalize ((((((w5.setCell ⟨w.heap.size, 0, none⟩ (.bool false)).setCell ⟨w.heap.size, 1, none⟩ (.int .u64 0)).setCell ⟨w.heap.size, 2, none⟩ (.int .u64 0)).setCell ⟨(w.heap.size + 1), 0, none⟩ (.bool false)).setCell ⟨(w.heap.size + 1), 1, none⟩ (.int .u64 0)).setCell ⟨(w.heap.size + 1), 2, none⟩ (.int .u64 0)) = wf
          rintro ⟨e0, e1, e2, e3, e4, e5, e6, e7, e8⟩
          go_wp2_with fail
          refine (implOrder false 0 0 false 0 0 _).mono ?_
          rintro e w9 ⟨rfl, hB9⟩
          have HZ := Lib.hid (bt2 e8 hB9)
          clear hB9
          go_wp2_with fail
          go_ret
          exact ⟨rfl, HZ.out⟩
        · skip
          go_simp
          refine hK.out _ _ ?_ (fun hHeld2 => ?_)
          · with_reducible assumption
          clear hK K hHeld
          have hHeld := hHeld2
          clear hHeld2
          (try simp only [List.getElem_toArray, List.getElem_cons_succ, List.getElem_cons_zero, Act.put, List.setIfInBounds_toArray, List.set_cons_zero, List.set_cons_succ])
          refine wpAnyH_ready (rs := [3]) (by kernel_rfl) (by simp) ?_
          refine (AllReadyH.cons rfl (fun K hK => ?_) AllReadyH.nil)
          go_simp
          refine (withSignS w w.heap.size (w.heap.size + 1) (fun wz => .bool (nb wz w.heap.size)) (fun wz => .bool (nb wz (w.heap.size + 1))) 0 0 0 0 (keepsC_nb w.heap.size) (keepsC_nb (w.heap.size + 1)) _ _ 0 0 false (HA.out _) _ ?_).mono ?_
          · with_reducible assumption
          rintro e w5 ⟨rfl, hP⟩
          refine hK.out _ _ ?_ (fun hHeld2 => ?_)
          · exact hP
          clear hK K hHeld
          have hHeld := hHeld2
          clear hHeld2
          (try simp only [List.getElem_toArray, List.getElem_cons_succ, List.getElem_cons_zero, Act.put, List.setIfInBounds_toArray, List.set_cons_zero, List.set_cons_succ])
          refine wpAnyH_ready (rs := [7]) (by kernel_rfl) (by simp) ?_
          refine (AllReadyH.cons rfl (fun K hK => ?_) AllReadyH.nil)
          go_simp
          refine (withSignS w w.heap.size (w.heap.size + 1) (fun wz => .bool (nb wz w.heap.size)) (fun wz => .bool (nb wz (w.heap.size + 1))) 0 0 0 0 (keepsC_nb w.heap.size) (keepsC_nb (w.heap.size + 1)) _ _ 0 0 false (HC.out _) _ ?_).mono ?_
          · with_reducible assumption
          rintro e w5 ⟨rfl, hP⟩
          refine hK.out _ _ ?_ (fun hHeld2 => ?_)
          · exact hP
          clear hK K hHeld
          have hHeld := hHeld2
          clear hHeld2
          (try simp only [List.getElem_toArray, List.getElem_cons_succ, List.getElem_cons_zero, Act.put, List.setIfInBounds_toArray, List.set_cons_zero, List.set_cons_succ])
          refine wpAnyH_ready (rs := [8]) (by kernel_rfl) (by simp) ?_
          refine (AllReadyH.cons rfl (fun K hK => ?_) AllReadyH.nil)
          go_simp
          refine hK.out _ _ ?_ (fun hHeld2 => ?_)
          · exact PairS.setA (pa := (fun wz => .bool (nb wz w.heap.size))) (pb := (fun wz => .bool (nb wz (w.heap.size + 1)))) hP (Nat.le_refl _) (by simp) false (setsC_nb w.heap.size false) (nearC_nb (w.heap.size + 1))
          clear hK K hHeld
          have hHeld := hHeld2
          clear hHeld2
          (try simp only [List.getElem_toArray, List.getElem_cons_succ, List.getElem_cons_zero, Act.put, List.setIfInBounds_toArray, List.set_cons_zero, List.set_cons_succ])
          refine wpAnyH_ready (rs := [9]) (by kernel_rfl) (by simp) ?_
          refine (AllReadyH.cons rfl (fun K hK => ?_) AllReadyH.nil)
          go_simp
          refine hK.out _ _ ?_ (fun hHeld2 => ?_)
          · exact PairS.setB (pa := (fun wz => .bool (nb wz w.heap.size))) (pb := (fun wz => .bool (nb wz (w.heap.size + 1)))) (PairS.setA (pa := (fun wz => .bool (nb wz w.heap.size))) (pb := (fun wz => .bool (nb wz (w.heap.size + 1)))) hP (Nat.le_refl _) (by simp) false (setsC_nb w.heap.size false) (nearC_nb (w.heap.size + 1))) (by simp) (by simp) false (setsC_nb (w.heap.size + 1) false) (nearC_nb w.heap.size)
          clear hK K hHeld
          have hHeld := hHeld2
          clear hHeld2
          (try simp only [List.getElem_toArray, List.getElem_cons_succ, List.getElem_cons_zero, Act.put, List.setIfInBounds_toArray, List.set_cons_zero, List.set_cons_succ])
          refine wpAnyH_done (by kernel_rfl) ?_ _
          refine NoPanic.normal ?_
          have hE := PairS.fin (pa := (fun wz => .bool (nb wz w.heap.size))) (pb := (fun wz => .bool (nb wz (w.heap.size + 1)))) hP (Nat.le_refl _) (by simp) (by simp) false false (setsC_nb w.heap.size false) (nearC_nb (w.heap.size + 1))
          clear hP hHeld
          revert hE
          generalize ((((((w5.setCell ⟨w.heap.size, 0, none⟩ (.bool false)).setCell ⟨w.heap.size, 1, none⟩ (.int .u64 0)).setCell ⟨w.heap.size, 2, none⟩ (.int .u64 0)).setCell ⟨(w.heap.size + 1), 0, none⟩ (.bool false)).setCell ⟨(w.heap.size + 1), 1, none⟩ (.int .u64 0)).setCell ⟨(w.heap.size + 1), 2, none⟩ (.int .u64 0)) = wf
          rintro ⟨e0, e1, e2, e3, e4, e5, e6, e7, e8⟩
          go_wp2_with fail
          refine (implOrder false 0 0 false 0 0 _).mono ?_
          rintro e w9 ⟨rfl, hB9⟩
          have HZ := Lib.hid (bt2 e8 hB9)
          clear hB9
          go_wp2_with fail
          go_ret
          exact ⟨rfl, HZ.out⟩
      · skip
        go_simp
        refine hK.out _ _ ?_ (fun hHeld2 => ?_)
        · with_reducible assumption
        clear hK K hHeld
        have hHeld := hHeld2
        clear hHeld2
        (try simp only [List.getElem_toArray, List.getElem_cons_succ, List.getElem_cons_zero, Act.put, List.setIfInBounds_toArray, List.set_cons_zero, List.set_cons_succ])
        refine wpAnyH_ready (rs := [1]) (by kernel_rfl) (by simp) ?_
        refine (AllReadyH.cons rfl (fun K hK => ?_) AllReadyH.nil)
        go_simp
        refine hK.out _ _ ?_ (fun hHeld2 => ?_)
        · with_reducible assumption
        clear hK K hHeld
        have hHeld := hHeld2
        clear hHeld2
        (try simp only [List.getElem_toArray, List.getElem_cons_succ, List.getElem_cons_zero, Act.put, List.setIfInBounds_toArray, List.set_cons_zero, List.set_cons_succ])
        refine wpAnyH_ready (rs := [3]) (by kernel_rfl) (by simp) ?_
        refine (AllReadyH.cons rfl (fun K hK => ?_) AllReadyH.nil)
        go_simp
        refine (withSignS w w.heap.size (w.heap.size + 1) (fun wz => .bool (nb wz w.heap.size)) (fun wz => .bool (nb wz (w.heap.size + 1))) 0 0 0 0 (keepsC_nb w.heap.size) (keepsC_nb (w.heap.size + 1)) _ _ 0 0 false (HA.out _) _ ?_).mono ?_
        · with_reducible assumption
        rintro e w5 ⟨rfl, hP⟩
        refine hK.out _ _ ?_ (fun hHeld2 => ?_)
        · exact hP
        clear hK K hHeld
        have hHeld := hHeld2
        clear hHeld2
        (try simp only [List.getElem_toArray, List.getElem_cons_succ, List.getElem_cons_zero, Act.put, List.setIfInBounds_toArray, List.set_cons_zero, List.set_cons_succ])
        refine wpAnyH_ready (rs := [7]) (by kernel_rfl) (by simp) ?_
        refine (AllReadyH.cons rfl (fun K hK => ?_) AllReadyH.nil)
        go_simp
        refine (withSignS w w.heap.size (w.heap.size + 1) (fun wz => .bool (nb wz w.heap.size)) (fun wz => .bool (nb wz (w.heap.size + 1))) 0 0 0 0 (keepsC_nb w.heap.size) (keepsC_nb (w.heap.size + 1)) _ _ 0 0 false (HC.out _) _ ?_).mono ?_
        · with_reducible assumption
        rintro e w5 ⟨rfl, hP⟩
        refine hK.out _ _ ?_ (fun hHeld2 => ?_)
        · exact hP
        clear hK K hHeld
        have hHeld := hHeld2
        clear hHeld2
        (try simp only [List.getElem_toArray, List.getElem_cons_succ, List.getElem_cons_zero, Act.put, List.setIfInBounds_toArray, List.set_cons_zero, List.set_cons_succ])
        refine wpAnyH_ready (rs := [8]) (by kernel_rfl) (by simp) ?_
        refine (AllReadyH.cons rfl (fun K hK => ?_) AllReadyH.nil)
        go_simp
        refine hK.out _ _ ?_ (fun hHeld2 => ?_)
        · exact PairS.setA (pa := (fun wz => .bool (nb wz w.heap.size))) (pb := (fun wz => .bool (nb wz (w.heap.size + 1)))) hP (Nat.le_refl _) (by simp) false (setsC_nb w.heap.size false) (nearC_nb (w.heap.size + 1))
        clear hK K hHeld
        have hHeld := hHeld2
        clear hHeld2
        (try simp only [List.getElem_toArray, List.getElem_cons_succ, List.getElem_cons_zero, Act.put, List.setIfInBounds_toArray, List.set_cons_zero, List.set_cons_succ])
        refine wpAnyH_ready (rs := [9]) (by kernel_rfl) (by simp) ?_
        refine (AllReadyH.cons rfl (fun K hK => ?_) AllReadyH.nil)
        go_simp
        refine hK.out _ _ ?_ (fun hHeld2 => ?_)
        · exact PairS.setB (pa := (fun wz => .bool (nb wz w.heap.size))) (pb := (fun wz => .bool (nb wz (w.heap.size + 1)))) (PairS.setA (pa := (fun wz => .bool (nb wz w.heap.size))) (pb := (fun wz => .bool (nb wz (w.heap.size + 1)))) hP (Nat.le_refl _) (by simp) false (setsC_nb w.heap.size false) (nearC_nb (w.heap.size + 1))) (by simp) (by simp) false (setsC_nb (w.heap.size + 1) false) (nearC_nb w.heap.size)
        clear hK K hHeld
        have hHeld := hHeld2
        clear hHeld2
        (try simp only [List.getElem_toArray, List.getElem_cons_succ, List.getElem_cons_zero, Act.put, List.setIfInBounds_toArray, List.set_cons_zero, List.set_cons_succ])
        refine wpAnyH_done (by kernel_rfl) ?_ _
        refine NoPanic.normal ?_
        have hE := PairS.fin (pa := (fun wz => .bool (nb wz w.heap.size))) (pb := (fun wz => .bool (nb wz (w.heap.size + 1)))) hP (Nat.le_refl _) (by simp) (by simp) false false (setsC_nb w.heap.size false) (nearC_nb (w.heap.size + 1))
        clear hP hHeld
        revert hE
        generalize ((((((w5.setCell ⟨w.heap.size, 0, none⟩ (.bool false)).setCell ⟨w.heap.size, 1, none⟩ (.int .u64 0)).setCell ⟨w.heap.size, 2, none⟩ (.int .u64 0)).setCell ⟨(w.heap.size + 1), 0, none⟩ (.bool false)).setCell ⟨(w.heap.size + 1), 1, none⟩ (.int .u64 0)).setCell ⟨(w.heap.size + 1), 2, none⟩ (.int .u64 0)) = wf
        rintro ⟨e0, e1, e2, e3, e4, e5, e6, e7, e8⟩
        go_wp2_with fail
        refine (implOrder false 0 0 false 0 0 _).mono ?_
        rintro e w9 ⟨rfl, hB9⟩
        have HZ := Lib.hid (bt2 e8 hB9)
        clear hB9
        go_wp2_with fail
        go_ret
        exact ⟨rfl, HZ.out⟩
    · skip
      go_simp
      refine hK.out _ _ ?_ (fun hHeld2 => ?_)
      · with_reducible assumption
      clear hK K hHeld
      have hHeld := hHeld2
      clear hHeld2
      (try simp only [List.getElem_toArray, List.getElem_cons_succ, List.getElem_cons_zero, Act.put, List.setIfInBounds_toArray, List.set_cons_zero, List.set_cons_succ])
      refine wpAnyH_ready (rs := [1, 5]) (by kernel_rfl) (by simp) ?_
      refine (AllReadyH.cons rfl (fun K hK => ?_) (AllReadyH.cons rfl (fun K hK => ?_) AllReadyH.nil))
      · skip
        go_simp
        refine hK.out _ _ ?_ (fun hHeld2 => ?_)
        · with_reducible assumption
        clear hK K hHeld
        have hHeld := hHeld2
        clear hHeld2
        (try simp only [List.getElem_toArray, List.getElem_cons_succ, List.getElem_cons_zero, Act.put, List.setIfInBounds_toArray, List.set_cons_zero, List.set_cons_succ])
        refine wpAnyH_ready (rs := [3, 5]) (by kernel_rfl) (by simp) ?_
        refine (AllReadyH.cons rfl (fun K hK => ?_) (AllReadyH.cons rfl (fun K hK => ?_) AllReadyH.nil))
        · skip
          go_simp
          refine (withSignS w w.heap.size (w.heap.size + 1) (fun wz => .bool (nb wz w.heap.size)) (fun wz => .bool (nb wz (w.heap.size + 1))) 0 0 0 0 (keepsC_nb w.heap.size) (keepsC_nb (w.heap.size + 1)) _ _ 0 0 false (HA.out _) _ ?_).mono ?_
          · with_reducible assumption
          rintro e w5 ⟨rfl, hP⟩
          refine hK.out _ _ ?_ (fun hHeld2 => ?_)
          · exact hP
          clear hK K hHeld
          have hHeld := hHeld2
          clear hHeld2
          (try simp only [List.getElem_toArray, List.getElem_cons_succ, List.getElem_cons_zero, Act.put, List.setIfInBounds_toArray, List.set_cons_zero, List.set_cons_succ])
          refine wpAnyH_ready (rs := [5]) (by kernel_rfl) (by simp) ?_
          refine (AllReadyH.cons rfl (fun K hK => ?_) AllReadyH.nil)
          go_simp
          refine hK.out _ _ ?_ (fun hHeld2 => ?_)
          · with_reducible assumption
          clear hK K hHeld
          have hHeld := hHeld2
          clear hHeld2
          (try simp only [List.getElem_toArray, List.getElem_cons_succ, List.getElem_cons_zero, Act.put, List.setIfInBounds_toArray, List.set_cons_zero, List.set_cons_succ])
          refine wpAnyH_ready (rs := [7]) (by kernel_rfl) (by simp) ?_
          refine (AllReadyH.cons rfl (fun K hK => ?_) AllReadyH.nil)
          go_simp
          refine (withSignS w w.heap.size (w.heap.size + 1) (fun wz => .bool (nb wz w.heap.size)) (fun wz => .bool (nb wz (w.heap.size + 1))) 0 0 0 0 (keepsC_nb w.heap.size) (keepsC_nb (w.heap.size + 1)) _ _ 0 0 false (HC.out _) _ ?_).mono ?_
          · with_reducible assumption
          rintro e w5 ⟨rfl, hP⟩
          refine hK.out _ _ ?_ (fun hHeld2 => ?_)
          · exact hP
          clear hK K hHeld
          have hHeld := hHeld2
          clear hHeld2
          (try simp only [List.getElem_toArray, List.getElem_cons_succ, List.getElem_cons_zero, Act.put, List.setIfInBounds_toArray, List.set_cons_zero, List.set_cons_succ])
          refine wpAnyH_ready (rs := [8]) (by kernel_rfl) (by simp) ?_
          refine (AllReadyH.cons rfl (fun K hK => ?_) AllReadyH.nil)
          go_simp
          refine hK.out _ _ ?_ (fun hHeld2 => ?_)
          · exact PairS.setA (pa := (fun wz => .bool (nb wz w.heap.size))) (pb := (fun wz => .bool (nb wz (w.heap.size + 1)))) hP (Nat.le_refl _) (by simp) false (setsC_nb w.heap.size false) (nearC_nb (w.heap.size + 1))
          clear hK K hHeld
          have hHeld := hHeld2
          clear hHeld2
          (try simp only [List.getElem_toArray, List.getElem_cons_succ, List.getElem_cons_zero, Act.put, List.setIfInBounds_toArray, List.set_cons_zero, List.set_cons_succ])
          refine wpAnyH_ready (rs := [9]) (by kernel_rfl) (by simp) ?_
          refine (AllReadyH.cons rfl (fun K hK => ?_) AllReadyH.nil)
          go_simp
          refine hK.out _ _ ?_ (fun hHeld2 => ?_)
          · exact PairS.setB (pa := (fun wz => .bool (nb wz w.heap.size))) (pb := (fun wz => .bool (nb wz (w.heap.size + 1)))) (PairS.setA (pa := (fun wz => .bool (nb wz w.heap.size))) (pb := (fun wz => .bool (nb wz (w.heap.size + 1)))) hP (Nat.le_refl _) (by simp) false (setsC_nb w.heap.size false) (nearC_nb (w.heap.size + 1))) (by simp) (by simp) false (setsC_nb (w.heap.size + 1) false) (nearC_nb w.heap.size)
          clear hK K hHeld
          have hHeld := hHeld2
          clear hHeld2
          (try simp only [List.getElem_toArray, List.getElem_cons_succ, List.getElem_cons_zero, Act.put, List.setIfInBounds_toArray, List.set_cons_zero, List.set_cons_succ])
          refine wpAnyH_done (by kernel_rfl) ?_ _
          refine NoPanic.normal ?_
          have hE := PairS.fin (pa := (fun wz => .bool (nb wz w.heap.size))) (pb := (fun wz => .bool (nb wz (w.heap.size + 1)))) hP (Nat.le_refl _) (by simp) (by simp) false false (setsC_nb w.heap.size false) (nearC_nb (w.heap.size + 1))
          clear hP hHeld
          revert hE
          generalize ((((((w5.setCell ⟨w.heap.size, 0, none⟩ (.bool false)).setCell ⟨w.heap.size, 1, none⟩ (.int .u64 0)).setCell ⟨w.heap.size, 2, none⟩ (.int .u64 0)).setCell ⟨(w.heap.size + 1), 0, none⟩ (.bool false)).setCell ⟨(w.heap.size + 1), 1, none⟩ (.int .u64 0)).setCell ⟨(w.heap.size + 1), 2, none⟩ (.int .u64 0)) = wf
          rintro ⟨e0, e1, e2, e3, e4, e5, e6, e7, e8⟩
          go_wp2_with fail
          refine (implOrder false 0 0 false 0 0 _).mono ?_
          rintro e w9 ⟨rfl, hB9⟩
          have HZ := Lib.hid (bt2 e8 hB9)
          clear hB9
          go_wp2_with fail
          go_ret
          exact ⟨rfl, HZ.out⟩
        · skip
          go_simp
          refine hK.out _ _ ?_ (fun hHeld2 => ?_)
          · with_reducible assumption
          clear hK K hHeld
          have hHeld := hHeld2
          clear hHeld2
          (try simp only [List.getElem_toArray, List.getElem_cons_succ, List.getElem_cons_zero, Act.put, List.setIfInBounds_toArray, List.set_cons_zero, List.set_cons_succ])
          refine wpAnyH_ready (rs := [3]) (by kernel_rfl) (by simp) ?_
          refine (AllReadyH.cons rfl (fun K hK => ?_) AllReadyH.nil)
          go_simp
          refine (withSignS w w.heap.size (w.heap.size + 1) (fun wz => .bool (nb wz w.heap.size)) (fun wz => .bool (nb wz (w.heap.size + 1))) 0 0 0 0 (keepsC_nb w.heap.size) (keepsC_nb (w.heap.size + 1)) _ _ 0 0 false (HA.out _) _ ?_).mono ?_
          · with_reducible assumption
          rintro e w5 ⟨rfl, hP⟩
          refine hK.out _ _ ?_ (fun hHeld2 => ?_)
          · exact hP
          clear hK K hHeld
          have hHeld := hHeld2
          clear hHeld2
          (try simp only [List.getElem_toArray, List.getElem_cons_succ, List.getElem_cons_zero, Act.put, List.setIfInBounds_toArray, List.set_cons_zero, List.set_cons_succ])
          refine wpAnyH_ready (rs := [7]) (by kernel_rfl) (by simp) ?_
          refine (AllReadyH.cons rfl (fun K hK => ?_) AllReadyH.nil)
          go_simp
          refine (withSignS w w.heap.size (w.heap.size + 1) (fun wz => .bool (nb wz w.heap.size)) (fun wz => .bool (nb wz (w.heap.size + 1))) 0 0 0 0 (keepsC_nb w.heap.size) (keepsC_nb (w.heap.size + 1)) _ _ 0 0 false (HC.out _) _ ?_).mono ?_
          · with_reducible assumption
          rintro e w5 ⟨rfl, hP⟩
          refine hK.out _ _ ?_ (fun hHeld2 => ?_)
          · exact hP
          clear hK K hHeld
          have hHeld := hHeld2
          clear hHeld2
          (try simp only [List.getElem_toArray, List.getElem_cons_succ, List.getElem_cons_zero, Act.put, List.setIfInBounds_toArray, List.set_cons_zero, List.set_cons_succ])
          refine wpAnyH_ready (rs := [8]) (by kernel_rfl) (by simp) ?_
          refine (AllReadyH.cons rfl (fun K hK => ?_) AllReadyH.nil)
          go_simp
          refine hK.out _ _ ?_ (fun hHeld2 => ?_)
          · exact PairS.setA (pa := (fun wz => .bool (nb wz w.heap.size))) (pb := (fun wz => .bool (nb wz (w.heap.size + 1)))) hP (Nat.le_refl _) (by simp) false (setsC_nb w.heap.size false) (nearC_nb (w.heap.size + 1))
          clear hK K hHeld
          have hHeld := hHeld2
          clear hHeld2
          (try simp only [List.getElem_toArray, List.getElem_cons_succ, List.getElem_cons_zero, Act.put, List.setIfInBounds_toArray, List.set_cons_zero, List.set_cons_succ])
          refine wpAnyH_ready (rs := [9]) (by kernel_rfl) (by simp) ?_
          refine (AllReadyH.cons rfl (fun K hK => ?_) AllReadyH.nil)
          go_simp
          refine hK.out _ _ ?_ (fun hHeld2 => ?_)
          · exact PairS.setB (pa := (fun wz => .bool (nb wz w.heap.size))) (pb := (fun wz => .bool (nb wz (w.heap.size + 1)))) (PairS.setA (pa := (fun wz => .bool (nb wz w.heap.size))) (pb := (fun wz => .bool (nb wz (w.heap.size + 1)))) hP (Nat.le_refl _) (by simp) false (setsC_nb w.heap.size false) (nearC_nb (w.heap.size + 1))) (by simp) (by simp) false (setsC_nb (w.heap.size + 1) false) (nearC_nb w.heap.size)
          clear hK K hHeld
          have hHeld := hHeld2
          clear hHeld2
          (try simp only [List.getElem_toArray, List.getElem_cons_succ, List.getElem_cons_zero, Act.put, List.setIfInBounds_toArray, List.set_cons_zero, List.set_cons_succ])
          refine wpAnyH_done (by kernel_rfl) ?_ _
          refine NoPanic.normal ?_
          have hE := PairS.fin (pa := (fun wz => .bool (nb wz w.heap.size))) (pb := (fun wz => .bool (nb wz (w.heap.size + 1)))) hP (Nat.le_refl _) (by simp) (by simp) false false (setsC_nb w.heap.size false) (nearC_nb (w.heap.size + 1))
          clear hP hHeld
          revert hE
          generalize ((((((w5.setCell ⟨w.heap.size, 0, none⟩ (.bool false)).setCell ⟨w.heap.size, 1, none⟩ (.int .u64 0)).setCell ⟨w.heap.size, 2, none⟩ (.int .u64 0)).setCell ⟨(w.heap.size + 1), 0, none⟩ (.bool false)).setCell ⟨(w.heap.size + 1), 1, none⟩ (.int .u64 0)).setCell ⟨(w.heap.size + 1), 2, none⟩ (.int .u64 0)) = wf
          rintro ⟨e0, e1, e2, e3, e4, e5, e6, e7, e8⟩
          go_wp2_with fail
          refine (implOrder false 0 0 false 0 0 _).mono ?_
          rintro e w9 ⟨rfl, hB9⟩
          have HZ := Lib.hid (bt2 e8 hB9)
          clear hB9
          go_wp2_with fail
          go_ret
          exact ⟨rfl, HZ.out⟩
      · skip
        go_simp
        refine hK.out _ _ ?_ (fun hHeld2 => ?_)
        · with_reducible assumption
        clear hK K hHeld
        have hHeld := hHeld2
        clear hHeld2
        (try simp only [List.getElem_toArray, List.getElem_cons_succ, List.getElem_cons_zero, Act.put, List.setIfInBounds_toArray, List.set_cons_zero, List.set_cons_succ])
        refine wpAnyH_ready (rs := [1]) (by kernel_rfl) (by simp) ?_
        refine (AllReadyH.cons rfl (fun K hK => ?_) AllReadyH.nil)
        go_simp
        refine hK.out _ _ ?_ (fun hHeld2 => ?_)
        · with_reducible assumption
        clear hK K hHeld
        have hHeld := hHeld2
        clear hHeld2
        (try simp only [List.getElem_toArray, List.getElem_cons_succ, List.getElem_cons_zero, Act.put, List.setIfInBounds_toArray, List.set_cons_zero, List.set_cons_succ])
        refine wpAnyH_ready (rs := [3]) (by kernel_rfl) (by simp) ?_
        refine (AllReadyH.cons rfl (fun K hK => ?_) AllReadyH.nil)
        go_simp
        refine (withSignS w w.heap.size (w.heap.size + 1) (fun wz => .bool (nb wz w.heap.size)) (fun wz => .bool (nb wz (w.heap.size + 1))) 0 0 0 0 (keepsC_nb w.heap.size) (keepsC_nb (w.heap.size + 1)) _ _ 0 0 false (HA.out _) _ ?_).mono ?_
        · with_reducible assumption
        rintro e w5 ⟨rfl, hP⟩
        refine hK.out _ _ ?_ (fun hHeld2 => ?_)
        · exact hP
        clear hK K hHeld
        have hHeld := hHeld2
        clear hHeld2
        (try simp only [List.getElem_toArray, List.getElem_cons_succ, List.getElem_cons_zero, Act.put, List.setIfInBounds_toArray, List.set_cons_zero, List.set_cons_succ])
        refine wpAnyH_ready (rs := [7]) (by kernel_rfl) (by simp) ?_
        refine (AllReadyH.cons rfl (fun K hK => ?_) AllReadyH.nil)
        go_simp
        refine (withSignS w w.heap.size (w.heap.size + 1) (fun wz => .bool (nb wz w.heap.size)) (fun wz => .bool (nb wz (w.heap.size + 1))) 0 0 0 0 (keepsC_nb w.heap.size) (keepsC_nb (w.heap.size + 1)) _ _ 0 0 false (HC.out _) _ ?_).mono ?_
        · with_reducible assumption
        rintro e w5 ⟨rfl, hP⟩
        refine hK.out _ _ ?_ (fun hHeld2 => ?_)
        · exact hP
        clear hK K hHeld
        have hHeld := hHeld2
        clear hHeld2
        (try simp only [List.getElem_toArray, List.getElem_cons_succ, List.getElem_cons_zero, Act.put, List.setIfInBounds_toArray, List.set_cons_zero, List.set_cons_succ])
        refine wpAnyH_ready (rs := [8]) (by kernel_rfl) (by simp) ?_
        refine (AllReadyH.cons rfl (fun K hK => ?_) AllReadyH.nil)
        go_simp
        refine hK.out _ _ ?_ (fun hHeld2 => ?_)
        · exact PairS.setA (pa := (fun wz => .bool (nb wz w.heap.size))) (pb := (fun wz => .bool (nb wz (w.heap.size + 1)))) hP (Nat.le_refl _) (by simp) false (setsC_nb w.heap.size false) (nearC_nb (w.heap.size + 1))
        clear hK K hHeld
        have hHeld := hHeld2
        clear hHeld2
        (try simp only [List.getElem_toArray, List.getElem_cons_succ, List.getElem_cons_zero, Act.put, List.setIfInBounds_toArray, List.set_cons_zero, List.set_cons_succ])
        refine wpAnyH_ready (rs := [9]) (by kernel_rfl) (by simp) ?_
        refine (AllReadyH.cons rfl (fun K hK => ?_) AllReadyH.nil)
        go_simp
        refine hK.out _ _ ?_ (fun hHeld2 => ?_)
        · exact PairS.setB (pa := (fun wz => .bool (nb wz w.heap.size))) (pb := (fun wz => .bool (nb wz (w.heap.size + 1)))) (PairS.setA (pa := (fun wz => .bool (nb wz w.heap.size))) (pb := (fun wz => .bool (nb wz (w.heap.size + 1)))) hP (Nat.le_refl _) (by simp) false (setsC_nb w.heap.size false) (nearC_nb (w.heap.size + 1))) (by simp) (by simp) false (setsC_nb (w.heap.size + 1) false) (nearC_nb w.heap.size)
        clear hK K hHeld
        have hHeld := hHeld2
        clear hHeld2
        (try simp only [List.getElem_toArray, List.getElem_cons_succ, List.getElem_cons_zero, Act.put, List.setIfInBounds_toArray, List.set_cons_zero, List.set_cons_succ])
        refine wpAnyH_done (by kernel_rfl) ?_ _
        refine NoPanic.normal ?_
        have hE := PairS.fin (pa := (fun wz => .bool (nb wz w.heap.size))) (pb := (fun wz => .bool (nb wz (w.heap.size + 1)))) hP (Nat.le_refl _) (by simp) (by simp) false false (setsC_nb w.heap.size false) (nearC_nb (w.heap.size + 1))
        clear hP hHeld
        revert hE
        generalize ((((((w5.setCell ⟨w.heap.size, 0, none⟩ (.bool false)).setCell ⟨w.heap.size, 1, none⟩ (.int .u64 0)).setCell ⟨w.heap.size, 2, none⟩ (.int .u64 0)).setCell ⟨(w.heap.size + 1), 0, none⟩ (.bool false)).setCell ⟨(w.heap.size + 1), 1, none⟩ (.int .u64 0)).setCell ⟨(w.heap.size + 1), 2, none⟩ (.int .u64 0)) = wf
        rintro ⟨e0, e1, e2, e3, e4, e5, e6, e7, e8⟩
        go_wp2_with fail
        refine (implOrder false 0 0 false 0 0 _).mono ?_
        rintro e w9 ⟨rfl, hB9⟩
        have HZ := Lib.hid (bt2 e8 hB9)
        clear hB9
        go_wp2_with fail
        go_ret
        exact ⟨rfl, HZ.out⟩
  · skip
    go_simp
    refine hK.out _ _ ?_ (fun hHeld2 => ?_)
    · with_reducible assumption
    clear hK K hHeld
    have hHeld := hHeld2
    clear hHeld2
    (try simp only [List.getElem_toArray, List.getElem_cons_succ, List.getElem_cons_zero, Act.put, List.setIfInBounds_toArray, List.set_cons_zero, List.set_cons_succ])
    refine wpAnyH_ready (rs := [1, 2, 6]) (by kernel_rfl) (by simp) ?_
    refine (AllReadyH.cons rfl (fun K hK => ?_) (AllReadyH.cons rfl (fun K hK => ?_) (AllReadyH.cons rfl (fun K hK => ?_) AllReadyH.nil)))
    · skip
      go_simp
      refine hK.out _ _ ?_ (fun hHeld2 => ?_)
      · with_reducible assumption
      clear hK K hHeld
      have hHeld := hHeld2
      clear hHeld2
      (try simp only [List.getElem_toArray, List.getElem_cons_succ, List.getElem_cons_zero, Act.put, List.setIfInBounds_toArray, List.set_cons_zero, List.set_cons_succ])
      refine wpAnyH_ready (rs := [2, 6]) (by kernel_rfl) (by simp) ?_
      refine (AllReadyH.cons rfl (fun K hK => ?_) (AllReadyH.cons rfl (fun K hK => ?_) AllReadyH.nil))
      · skip
        go_simp
        refine hK.out _ _ ?_ (fun hHeld2 => ?_)
        · with_reducible assumption
        clear hK K hHeld
        have hHeld := hHeld2
        clear hHeld2
        (try simp only [List.getElem_toArray, List.getElem_cons_succ, List.getElem_cons_zero, Act.put, List.setIfInBounds_toArray, List.set_cons_zero, List.set_cons_succ])
        refine wpAnyH_ready (rs := [3, 6]) (by kernel_rfl) (by simp) ?_
        refine (AllReadyH.cons rfl (fun K hK => ?_) (AllReadyH.cons rfl (fun K hK => ?_) AllReadyH.nil))
        · skip
          go_simp
          refine (withSignS w w.heap.size (w.heap.size + 1) (fun wz => .bool (nb wz w.heap.size)) (fun wz => .bool (nb wz (w.heap.size + 1))) 0 0 0 0 (keepsC_nb w.heap.size) (keepsC_nb (w.heap.size + 1)) _ _ 0 0 false (HA.out _) _ ?_).mono ?_
          · with_reducible assumption
          rintro e w5 ⟨rfl, hP⟩
          refine hK.out _ _ ?_ (fun hHeld2 => ?_)
          · exact hP
          clear hK K hHeld
          have hHeld := hHeld2
          clear hHeld2
          (try simp only [List.getElem_toArray, List.getElem_cons_succ, List.getElem_cons_zero, Act.put, List.setIfInBounds_toArray, List.set_cons_zero, List.set_cons_succ])
          refine wpAnyH_ready (rs := [6]) (by kernel_rfl) (by simp) ?_
          refine (AllReadyH.cons rfl (fun K hK => ?_) AllReadyH.nil)
          go_simp
          refine hK.out _ _ ?_ (fun hHeld2 => ?_)
          · with_reducible assumption
          clear hK K hHeld
          have hHeld := hHeld2
          clear hHeld2
          (try simp only [List.getElem_toArray, List.getElem_cons_succ, List.getElem_cons_zero, Act.put, List.setIfInBounds_toArray, List.set_cons_zero, List.set_cons_succ])
          refine wpAnyH_ready (rs := [7]) (by kernel_rfl) (by simp) ?_
          refine (AllReadyH.cons rfl (fun K hK => ?_) AllReadyH.nil)
          go_simp
          refine (withSignS w w.heap.size (w.heap.size + 1) (fun wz => .bool (nb wz w.heap.size)) (fun wz => .bool (nb wz (w.heap.size + 1))) 0 0 0 0 (keepsC_nb w.heap.size) (keepsC_nb (w.heap.size + 1)) _ _ 0 0 false (HC.out _) _ ?_).mono ?_
          · with_reducible assumption
          rintro e w5 ⟨rfl, hP⟩
          refine hK.out _ _ ?_ (fun hHeld2 => ?_)
          · exact hP
          clear hK K hHeld
          have hHeld := hHeld2
          clear hHeld2
          (try simp only [List.getElem_toArray, List.getElem_cons_succ, List.getElem_cons_zero, Act.put, List.setIfInBounds_toArray, List.set_cons_zero, List.set_cons_succ])
          refine wpAnyH_ready (rs := [8]) (by kernel_rfl) (by simp) ?_
          refine (AllReadyH.cons rfl (fun K hK => ?_) AllReadyH.nil)
          go_simp
          refine hK.out _ _ ?_ (fun hHeld2 => ?_)
          · exact PairS.setA (pa := (fun wz => .bool (nb wz w.heap.size))) (pb := (fun wz => .bool (nb wz (w.heap.size + 1)))) hP (Nat.le_refl _) (by simp) false (setsC_nb w.heap.size false) (nearC_nb (w.heap.size + 1))
          clear hK K hHeld
          have hHeld := hHeld2
          clear hHeld2
          (try simp only [List.getElem_toArray, List.getElem_cons_succ, List.getElem_cons_zero, Act.put, List.setIfInBounds_toArray, List.set_cons_zero, List.set_cons_succ])
          refine wpAnyH_ready (rs := [9]) (by kernel_rfl) (by simp) ?_
          refine (AllReadyH.cons rfl (fun K hK => ?_) AllReadyH.nil)
          go_simp
          refine hK.out _ _ ?_ (fun hHeld2 => ?_)
          · exact PairS.setB (pa := (fun wz => .bool (nb wz w.heap.size))) (pb := (fun wz => .bool (nb wz (w.heap.size + 1)))) (PairS.setA (pa := (fun wz => .bool (nb wz w.heap.size))) (pb := (fun wz => .bool (nb wz (w.heap.size + 1)))) hP (Nat.le_refl _) (by simp) false (setsC_nb w.heap.size false) (nearC_nb (w.heap.size + 1))) (by simp) (by simp) false (setsC_nb (w.heap.size + 1) false) (nearC_nb w.heap.size)
          clear hK K hHeld
          have hHeld := hHeld2
          clear hHeld2
          (try simp only [List.getElem_toArray, List.getElem_cons_succ, List.getElem_cons_zero, Act.put, List.setIfInBounds_toArray, List.set_cons_zero, List.set_cons_succ])
          refine wpAnyH_done (by kernel_rfl) ?_ _
          refine NoPanic.normal ?_
          have hE := PairS.fin (pa := (fun wz => .bool (nb wz w.heap.size))) (pb := (fun wz => .bool (nb wz (w.heap.size + 1)))) hP (Nat.le_refl _) (by simp) (by simp) false false (setsC_nb w.heap.size false) (nearC_nb (w.heap.size + 1))
          clear hP hHeld
          revert hE
          generalize ((((((w5.setCell ⟨w.heap.size, 0, none⟩ (.bool false)).setCell ⟨w.heap.size, 1, none⟩ (.int .u64 0)).setCell ⟨w.heap.size, 2, none⟩ (.int .u64 0)).setCell ⟨(w.heap.size + 1), 0, none⟩ (.bool false)).setCell ⟨(w.heap.size + 1), 1, none⟩ (.int .u64 0)).setCell ⟨(w.heap.size + 1), 2, none⟩ (.int .u64 0)) = wf
          rintro ⟨e0, e1, e2, e3, e4, e5, e6, e7, e8⟩
          go_wp2_with fail
          refine (implOrder false 0 0 false 0 0 _).mono ?_
          rintro e w9 ⟨rfl, hB9⟩
          have HZ := Lib.hid (bt2 e8 hB9)
          clear hB9
          go_wp2_with fail
          go_ret
          exact ⟨rfl, HZ.out⟩
        · skip
          go_simp
          refine hK.out _ _ ?_ (fun hHeld2 => ?_)
          · with_reducible assumption
          clear hK K hHeld
          have hHeld := hHeld2
          clear hHeld2
          (try simp only [List.getElem_toArray, List.getElem_cons_succ, List.getElem_cons_zero, Act.put, List.setIfInBounds_toArray, List.set_cons_zero, List.set_cons_succ])
          refine wpAnyH_ready (rs := [3]) (by kernel_rfl) (by simp) ?_
          refine (AllReadyH.cons rfl (fun K hK => ?_) AllReadyH.nil)
          go_simp
          refine (withSignS w w.heap.size (w.heap.size + 1) (fun wz => .bool (nb wz w.heap.size)) (fun wz => .bool (nb wz (w.heap.size + 1))) 0 0 0 0 (keepsC_nb w.heap.size) (keepsC_nb (w.heap.size + 1)) _ _ 0 0 false (HA.out _) _ ?_).mono ?_
          · with_reducible assumption
          rintro e w5 ⟨rfl, hP⟩
          refine hK.out _ _ ?_ (fun hHeld2 => ?_)
          · exact hP
          clear hK K hHeld
          have hHeld := hHeld2
          clear hHeld2
          (try simp only [List.getElem_toArray, List.getElem_cons_succ, List.getElem_cons_zero, Act.put, List.setIfInBounds_toArray, List.set_cons_zero, List.set_cons_succ])
          refine wpAnyH_ready (rs := [7]) (by kernel_rfl) (by simp) ?_
          refine (AllReadyH.cons rfl (fun K hK => ?_) AllReadyH.nil)
          go_simp
          refine (withSignS w w.heap.size (w.heap.size + 1) (fun wz => .bool (nb wz w.heap.size)) (fun wz => .bool (nb wz (w.heap.size + 1))) 0 0 0 0 (keepsC_nb w.heap.size) (keepsC_nb (w.heap.size + 1)) _ _ 0 0 false (HC.out _) _ ?_).mono ?_
          · with_reducible assumption
          rintro e w5 ⟨rfl, hP⟩
          refine hK.out _ _ ?_ (fun hHeld2 => ?_)
          · exact hP
          clear hK K hHeld
          have hHeld := hHeld2
          clear hHeld2
          (try simp only [List.getElem_toArray, List.getElem_cons_succ, List.getElem_cons_zero, Act.put, List.setIfInBounds_toArray, List.set_cons_zero, List.set_cons_succ])
          refine wpAnyH_ready (rs := [8]) (by kernel_rfl) (by simp) ?_
          refine (AllReadyH.cons rfl (fun K hK => ?_) AllReadyH.nil)
          go_simp
          refine hK.out _ _ ?_ (fun hHeld2 => ?_)
          · exact PairS.setA (pa := (fun wz => .bool (nb wz w.heap.size))) (pb := (fun wz => .bool (nb wz (w.heap.size + 1)))) hP (Nat.le_refl _) (by simp) false (setsC_nb w.heap.size false) (nearC_nb (w.heap.size + 1))
          clear hK K hHeld
          have hHeld := hHeld2
          clear hHeld2
          (try simp only [List.getElem_toArray, List.getElem_cons_succ, List.getElem_cons_zero, Act.put, List.setIfInBounds_toArray, List.set_cons_zero, List.set_cons_succ])
          refine wpAnyH_ready (rs := [9]) (by kernel_rfl) (by simp) ?_
          refine (AllReadyH.cons rfl (fun K hK => ?_) AllReadyH.nil)
          go_simp
          refine hK.out _ _ ?_ (fun hHeld2 => ?_)
          · exact PairS.setB (pa := (fun wz => .bool (nb wz w.heap.size))) (pb := (fun wz => .bool (nb wz (w.heap.size + 1)))) (PairS.setA (pa := (fun wz => .bool (nb wz w.heap.size))) (pb := (fun wz => .bool (nb wz (w.heap.size + 1)))) hP (Nat.le_refl _) (by simp) false (setsC_nb w.heap.size false) (nearC_nb (w.heap.size + 1))) (by simp) (by simp) false (setsC_nb (w.heap.size + 1) false) (nearC_nb w.heap.size)
          clear hK K hHeld
          have hHeld := hHeld2
          clear hHeld2
          (try simp only [List.getElem_toArray, List.getElem_cons_succ, List.getElem_cons_zero, Act.put, List.setIfInBounds_toArray, List.set_cons_zero, List.set_cons_succ])
          refine wpAnyH_done (by kernel_rfl) ?_ _
          refine NoPanic.normal ?_
          have hE := PairS.fin (pa := (fun wz => .bool (nb wz w.heap.size))) (pb := (fun wz => .bool (nb wz (w.heap.size + 1)))) hP (Nat.le_refl _) (by simp) (by simp) false false (setsC_nb w.heap.size false) (nearC_nb (w.heap.size + 1))
          clear hP hHeld
          revert hE
          generalize ((((((w5.setCell ⟨w.heap.size, 0, none⟩ (.bool false)).setCell ⟨w.heap.size, 1, none⟩ (.int .u64 0)).setCell ⟨w.heap.size, 2, none⟩ (.int .u64 0)).setCell ⟨(w.heap.size + 1), 0, none⟩ (.bool false)).setCell ⟨(w.heap.size + 1), 1, none⟩ (.int .u64 0)).setCell ⟨(w.heap.size + 1), 2, none⟩ (.int .u64 0)) = wf
          rintro ⟨e0, e1, e2, e3, e4, e5, e6, e7, e8⟩
          go_wp2_with fail
          refine (implOrder false 0 0 false 0 0 _).mono ?_
          rintro e w9 ⟨rfl, hB9⟩
          have HZ := Lib.hid (bt2 e8 hB9)
          clear hB9
          go_wp2_with fail
          go_ret
          exact ⟨rfl, HZ.out⟩
      · skip
        go_simp
        refine hK.out _ _ ?_ (fun hHeld2 => ?_)
        · with_reducible assumption
        clear hK K hHeld
        have hHeld := hHeld2
        clear hHeld2
        (try simp only [List.getElem_toArray, List.getElem_cons_succ, List.getElem_cons_zero, Act.put, List.setIfInBounds_toArray, List.set_cons_zero, List.set_cons_succ])
        refine wpAnyH_ready (rs := [2]) (by kernel_rfl) (by simp) ?_
        refine (AllReadyH.cons rfl (fun K hK => ?_) AllReadyH.nil)
        go_simp
        refine hK.out _ _ ?_ (fun hHeld2 => ?_)
        · with_reducible assumption
        clear hK K hHeld
        have hHeld := hHeld2
        clear hHeld2
        (try simp only [List.getElem_toArray, List.getElem_cons_succ, List.getElem_cons_zero, Act.put, List.setIfInBounds_toArray, List.set_cons_zero, List.set_cons_succ])
        refine wpAnyH_ready (rs := [3]) (by kernel_rfl) (by simp) ?_
        refine (AllReadyH.cons rfl (fun K hK => ?_) AllReadyH.nil)
        go_simp
        refine (withSignS w w.heap.size (w.heap.size + 1) (fun wz => .bool (nb wz w.heap.size)) (fun wz => .bool (nb wz (w.heap.size + 1))) 0 0 0 0 (keepsC_nb w.heap.size) (keepsC_nb (w.heap.size + 1)) _ _ 0 0 false (HA.out _) _ ?_).mono ?_
        · with_reducible assumption
        rintro e w5 ⟨rfl, hP⟩
        refine hK.out _ _ ?_ (fun hHeld2 => ?_)
        · exact hP
        clear hK K hHeld
        have hHeld := hHeld2
        clear hHeld2
        (try simp only [List.getElem_toArray, List.getElem_cons_succ, List.getElem_cons_zero, Act.put, List.setIfInBounds_toArray, List.set_cons_zero, List.set_cons_succ])
        refine wpAnyH_ready (rs := [7]) (by kernel_rfl) (by simp) ?_
        refine (AllReadyH.cons rfl (fun K hK => ?_) AllReadyH.nil)
        go_simp
        refine (withSignS w w.heap.size (w.heap.size + 1) (fun wz => .bool (nb wz w.heap.size)) (fun wz => .bool (nb wz (w.heap.size + 1))) 0 0 0 0 (keepsC_nb w.heap.size) (keepsC_nb (w.heap.size + 1)) _ _ 0 0 false (HC.out _) _ ?_).mono ?_
        · with_reducible assumption
        rintro e w5 ⟨rfl, hP⟩
        refine hK.out _ _ ?_ (fun hHeld2 => ?_)
        · exact hP
        clear hK K hHeld
        have hHeld := hHeld2
        clear hHeld2
        (try simp only [List.getElem_toArray, List.getElem_cons_succ, List.getElem_cons_zero, Act.put, List.setIfInBounds_toArray, List.set_cons_zero, List.set_cons_succ])
        refine wpAnyH_ready (rs := [8]) (by kernel_rfl) (by simp) ?_
        refine (AllReadyH.cons rfl (fun K hK => ?_) AllReadyH.nil)
        go_simp
        refine hK.out _ _ ?_ (fun hHeld2 => ?_)
        · exact PairS.setA (pa := (fun wz => .bool (nb wz w.heap.size))) (pb := (fun wz => .bool (nb wz (w.heap.size + 1)))) hP (Nat.le_refl _) (by simp) false (setsC_nb w.heap.size false) (nearC_nb (w.heap.size + 1))
        clear hK K hHeld
        have hHeld := hHeld2
        clear hHeld2
        (try simp only [List.getElem_toArray, List.getElem_cons_succ, List.getElem_cons_zero, Act.put, List.setIfInBounds_toArray, List.set_cons_zero, List.set_cons_succ])
        refine wpAnyH_ready (rs := [9]) (by kernel_rfl) (by simp) ?_
        refine (AllReadyH.cons rfl (fun K hK => ?_) AllReadyH.nil)
        go_simp
        refine hK.out _ _ ?_ (fun hHeld2 => ?_)
        · exact PairS.setB (pa := (fun wz => .bool (nb wz w.heap.size))) (pb := (fun wz => .bool (nb wz (w.heap.size + 1)))) (PairS.setA (pa := (fun wz => .bool (nb wz w.heap.size))) (pb := (fun wz => .bool (nb wz (w.heap.size + 1)))) hP (Nat.le_refl _) (by simp) false (setsC_nb w.heap.size false) (nearC_nb (w.heap.size + 1))) (by simp) (by simp) false (setsC_nb (w.heap.size + 1) false) (nearC_nb w.heap.size)
        clear hK K hHeld
        have hHeld := hHeld2
        clear hHeld2
        (try simp only [List.getElem_toArray, List.getElem_cons_succ, List.getElem_cons_zero, Act.put, List.setIfInBounds_toArray, List.set_cons_zero, List.set_cons_succ])
        refine wpAnyH_done (by kernel_rfl) ?_ _
        refine NoPanic.normal ?_
        have hE := PairS.fin (pa := (fun wz => .bool (nb wz w.heap.size))) (pb := (fun wz => .bool (nb wz (w.heap.size + 1)))) hP (Nat.le_refl _) (by simp) (by simp) false false (setsC_nb w.heap.size false) (nearC_nb (w.heap.size + 1))
        clear hP hHeld
        revert hE
        generalize ((((((w5.setCell ⟨w.heap.size, 0, none⟩ (.bool false)).setCell ⟨w.heap.size, 1, none⟩ (.int .u64 0)).setCell ⟨w.heap.size, 2, none⟩ (.int .u64 0)).setCell ⟨(w.heap.size + 1), 0, none⟩ (.bool false)).setCell ⟨(w.heap.size + 1), 1, none⟩ (.int .u64 0)).setCell ⟨(w.heap.size + 1), 2, none⟩ (.int .u64 0)) = wf
        rintro ⟨e0, e1, e2, e3, e4, e5, e6, e7, e8⟩
        go_wp2_with fail
        refine (implOrder false 0 0 false 0 0 _).mono ?_
        rintro e w9 ⟨rfl, hB9⟩
        have HZ := Lib.hid (bt2 e8 hB9)
        clear hB9
        go_wp2_with fail
        go_ret
        exact ⟨rfl, HZ.out⟩
    · skip
      go_simp
      refine hK.out _ _ ?_ (fun hHeld2 => ?_)
      · with_reducible assumption
      clear hK K hHeld
      have hHeld := hHeld2
      clear hHeld2
      (try simp only [List.getElem_toArray, List.getElem_cons_succ, List.getElem_cons_zero, Act.put, List.setIfInBounds_toArray, List.set_cons_zero, List.set_cons_succ])
      refine wpAnyH_ready (rs := [1, 6]) (by kernel_rfl) (by simp) ?_
      refine (AllReadyH.cons rfl (fun K hK => ?_) (AllReadyH.cons rfl (fun K hK => ?_) AllReadyH.nil))
      · skip
        go_simp
        refine hK.out _ _ ?_ (fun hHeld2 => ?_)
        · with_reducible assumption
        clear hK K hHeld
        have hHeld := hHeld2
        clear hHeld2
        (try simp only [List.getElem_toArray, List.getElem_cons_succ, List.getElem_cons_zero, Act.put, List.setIfInBounds_toArray, List.set_cons_zero, List.set_cons_succ])
        refine wpAnyH_ready (rs := [3, 6]) (by kernel_rfl) (by simp) ?_
        refine (AllReadyH.cons rfl (fun K hK => ?_) (AllReadyH.cons rfl (fun K hK => ?_) AllReadyH.nil))
        · skip
          go_simp
          refine (withSignS w w.heap.size (w.heap.size + 1) (fun wz => .bool (nb wz w.heap.size)) (fun wz => .bool (nb wz (w.heap.size + 1))) 0 0 0 0 (keepsC_nb w.heap.size) (keepsC_nb (w.heap.size + 1)) _ _ 0 0 false (HA.out _) _ ?_).mono ?_
          · with_reducible assumption
          rintro e w5 ⟨rfl, hP⟩
          refine hK.out _ _ ?_ (fun hHeld2 => ?_)
          · exact hP
          clear hK K hHeld
          have hHeld := hHeld2
          clear hHeld2
          (try simp only [List.getElem_toArray, List.getElem_cons_succ, List.getElem_cons_zero, Act.put, List.setIfInBounds_toArray, List.set_cons_zero, List.set_cons_succ])
          refine wpAnyH_ready (rs := [6]) (by kernel_rfl) (by simp) ?_
          refine (AllReadyH.cons rfl (fun K hK => ?_) AllReadyH.nil)
          go_simp
          refine hK.out _ _ ?_ (fun hHeld2 => ?_)
          · with_reducible assumption
          clear hK K hHeld
          have hHeld := hHeld2
          clear hHeld2
          (try simp only [List.getElem_toArray, List.getElem_cons_succ, List.getElem_cons_zero, Act.put, List.setIfInBounds_toArray, List.set_cons_zero, List.set_cons_succ])
          refine wpAnyH_ready (rs := [7]) (by kernel_rfl) (by simp) ?_
          refine (AllReadyH.cons rfl (fun K hK => ?_) AllReadyH.nil)
          go_simp
          refine (withSignS w w.heap.size (w.heap.size + 1) (fun wz => .bool (nb wz w.heap.size)) (fun wz => .bool (nb wz (w.heap.size + 1))) 0 0 0 0 (keepsC_nb w.heap.size) (keepsC_nb (w.heap.size + 1)) _ _ 0 0 false (HC.out _) _ ?_).mono ?_
          · with_reducible assumption
          rintro e w5 ⟨rfl, hP⟩
          refine hK.out _ _ ?_ (fun hHeld2 => ?_)
          · exact hP
          clear hK K hHeld
          have hHeld := hHeld2
          clear hHeld2
          (try simp only [List.getElem_toArray, List.getElem_cons_succ, List.getElem_cons_zero, Act.put, List.setIfInBounds_toArray, List.set_cons_zero, List.set_cons_succ])
          refine wpAnyH_ready (rs := [8]) (by kernel_rfl) (by simp) ?_
          refine (AllReadyH.cons rfl (fun K hK => ?_) AllReadyH.nil)
          go_simp
          refine hK.out _ _ ?_ (fun hHeld2 => ?_)
          · exact PairS.setA (pa := (fun wz => .bool (nb wz w.heap.size))) (pb := (fun wz => .bool (nb wz (w.heap.size + 1)))) hP (Nat.le_refl _) (by simp) false (setsC_nb w.heap.size false) (nearC_nb (w.heap.size + 1))
          clear hK K hHeld
          have hHeld := hHeld2
          clear hHeld2
          (try simp only [List.getElem_toArray, List.getElem_cons_succ, List.getElem_cons_zero, Act.put, List.setIfInBounds_toArray, List.set_cons_zero, List.set_cons_succ])
          refine wpAnyH_ready (rs := [9]) (by kernel_rfl) (by simp) ?_
          refine (AllReadyH.cons rfl (fun K hK => ?_) AllReadyH.nil)
          go_simp
          refine hK.out _ _ ?_ (fun hHeld2 => ?_)
          · exact PairS.setB (pa := (fun wz => .bool (nb wz w.heap.size))) (pb := (fun wz => .bool (nb wz (w.heap.size + 1)))) (PairS.setA (pa := (fun wz => .bool (nb wz w.heap.size))) (pb := (fun wz => .bool (nb wz (w.heap.size + 1)))) hP (Nat.le_refl _) (by simp) false (setsC_nb w.heap.size false) (nearC_nb (w.heap.size + 1))) (by simp) (by simp) false (setsC_nb (w.heap.size + 1) false) (nearC_nb w.heap.size)
          clear hK K hHeld
          have hHeld := hHeld2
          clear hHeld2
          (try simp only [List.getElem_toArray, List.getElem_cons_succ, List.getElem_cons_zero, Act.put, List.setIfInBounds_toArray, List.set_cons_zero, List.set_cons_succ])
          refine wpAnyH_done (by kernel_rfl) ?_ _
          refine NoPanic.normal ?_
          have hE := PairS.fin (pa := (fun wz => .bool (nb wz w.heap.size))) (pb := (fun wz => .bool (nb wz (w.heap.size + 1)))) hP (Nat.le_refl _) (by simp) (by simp) false false (setsC_nb w.heap.size false) (nearC_nb (w.heap.size + 1))
          clear hP hHeld
          revert hE
          generalize ((((((w5.setCell ⟨w.heap.size, 0, none⟩ (.bool false)).setCell ⟨w.heap.size, 1, none⟩ (.int .u64 0)).setCell ⟨w.heap.size, 2, none⟩ (.int .u64 0)).setCell ⟨(w.heap.size + 1), 0, none⟩ (.bool false)).setCell ⟨(w.heap.size + 1), 1, none⟩ (.int .u64 0)).setCell ⟨(w.heap.size + 1), 2, none⟩ (.int .u64 0)) = wf
          rintro ⟨e0, e1, e2, e3, e4, e5, e6, e7, e8⟩
          go_wp2_with fail
          refine (implOrder false 0 0 false 0 0 _).mono ?_
          rintro e w9 ⟨rfl, hB9⟩
          have HZ := Lib.hid (bt2 e8 hB9)
          clear hB9
          go_wp2_with fail
          go_ret
          exact ⟨rfl, HZ.out⟩
        · skip
          go_simp
          refine hK.out _ _ ?_ (fun hHeld2 => ?_)
          · with_reducible assumption
          clear hK K hHeld
          have hHeld := hHeld2
          clear hHeld2
          (try simp only [List.getElem_toArray, List.getElem_cons_succ, List.getElem_cons_zero, Act.put, List.setIfInBounds_toArray, List.set_cons_zero, List.set_cons_succ])
          refine wpAnyH_ready (rs := [3]) (by kernel_rfl) (by simp) ?_
          refine (AllReadyH.cons rfl (fun K hK => ?_) AllReadyH.nil)
          go_simp
          refine (withSignS w w.heap.size (w.heap.size + 1) (fun wz => .bool (nb wz w.heap.size)) (fun wz => .bool (nb wz (w.heap.size + 1))) 0 0 0 0 (keepsC_nb w.heap.size) (keepsC_nb (w.heap.size + 1)) _ _ 0 0 false (HA.out _) _ ?_).mono ?_
          · with_reducible assumption
          rintro e w5 ⟨rfl, hP⟩
          refine hK.out _ _ ?_ (fun hHeld2 => ?_)
          · exact hP
          clear hK K hHeld
          have hHeld := hHeld2
          clear hHeld2
          (try simp only [List.getElem_toArray, List.getElem_cons_succ, List.getElem_cons_zero, Act.put, List.setIfInBounds_toArray, List.set_cons_zero, List.set_cons_succ])
          refine wpAnyH_ready (rs := [7]) (by kernel_rfl) (by simp) ?_
          refine (AllReadyH.cons rfl (fun K hK => ?_) AllReadyH.nil)
          go_simp
          refine (withSignS w w.heap.size (w.heap.size + 1) (fun wz => .bool (nb wz w.heap.size)) (fun wz => .bool (nb wz (w.heap.size + 1))) 0 0 0 0 (keepsC_nb w.heap.size) (keepsC_nb (w.heap.size + 1)) _ _ 0 0 false (HC.out _) _ ?_).mono ?_
          · with_reducible assumption
          rintro e w5 ⟨rfl, hP⟩
          refine hK.out _ _ ?_ (fun hHeld2 => ?_)
          · exact hP
          clear hK K hHeld
          have hHeld := hHeld2
          clear hHeld2
          (try simp only [List.getElem_toArray, List.getElem_cons_succ, List.getElem_cons_zero, Act.put, List.setIfInBounds_toArray, List.set_cons_zero, List.set_cons_succ])
          refine wpAnyH_ready (rs := [8]) (by kernel_rfl) (by simp) ?_
          refine (AllReadyH.cons rfl (fun K hK => ?_) AllReadyH.nil)
          go_simp
          refine hK.out _ _ ?_ (fun hHeld2 => ?_)
          · exact PairS.setA (pa := (fun wz => .bool (nb wz w.heap.size))) (pb := (fun wz => .bool (nb wz (w.heap.size + 1)))) hP (Nat.le_refl _) (by simp) false (setsC_nb w.heap.size false) (nearC_nb (w.heap.size + 1))
          clear hK K hHeld
          have hHeld := hHeld2
          clear hHeld2
          (try simp only [List.getElem_toArray, List.getElem_cons_succ, List.getElem_cons_zero, Act.put, List.setIfInBounds_toArray, List.set_cons_zero, List.set_cons_succ])
          refine wpAnyH_ready (rs := [9]) (by kernel_rfl) (by simp) ?_
          refine (AllReadyH.cons rfl (fun K hK => ?_) AllReadyH.nil)
          go_simp
          refine hK.out _ _ ?_ (fun hHeld2 => ?_)
          · exact PairS.setB (pa := (fun wz => .bool (nb wz w.heap.size))) (pb := (fun wz => .bool (nb wz (w.heap.size + 1)))) (PairS.setA (pa := (fun wz => .bool (nb wz w.heap.size))) (pb := (fun wz => .bool (nb wz (w.heap.size + 1)))) hP (Nat.le_refl _) (by simp) false (setsC_nb w.heap.size false) (nearC_nb (w.heap.size + 1))) (by simp) (by simp) false (setsC_nb (w.heap.size + 1) false) (nearC_nb w.heap.size)
          clear hK K hHeld
          have hHeld := hHeld2
          clear hHeld2
          (try simp only [List.getElem_toArray, List.getElem_cons_succ, List.getElem_cons_zero, Act.put, List.setIfInBounds_toArray, List.set_cons_zero, List.set_cons_succ])
          refine wpAnyH_done (by kernel_rfl) ?_ _
          refine NoPanic.normal ?_
          have hE := PairS.fin (pa := (fun wz => .bool (nb wz w.heap.size))) (pb := (fun wz => .bool (nb wz (w.heap.size + 1)))) hP (Nat.le_refl _) (by simp) (by simp) false false (setsC_nb w.heap.size false) (nearC_nb (w.heap.size + 1))
          clear hP hHeld
          revert hE
          generalize ((((((w5.setCell ⟨w.heap.size, 0, none⟩ (.bool false)).setCell ⟨w.heap.size, 1, none⟩ (.int .u64 0)).setCell ⟨w.heap.size, 2, none⟩ (.int .u64 0)).setCell ⟨(w.heap.size + 1), 0, none⟩ (.bool false)).setCell ⟨(w.heap.size + 1), 1, none⟩ (.int .u64 0)).setCell ⟨(w.heap.size + 1), 2, none⟩ (.int .u64 0)) = wf
          rintro ⟨e0, e1, e2, e3, e4, e5, e6, e7, e8⟩
          go_wp2_with fail
          refine (implOrder false 0 0 false 0 0 _).mono ?_
          rintro e w9 ⟨rfl, hB9⟩
          have HZ := Lib.hid (bt2 e8 hB9)
          clear hB9
          go_wp2_with fail
          go_ret
          exact ⟨rfl, HZ.out⟩
      · skip
        go_simp
        refine hK.out _ _ ?_ (fun hHeld2 => ?_)
        · with_reducible assumption
        clear hK K hHeld
        have hHeld := hHeld2
        clear hHeld2
        (try simp only [List.getElem_toArray, List.getElem_cons_succ, List.getElem_cons_zero, Act.put, List.setIfInBounds_toArray, List.set_cons_zero, List.set_cons_succ])
        refine wpAnyH_ready (rs := [1]) (by kernel_rfl) (by simp) ?_
        refine (AllReadyH.cons rfl (fun K hK => ?_) AllReadyH.nil)
        go_simp
        refine hK.out _ _ ?_ (fun hHeld2 => ?_)
        · with_reducible assumption
        clear hK K hHeld
        have hHeld := hHeld2
        clear hHeld2
        (try simp only [List.getElem_toArray, List.getElem_cons_succ, List.getElem_cons_zero, Act.put, List.setIfInBounds_toArray, List.set_cons_zero, List.set_cons_succ])
        refine wpAnyH_ready (rs := [3]) (by kernel_rfl) (by simp) ?_
        refine (AllReadyH.cons rfl (fun K hK => ?_) AllReadyH.nil)
        go_simp
        refine (withSignS w w.heap.size (w.heap.size + 1) (fun wz => .bool (nb wz w.heap.size)) (fun wz => .bool (nb wz (w.heap.size + 1))) 0 0 0 0 (keepsC_nb w.heap.size) (keepsC_nb (w.heap.size + 1)) _ _ 0 0 false (HA.out _) _ ?_).mono ?_
        · with_reducible assumption
        rintro e w5 ⟨rfl, hP⟩
        refine hK.out _ _ ?_ (fun hHeld2 => ?_)
        · exact hP
        clear hK K hHeld
        have hHeld := hHeld2
        clear hHeld2
        (try simp only [List.getElem_toArray, List.getElem_cons_succ, List.getElem_cons_zero, Act.put, List.setIfInBounds_toArray, List.set_cons_zero, List.set_cons_succ])
        refine wpAnyH_ready (rs := [7]) (by kernel_rfl) (by simp) ?_
        refine (AllReadyH.cons rfl (fun K hK => ?_) AllReadyH.nil)
        go_simp
        refine (withSignS w w.heap.size (w.heap.size + 1) (fun wz => .bool (nb wz w.heap.size)) (fun wz => .bool (nb wz (w.heap.size + 1))) 0 0 0 0 (keepsC_nb w.heap.size) (keepsC_nb (w.heap.size + 1)) _ _ 0 0 false (HC.out _) _ ?_).mono ?_
        · with_reducible assumption
        rintro e w5 ⟨rfl, hP⟩
        refine hK.out _ _ ?_ (fun hHeld2 => ?_)
        · exact hP
        clear hK K hHeld
        have hHeld := hHeld2
        clear hHeld2
        (try simp only [List.getElem_toArray, List.getElem_cons_succ, List.getElem_cons_zero, Act.put, List.setIfInBounds_toArray, List.set_cons_zero, List.set_cons_succ])
        refine wpAnyH_ready (rs := [8]) (by kernel_rfl) (by simp) ?_
        refine (AllReadyH.cons rfl (fun K hK => ?_) AllReadyH.nil)
        go_simp
        refine hK.out _ _ ?_ (fun hHeld2 => ?_)
        · exact PairS.setA (pa := (fun wz => .bool (nb wz w.heap.size))) (pb := (fun wz => .bool (nb wz (w.heap.size + 1)))) hP (Nat.le_refl _) (by simp) false (setsC_nb w.heap.size false) (nearC_nb (w.heap.size + 1))
        clear hK K hHeld
        have hHeld := hHeld2
        clear hHeld2
        (try simp only [List.getElem_toArray, List.getElem_cons_succ, List.getElem_cons_zero, Act.put, List.setIfInBounds_toArray, List.set_cons_zero, List.set_cons_succ])
        refine wpAnyH_ready (rs := [9]) (by kernel_rfl) (by simp) ?_
        refine (AllReadyH.cons rfl (fun K hK => ?_) AllReadyH.nil)
        go_simp
        refine hK.out _ _ ?_ (fun hHeld2 => ?_)
        · exact PairS.setB (pa := (fun wz => .bool (nb wz w.heap.size))) (pb := (fun wz => .bool (nb wz (w.heap.size + 1)))) (PairS.setA (pa := (fun wz => .bool (nb wz w.heap.size))) (pb := (fun wz => .bool (nb wz (w.heap.size + 1)))) hP (Nat.le_refl _) (by simp) false (setsC_nb w.heap.size false) (nearC_nb (w.heap.size + 1))) (by simp) (by simp) false (setsC_nb (w.heap.size + 1) false) (nearC_nb w.heap.size)
        clear hK K hHeld
        have hHeld := hHeld2
        clear hHeld2
        (try simp only [List.getElem_toArray, List.getElem_cons_succ, List.getElem_cons_zero, Act.put, List.setIfInBounds_toArray, List.set_cons_zero, List.set_cons_succ])
        refine wpAnyH_done (by kernel_rfl) ?_ _
        refine NoPanic.normal ?_
        have hE := PairS.fin (pa := (fun wz => .bool (nb wz w.heap.size))) (pb := (fun wz => .bool (nb wz (w.heap.size + 1)))) hP (Nat.le_refl _) (by simp) (by simp) false false (setsC_nb w.heap.size false) (nearC_nb (w.heap.size + 1))
        clear hP hHeld
        revert hE
        generalize ((((((w5.setCell ⟨w.heap.size, 0, none⟩ (.bool false)).setCell ⟨w.heap.size, 1, none⟩ (.int .u64 0)).setCell ⟨w.heap.size, 2, none⟩ (.int .u64 0)).setCell ⟨(w.heap.size + 1), 0, none⟩ (.bool false)).setCell ⟨(w.heap.size + 1), 1, none⟩ (.int .u64 0)).setCell ⟨(w.heap.size + 1), 2, none⟩ (.int .u64 0)) = wf
        rintro ⟨e0, e1, e2, e3, e4, e5, e6, e7, e8⟩
        go_wp2_with fail
        refine (implOrder false 0 0 false 0 0 _).mono ?_
        rintro e w9 ⟨rfl, hB9⟩
        have HZ := Lib.hid (bt2 e8 hB9)
        clear hB9
        go_wp2_with fail
        go_ret
        exact ⟨rfl, HZ.out⟩
    · skip
      go_simp
      refine hK.out _ _ ?_ (fun hHeld2 => ?_)
      · with_reducible assumption
      clear hK K hHeld
      have hHeld := hHeld2
      clear hHeld2
      (try simp only [List.getElem_toArray, List.getElem_cons_succ, List.getElem_cons_zero, Act.put, List.setIfInBounds_toArray, List.set_cons_zero, List.set_cons_succ])
      refine wpAnyH_ready (rs := [1, 2]) (by kernel_rfl) (by simp) ?_
      refine (AllReadyH.cons rfl (fun K hK => ?_) (AllReadyH.cons rfl (fun K hK => ?_) AllReadyH.nil))
      · skip
        go_simp
        refine hK.out _ _ ?_ (fun hHeld2 => ?_)
        · with_reducible assumption
        clear hK K hHeld
        have hHeld := hHeld2
        clear hHeld2
        (try simp only [List.getElem_toArray, List.getElem_cons_succ, List.getElem_cons_zero, Act.put, List.setIfInBounds_toArray, List.set_cons_zero, List.set_cons_succ])
        refine wpAnyH_ready (rs := [2]) (by kernel_rfl) (by simp) ?_
        refine (AllReadyH.cons rfl (fun K hK => ?_) AllReadyH.nil)
        go_simp
        refine hK.out _ _ ?_ (fun hHeld2 => ?_)
        · with_reducible assumption
        clear hK K hHeld
        have hHeld := hHeld2
        clear hHeld2
        (try simp only [List.getElem_toArray, List.getElem_cons_succ, List.getElem_cons_zero, Act.put, List.setIfInBounds_toArray, List.set_cons_zero, List.set_cons_succ])
        refine wpAnyH_ready (rs := [3]) (by kernel_rfl) (by simp) ?_
        refine (AllReadyH.cons rfl (fun K hK => ?_) AllReadyH.nil)
        go_simp
        refine (withSignS w w.heap.size (w.heap.size + 1) (fun wz => .bool (nb wz w.heap.size)) (fun wz => .bool (nb wz (w.heap.size + 1))) 0 0 0 0 (keepsC_nb w.heap.size) (keepsC_nb (w.heap.size + 1)) _ _ 0 0 false (HA.out _) _ ?_).mono ?_
        · with_reducible assumption
        rintro e w5 ⟨rfl, hP⟩
        refine hK.out _ _ ?_ (fun hHeld2 => ?_)
        · exact hP
        clear hK K hHeld
        have hHeld := hHeld2
        clear hHeld2
        (try simp only [List.getElem_toArray, List.getElem_cons_succ, List.getElem_cons_zero, Act.put, List.setIfInBounds_toArray, List.set_cons_zero, List.set_cons_succ])
        refine wpAnyH_ready (rs := [7]) (by kernel_rfl) (by simp) ?_
        refine (AllReadyH.cons rfl (fun K hK => ?_) AllReadyH.nil)
        go_simp
        refine (withSignS w w.heap.size (w.heap.size + 1) (fun wz => .bool (nb wz w.heap.size)) (fun wz => .bool (nb wz (w.heap.size + 1))) 0 0 0 0 (keepsC_nb w.heap.size) (keepsC_nb (w.heap.size + 1)) _ _ 0 0 false (HC.out _) _ ?_).mono ?_
        · with_reducible assumption
        rintro e w5 ⟨rfl, hP⟩
        refine hK.out _ _ ?_ (fun hHeld2 => ?_)
        · exact hP
        clear hK K hHeld
        have hHeld := hHeld2
        clear hHeld2
        (try simp only [List.getElem_toArray, List.getElem_cons_succ, List.getElem_cons_zero, Act.put, List.setIfInBounds_toArray, List.set_cons_zero, List.set_cons_succ])
        refine wpAnyH_ready (rs := [8]) (by kernel_rfl) (by simp) ?_
        refine (AllReadyH.cons rfl (fun K hK => ?_) AllReadyH.nil)
        go_simp
        refine hK.out _ _ ?_ (fun hHeld2 => ?_)
        · exact PairS.setA (pa := (fun wz => .bool (nb wz w.heap.size))) (pb := (fun wz => .bool (nb wz (w.heap.size + 1)))) hP (Nat.le_refl _) (by simp) false (setsC_nb w.heap.size false) (nearC_nb (w.heap.size + 1))
        clear hK K hHeld
        have hHeld := hHeld2
        clear hHeld2
        (try simp only [List.getElem_toArray, List.getElem_cons_succ, List.getElem_cons_zero, Act.put, List.setIfInBounds_toArray, List.set_cons_zero, List.set_cons_succ])
        refine wpAnyH_ready (rs := [9]) (by kernel_rfl) (by simp) ?_
        refine (AllReadyH.cons rfl (fun K hK => ?_) AllReadyH.nil)
        go_simp
        refine hK.out _ _ ?_ (fun hHeld2 => ?_)
        · exact PairS.setB (pa := (fun wz => .bool (nb wz w.heap.size))) (pb := (fun wz => .bool (nb wz (w.heap.size + 1)))) (PairS.setA (pa := (fun wz => .bool (nb wz w.heap.size))) (pb := (fun wz => .bool (nb wz (w.heap.size + 1)))) hP (Nat.le_refl _) (by simp) false (setsC_nb w.heap.size false) (nearC_nb (w.heap.size + 1))) (by simp) (by simp) false (setsC_nb (w.heap.size + 1) false) (nearC_nb w.heap.size)
        clear hK K hHeld
        have hHeld := hHeld2
        clear hHeld2
        (try simp only [List.getElem_toArray, List.getElem_cons_succ, List.getElem_cons_zero, Act.put, List.setIfInBounds_toArray, List.set_cons_zero, List.set_cons_succ])
        refine wpAnyH_done (by kernel_rfl) ?_ _
        refine NoPanic.normal ?_
        have hE := PairS.fin (pa := (fun wz => .bool (nb wz w.heap.size))) (pb := (fun wz => .bool (nb wz (w.heap.size + 1)))) hP (Nat.le_refl _) (by simp) (by simp) false false (setsC_nb w.heap.size false) (nearC_nb (w.heap.size + 1))
        clear hP hHeld
        revert hE
        generalize ((((((w5.setCell ⟨w.heap.size, 0, none⟩ (.bool false)).setCell ⟨w.heap.size, 1, none⟩ (.int .u64 0)).setCell ⟨w.heap.size, 2, none⟩ (.int .u64 0)).setCell ⟨(w.heap.size + 1), 0, none⟩ (.bool false)).setCell ⟨(w.heap.size + 1), 1, none⟩ (.int .u64 0)).setCell ⟨(w.heap.size + 1), 2, none⟩ (.int .u64 0)) = wf
        rintro ⟨e0, e1, e2, e3, e4, e5, e6, e7, e8⟩
        go_wp2_with fail
        refine (implOrder false 0 0 false 0 0 _).mono ?_
        rintro e w9 ⟨rfl, hB9⟩
        have HZ := Lib.hid (bt2 e8 hB9)
        clear hB9
        go_wp2_with fail
        go_ret
        exact ⟨rfl, HZ.out⟩
      · skip
        go_simp
        refine hK.out _ _ ?_ (fun hHeld2 => ?_)
        · with_reducible assumption
        clear hK K hHeld
        have hHeld := hHeld2
        clear hHeld2
        (try simp only [List.getElem_toArray, List.getElem_cons_succ, List.getElem_cons_zero, Act.put, List.setIfInBounds_toArray, List.set_cons_zero, List.set_cons_succ])
        refine wpAnyH_ready (rs := [1]) (by kernel_rfl) (by simp) ?_
        refine (AllReadyH.cons rfl (fun K hK => ?_) AllReadyH.nil)
        go_simp
        refine hK.out _ _ ?_ (fun hHeld2 => ?_)
        · with_reducible assumption
        clear hK K hHeld
        have hHeld := hHeld2
        clear hHeld2
        (try simp only [List.getElem_toArray, List.getElem_cons_succ, List.getElem_cons_zero, Act.put, List.setIfInBounds_toArray, List.set_cons_zero, List.set_cons_succ])
        refine wpAnyH_ready (rs := [3]) (by kernel_rfl) (by simp) ?_
        refine (AllReadyH.cons rfl (fun K hK => ?_) AllReadyH.nil)
        go_simp
        refine (withSignS w w.heap.size (w.heap.size + 1) (fun wz => .bool (nb wz w.heap.size)) (fun wz => .bool (nb wz (w.heap.size + 1))) 0 0 0 0 (keepsC_nb w.heap.size) (keepsC_nb (w.heap.size + 1)) _ _ 0 0 false (HA.out _) _ ?_).mono ?_
        · with_reducible assumption
        rintro e w5 ⟨rfl, hP⟩
        refine hK.out _ _ ?_ (fun hHeld2 => ?_)
        · exact hP
        clear hK K hHeld
        have hHeld := hHeld2
        clear hHeld2
        (try simp only [List.getElem_toArray, List.getElem_cons_succ, List.getElem_cons_zero, Act.put, List.setIfInBounds_toArray, List.set_cons_zero, List.set_cons_succ])
        refine wpAnyH_ready (rs := [7]) (by kernel_rfl) (by simp) ?_
        refine (AllReadyH.cons rfl (fun K hK => ?_) AllReadyH.nil)
        go_simp
        refine (withSignS w w.heap.size (w.heap.size + 1) (fun wz => .bool (nb wz w.heap.size)) (fun wz => .bool (nb wz (w.heap.size + 1))) 0 0 0 0 (keepsC_nb w.heap.size) (keepsC_nb (w.heap.size + 1)) _ _ 0 0 false (HC.out _) _ ?_).mono ?_
        · with_reducible assumption
        rintro e w5 ⟨rfl, hP⟩
        refine hK.out _ _ ?_ (fun hHeld2 => ?_)
        · exact hP
        clear hK K hHeld
        have hHeld := hHeld2
        clear hHeld2
        (try simp only [List.getElem_toArray, List.getElem_cons_succ, List.getElem_cons_zero, Act.put, List.setIfInBounds_toArray, List.set_cons_zero, List.set_cons_succ])
        refine wpAnyH_ready (rs := [8]) (by kernel_rfl) (by simp) ?_
        refine (AllReadyH.cons rfl (fun K hK => ?_) AllReadyH.nil)
        go_simp
        refine hK.out _ _ ?_ (fun hHeld2 => ?_)
        · exact PairS.setA (pa := (fun wz => .bool (nb wz w.heap.size))) (pb := (fun wz => .bool (nb wz (w.heap.size + 1)))) hP (Nat.le_refl _) (by simp) false (setsC_nb w.heap.size false) (nearC_nb (w.heap.size + 1))
        clear hK K hHeld
        have hHeld := hHeld2
        clear hHeld2
        (try simp only [List.getElem_toArray, List.getElem_cons_succ, List.getElem_cons_zero, Act.put, List.setIfInBounds_toArray, List.set_cons_zero, List.set_cons_succ])
        refine wpAnyH_ready (rs := [9]) (by kernel_rfl) (by simp) ?_
        refine (AllReadyH.cons rfl (fun K hK => ?_) AllReadyH.nil)
        go_simp
        refine hK.out _ _ ?_ (fun hHeld2 => ?_)
        · exact PairS.setB (pa := (fun wz => .bool (nb wz w.heap.size))) (pb := (fun wz => .bool (nb wz (w.heap.size + 1)))) (PairS.setA (pa := (fun wz => .bool (nb wz w.heap.size))) (pb := (fun wz => .bool (nb wz (w.heap.size + 1)))) hP (Nat.le_refl _) (by simp) false (setsC_nb w.heap.size false) (nearC_nb (w.heap.size + 1))) (by simp) (by simp) false (setsC_nb (w.heap.size + 1) false) (nearC_nb w.heap.size)
        clear hK K hHeld
        have hHeld := hHeld2
        clear hHeld2
        (try simp only [List.getElem_toArray, List.getElem_cons_succ, List.getElem_cons_zero, Act.put, List.setIfInBounds_toArray, List.set_cons_zero, List.set_cons_succ])
        refine wpAnyH_done (by kernel_rfl) ?_ _
        refine NoPanic.normal ?_
        have hE := PairS.fin (pa := (fun wz => .bool (nb wz w.heap.size))) (pb := (fun wz => .bool (nb wz (w.heap.size + 1)))) hP (Nat.le_refl _) (by simp) (by simp) false false (setsC_nb w.heap.size false) (nearC_nb (w.heap.size + 1))
        clear hP hHeld
        revert hE
        generalize ((((((w5.setCell ⟨w.heap.size, 0, none⟩ (.bool false)).setCell ⟨w.heap.size, 1, none⟩ (.int .u64 0)).setCell ⟨w.heap.size, 2, none⟩ (.int .u64 0)).setCell ⟨(w.heap.size + 1), 0, none⟩ (.bool false)).setCell ⟨(w.heap.size + 1), 1, none⟩ (.int .u64 0)).setCell ⟨(w.heap.size + 1), 2, none⟩ (.int .u64 0)) = wf
        rintro ⟨e0, e1, e2, e3, e4, e5, e6, e7, e8⟩
        go_wp2_with fail
        refine (implOrder false 0 0 false 0 0 _).mono ?_
        rintro e w9 ⟨rfl, hB9⟩
        have HZ := Lib.hid (bt2 e8 hB9)
        clear hB9
        go_wp2_with fail
        go_ret
        exact ⟨rfl, HZ.out⟩
  · skip
    go_simp
    refine hK.out _ _ ?_ (fun hHeld2 => ?_)
    · with_reducible assumption
    clear hK K hHeld
    have hHeld := hHeld2
    clear hHeld2
    (try simp only [List.getElem_toArray, List.getElem_cons_succ, List.getElem_cons_zero, Act.put, List.setIfInBounds_toArray, List.set_cons_zero, List.set_cons_succ])
    refine wpAnyH_ready (rs := [1, 2, 5]) (by kernel_rfl) (by simp) ?_
    refine (AllReadyH.cons rfl (fun K hK => ?_) (AllReadyH.cons rfl (fun K hK => ?_) (AllReadyH.cons rfl (fun K hK => ?_) AllReadyH.nil)))
    · skip
      go_simp
      refine hK.out _ _ ?_ (fun hHeld2 => ?_)
      · with_reducible assumption
      clear hK K hHeld
      have hHeld := hHeld2
      clear hHeld2
      (try simp only [List.getElem_toArray, List.getElem_cons_succ, List.getElem_cons_zero, Act.put, List.setIfInBounds_toArray, List.set_cons_zero, List.set_cons_succ])
      refine wpAnyH_ready (rs := [2, 5]) (by kernel_rfl) (by simp) ?_
      refine (AllReadyH.cons rfl (fun K hK => ?_) (AllReadyH.cons rfl (fun K hK => ?_) AllReadyH.nil))
      · skip
        go_simp
        refine hK.out _ _ ?_ (fun hHeld2 => ?_)
        · with_reducible assumption
        clear hK K hHeld
        have hHeld := hHeld2
        clear hHeld2
        (try simp only [List.getElem_toArray, List.getElem_cons_succ, List.getElem_cons_zero, Act.put, List.setIfInBounds_toArray, List.set_cons_zero, List.set_cons_succ])
        refine wpAnyH_ready (rs := [3, 5]) (by kernel_rfl) (by simp) ?_
        refine (AllReadyH.cons rfl (fun K hK => ?_) (AllReadyH.cons rfl (fun K hK => ?_) AllReadyH.nil))
        · skip
          go_simp
          refine (withSignS w w.heap.size (w.heap.size + 1) (fun wz => .bool (nb wz w.heap.size)) (fun wz => .bool (nb wz (w.heap.size + 1))) 0 0 0 0 (keepsC_nb w.heap.size) (keepsC_nb (w.heap.size + 1)) _ _ 0 0 false (HA.out _) _ ?_).mono ?_
          · with_reducible assumption
          rintro e w5 ⟨rfl, hP⟩
          refine hK.out _ _ ?_ (fun hHeld2 => ?_)
          · exact hP
          clear hK K hHeld
          have hHeld := hHeld2
          clear hHeld2
          (try simp only [List.getElem_toArray, List.getElem_cons_succ, List.getElem_cons_zero, Act.put, List.setIfInBounds_toArray, List.set_cons_zero, List.set_cons_succ])
          refine wpAnyH_ready (rs := [5]) (by kernel_rfl) (by simp) ?_
          refine (AllReadyH.cons rfl (fun K hK => ?_) AllReadyH.nil)
          go_simp
          refine hK.out _ _ ?_ (fun hHeld2 => ?_)
          · with_reducible assumption
          clear hK K hHeld
          have hHeld := hHeld2
          clear hHeld2
          (try simp only [List.getElem_toArray, List.getElem_cons_succ, List.getElem_cons_zero, Act.put, List.setIfInBounds_toArray, List.set_cons_zero, List.set_cons_succ])
          refine wpAnyH_ready (rs := [7]) (by kernel_rfl) (by simp) ?_
          refine (AllReadyH.cons rfl (fun K hK => ?_) AllReadyH.nil)
          go_simp
          refine (withSignS w w.heap.size (w.heap.size + 1) (fun wz => .bool (nb wz w.heap.size)) (fun wz => .bool (nb wz (w.heap.size + 1))) 0 0 0 0 (keepsC_nb w.heap.size) (keepsC_nb (w.heap.size + 1)) _ _ 0 0 false (HC.out _) _ ?_).mono ?_
          · with_reducible assumption
          rintro e w5 ⟨rfl, hP⟩
          refine hK.out _ _ ?_ (fun hHeld2 => ?_)
          · exact hP
          clear hK K hHeld
          have hHeld := hHeld2
          clear hHeld2
          (try simp only [List.getElem_toArray, List.getElem_cons_succ, List.getElem_cons_zero, Act.put, List.setIfInBounds_toArray, List.set_cons_zero, List.set_cons_succ])
          refine wpAnyH_ready (rs := [8]) (by kernel_rfl) (by simp) ?_
          refine (AllReadyH.cons rfl (fun K hK => ?_) AllReadyH.nil)
          go_simp
          refine hK.out _ _ ?_ (fun hHeld2 => ?_)
          · exact PairS.setA (pa := (fun wz => .bool (nb wz w.heap.size))) (pb := (fun wz => .bool (nb wz (w.heap.size + 1)))) hP (Nat.le_refl _) (by simp) false (setsC_nb w.heap.size false) (nearC_nb (w.heap.size + 1))
          clear hK K hHeld
          have hHeld := hHeld2
          clear hHeld2
          (try simp only [List.getElem_toArray, List.getElem_cons_succ, List.getElem_cons_zero, Act.put, List.setIfInBounds_toArray, List.set_cons_zero, List.set_cons_succ])
          refine wpAnyH_ready (rs := [9]) (by kernel_rfl) (by simp) ?_
          refine (AllReadyH.cons rfl (fun K hK => ?_) AllReadyH.nil)
          go_simp
          refine hK.out _ _ ?_ (fun hHeld2 => ?_)
          · exact PairS.setB (pa := (fun wz => .bool (nb wz w.heap.size))) (pb := (fun wz => .bool (nb wz (w.heap.size + 1)))) (PairS.setA (pa := (fun wz => .bool (nb wz w.heap.size))) (pb := (fun wz => .bool (nb wz (w.heap.size + 1)))) hP (Nat.le_refl _) (by simp) false (setsC_nb w.heap.size false) (nearC_nb (w.heap.size + 1))) (by simp) (by simp) false (setsC_nb (w.heap.size + 1) false) (nearC_nb w.heap.size)
          clear hK K hHeld
          have hHeld := hHeld2
          clear hHeld2
          (try simp only [List.getElem_toArray, List.getElem_cons_succ, List.getElem_cons_zero, Act.put, List.setIfInBounds_toArray, List.set_cons_zero, List.set_cons_succ])
          refine wpAnyH_done (by kernel_rfl) ?_ _
          refine NoPanic.normal ?_
          have hE := PairS.fin (pa := (fun wz => .bool (nb wz w.heap.size))) (pb := (fun wz => .bool (nb wz (w.heap.size + 1)))) hP (Nat.le_refl _) (by simp) (by simp) false false (setsC_nb w.heap.size false) (nearC_nb (w.heap.size + 1))
          clear hP hHeld
          revert hE
          generalize ((((((w5.setCell ⟨w.heap.size, 0, none⟩ (.bool false)).setCell ⟨w.heap.size, 1, none⟩ (.int .u64 0)).setCell ⟨w.heap.size, 2, none⟩ (.int .u64 0)).setCell ⟨(w.heap.size + 1), 0, none⟩ (.bool false)).setCell ⟨(w.heap.size + 1), 1, none⟩ (.int .u64 0)).setCell ⟨(w.heap.size + 1), 2, none⟩ (.int .u64 0)) = wf
          rintro ⟨e0, e1, e2, e3, e4, e5, e6, e7, e8⟩
          go_wp2_with fail
          refine (implOrder false 0 0 false 0 0 _).mono ?_
          rintro e w9 ⟨rfl, hB9⟩
          have HZ := Lib.hid (bt2 e8 hB9)
          clear hB9
          go_wp2_with fail
          go_ret
          exact ⟨rfl, HZ.out⟩
        · skip
          go_simp
          refine hK.out _ _ ?_ (fun hHeld2 => ?_)
          · with_reducible assumption
          clear hK K hHeld
          have hHeld := hHeld2
          clear hHeld2
          (try simp only [List.getElem_toArray, List.getElem_cons_succ, List.getElem_cons_zero, Act.put, List.setIfInBounds_toArray, List.set_cons_zero, List.set_cons_succ])
          refine wpAnyH_ready (rs := [3]) (by kernel_rfl) (by simp) ?_
          refine (AllReadyH.cons rfl (fun K hK => ?_) AllReadyH.nil)
          go_simp
          refine (withSignS w w.heap.size (w.heap.size + 1) (fun wz => .bool (nb wz w.heap.size)) (fun wz => .bool (nb wz (w.heap.size + 1))) 0 0 0 0 (keepsC_nb w.heap.size) (keepsC_nb (w.heap.size + 1)) _ _ 0 0 false (HA.out _) _ ?_).mono ?_
          · with_reducible assumption
          rintro e w5 ⟨rfl, hP⟩
          refine hK.out _ _ ?_ (fun hHeld2 => ?_)
          · exact hP
          clear hK K hHeld
          have hHeld := hHeld2
          clear hHeld2
          (try simp only [List.getElem_toArray, List.getElem_cons_succ, List.getElem_cons_zero, Act.put, List.setIfInBounds_toArray, List.set_cons_zero, List.set_cons_succ])
          refine wpAnyH_ready (rs := [7]) (by kernel_rfl) (by simp) ?_
          refine (AllReadyH.cons rfl (fun K hK => ?_) AllReadyH.nil)
          go_simp
          refine (withSignS w w.heap.size (w.heap.size + 1) (fun wz => .bool (nb wz w.heap.size)) (fun wz => .bool (nb wz (w.heap.size + 1))) 0 0 0 0 (keepsC_nb w.heap.size) (keepsC_nb (w.heap.size + 1)) _ _ 0 0 false (HC.out _) _ ?_).mono ?_
          · with_reducible assumption
          rintro e w5 ⟨rfl, hP⟩
          refine hK.out _ _ ?_ (fun hHeld2 => ?_)
          · exact hP
          clear hK K hHeld
          have hHeld := hHeld2
          clear hHeld2
          (try simp only [List.getElem_toArray, List.getElem_cons_succ, List.getElem_cons_zero, Act.put, List.setIfInBounds_toArray, List.set_cons_zero, List.set_cons_succ])
          refine wpAnyH_ready (rs := [8]) (by kernel_rfl) (by simp) ?_
          refine (AllReadyH.cons rfl (fun K hK => ?_) AllReadyH.nil)
          go_simp
          refine hK.out _ _ ?_ (fun hHeld2 => ?_)
          · exact PairS.setA (pa := (fun wz => .bool (nb wz w.heap.size))) (pb := (fun wz => .bool (nb wz (w.heap.size + 1)))) hP (Nat.le_refl _) (by simp) false (setsC_nb w.heap.size false) (nearC_nb (w.heap.size + 1))
          clear hK K hHeld
          have hHeld := hHeld2
          clear hHeld2
          (try simp only [List.getElem_toArray, List.getElem_cons_succ, List.getElem_cons_zero, Act.put, List.setIfInBounds_toArray, List.set_cons_zero, List.set_cons_succ])
          refine wpAnyH_ready (rs := [9]) (by kernel_rfl) (by simp) ?_
          refine (AllReadyH.cons rfl (fun K hK => ?_) AllReadyH.nil)
          go_simp
          refine hK.out _ _ ?_ (fun hHeld2 => ?_)
          · exact PairS.setB (pa := (fun wz => .bool (nb wz w.heap.size))) (pb := (fun wz => .bool (nb wz (w.heap.size + 1)))) (PairS.setA (pa := (fun wz => .bool (nb wz w.heap.size))) (pb := (fun wz => .bool (nb wz (w.heap.size + 1)))) hP (Nat.le_refl _) (by simp) false (setsC_nb w.heap.size false) (nearC_nb (w.heap.size + 1))) (by simp) (by simp) false (setsC_nb (w.heap.size + 1) false) (nearC_nb w.heap.size)
          clear hK K hHeld
          have hHeld := hHeld2
          clear hHeld2
          (try simp only [List.getElem_toArray, List.getElem_cons_succ, List.getElem_cons_zero, Act.put, List.setIfInBounds_toArray, List.set_cons_zero, List.set_cons_succ])
          refine wpAnyH_done (by kernel_rfl) ?_ _
          refine NoPanic.normal ?_
          have hE := PairS.fin (pa := (fun wz => .bool (nb wz w.heap.size))) (pb := (fun wz => .bool (nb wz (w.heap.size + 1)))) hP (Nat.le_refl _) (by simp) (by simp) false false (setsC_nb w.heap.size false) (nearC_nb (w.heap.size + 1))
          clear hP hHeld
          revert hE
          generalize ((((((w5.setCell ⟨w.heap.size, 0, none⟩ (.bool false)).setCell ⟨w.heap.size, 1, none⟩ (.int .u64 0)).setCell ⟨w.heap.size, 2, none⟩ (.int .u64 0)).setCell ⟨(w.heap.size + 1), 0, none⟩ (.bool false)).setCell ⟨(w.heap.size + 1), 1, none⟩ (.int .u64 0)).setCell ⟨(w.heap.size + 1), 2, none⟩ (.int .u64 0)) = wf
          rintro ⟨e0, e1, e2, e3, e4, e5, e6, e7, e8⟩
          go_wp2_with fail
          refine (implOrder false 0 0 false 0 0 _).mono ?_
          rintro e w9 ⟨rfl, hB9⟩
          have HZ := Lib.hid (bt2 e8 hB9)
          clear hB9
          go_wp2_with fail
          go_ret
          exact ⟨rfl, HZ.out⟩
      · skip
        go_simp
        refine hK.out _ _ ?_ (fun hHeld2 => ?_)
        · with_reducible assumption
        clear hK K hHeld
        have hHeld := hHeld2
        clear hHeld2
        (try simp only [List.getElem_toArray, List.getElem_cons_succ, List.getElem_cons_zero, Act.put, List.setIfInBounds_toArray, List.set_cons_zero, List.set_cons_succ])
        refine wpAnyH_ready (rs := [2]) (by kernel_rfl) (by simp) ?_
        refine (AllReadyH.cons rfl (fun K hK => ?_) AllReadyH.nil)
        go_simp
        refine hK.out _ _ ?_ (fun hHeld2 => ?_)
        · with_reducible assumption
        clear hK K hHeld
        have hHeld := hHeld2
        clear hHeld2
        (try simp only [List.getElem_toArray, List.getElem_cons_succ, List.getElem_cons_zero, Act.put, List.setIfInBounds_toArray, List.set_cons_zero, List.set_cons_succ])
        refine wpAnyH_ready (rs := [3]) (by kernel_rfl) (by simp) ?_
        refine (AllReadyH.cons rfl (fun K hK => ?_) AllReadyH.nil)
        go_simp
        refine (withSignS w w.heap.size (w.heap.size + 1) (fun wz => .bool (nb wz w.heap.size)) (fun wz => .bool (nb wz (w.heap.size + 1))) 0 0 0 0 (keepsC_nb w.heap.size) (keepsC_nb (w.heap.size + 1)) _ _ 0 0 false (HA.out _) _ ?_).mono ?_
        · with_reducible assumption
        rintro e w5 ⟨rfl, hP⟩
        refine hK.out _ _ ?_ (fun hHeld2 => ?_)
        · exact hP
        clear hK K hHeld
        have hHeld := hHeld2
        clear hHeld2
        (try simp only [List.getElem_toArray, List.getElem_cons_succ, List.getElem_cons_zero, Act.put, List.setIfInBounds_toArray, List.set_cons_zero, List.set_cons_succ])
        refine wpAnyH_ready (rs := [7]) (by kernel_rfl) (by simp) ?_
        refine (AllReadyH.cons rfl (fun K hK => ?_) AllReadyH.nil)
        go_simp
        refine (withSignS w w.heap.size (w.heap.size + 1) (fun wz => .bool (nb wz w.heap.size)) (fun wz => .bool (nb wz (w.heap.size + 1))) 0 0 0 0 (keepsC_nb w.heap.size) (keepsC_nb (w.heap.size + 1)) _ _ 0 0 false (HC.out _) _ ?_).mono ?_
        · with_reducible assumption
        rintro e w5 ⟨rfl, hP⟩
        refine hK.out _ _ ?_ (fun hHeld2 => ?_)
        · exact hP
        clear hK K hHeld
        have hHeld := hHeld2
        clear hHeld2
        (try simp only [List.getElem_toArray, List.getElem_cons_succ, List.getElem_cons_zero, Act.put, List.setIfInBounds_toArray, List.set_cons_zero, List.set_cons_succ])
        refine wpAnyH_ready (rs := [8]) (by kernel_rfl) (by simp) ?_
        refine (AllReadyH.cons rfl (fun K hK => ?_) AllReadyH.nil)
        go_simp
        refine hK.out _ _ ?_ (fun hHeld2 => ?_)
        · exact PairS.setA (pa := (fun wz => .bool (nb wz w.heap.size))) (pb := (fun wz => .bool (nb wz (w.heap.size + 1)))) hP (Nat.le_refl _) (by simp) false (setsC_nb w.heap.size false) (nearC_nb (w.heap.size + 1))
        clear hK K hHeld
        have hHeld := hHeld2
        clear hHeld2
        (try simp only [List.getElem_toArray, List.getElem_cons_succ, List.getElem_cons_zero, Act.put, List.setIfInBounds_toArray, List.set_cons_zero, List.set_cons_succ])
        refine wpAnyH_ready (rs := [9]) (by kernel_rfl) (by simp) ?_
        refine (AllReadyH.cons rfl (fun K hK => ?_) AllReadyH.nil)
        go_simp
        refine hK.out _ _ ?_ (fun hHeld2 => ?_)
        · exact PairS.setB (pa := (fun wz => .bool (nb wz w.heap.size))) (pb := (fun wz => .bool (nb wz (w.heap.size + 1)))) (PairS.setA (pa := (fun wz => .bool (nb wz w.heap.size))) (pb := (fun wz => .bool (nb wz (w.heap.size + 1)))) hP (Nat.le_refl _) (by simp) false (setsC_nb w.heap.size false) (nearC_nb (w.heap.size + 1))) (by simp) (by simp) false (setsC_nb (w.heap.size + 1) false) (nearC_nb w.heap.size)
        clear hK K hHeld
        have hHeld := hHeld2
        clear hHeld2
        (try simp only [List.getElem_toArray, List.getElem_cons_succ, List.getElem_cons_zero, Act.put, List.setIfInBounds_toArray, List.set_cons_zero, List.set_cons_succ])
        refine wpAnyH_done (by kernel_rfl) ?_ _
        refine NoPanic.normal ?_
        have hE := PairS.fin (pa := (fun wz => .bool (nb wz w.heap.size))) (pb := (fun wz => .bool (nb wz (w.heap.size + 1)))) hP (Nat.le_refl _) (by simp) (by simp) false false (setsC_nb w.heap.size false) (nearC_nb (w.heap.size + 1))
        clear hP hHeld
        revert hE
        generalize ((((((w5.setCell ⟨w.heap.size, 0, none⟩ (.bool false)).setCell ⟨w.heap.size, 1, none⟩ (.int .u64 0)).setCell ⟨w.heap.size, 2, none⟩ (.int .u64 0)).setCell ⟨(w.heap.size + 1), 0, none⟩ (.bool false)).setCell ⟨(w.heap.size + 1), 1, none⟩ (.int .u64 0)).setCell ⟨(w.heap.size + 1), 2, none⟩ (.int .u64 0)) = wf
        rintro ⟨e0, e1, e2, e3, e4, e5, e6, e7, e8⟩
        go_wp2_with fail
        refine (implOrder false 0 0 false 0 0 _).mono ?_
        rintro e w9 ⟨rfl, hB9⟩
        have HZ := Lib.hid (bt2 e8 hB9)
        clear hB9
        go_wp2_with fail
        go_ret
        exact ⟨rfl, HZ.out⟩
    · skip
      go_simp
      refine hK.out _ _ ?_ (fun hHeld2 => ?_)
      · with_reducible assumption
      clear hK K hHeld
      have hHeld := hHeld2
      clear hHeld2
      (try simp only [List.getElem_toArray, List.getElem_cons_succ, List.getElem_cons_zero, Act.put, List.setIfInBounds_toArray, List.set_cons_zero, List.set_cons_succ])
      refine wpAnyH_ready (rs := [1, 5]) (by kernel_rfl) (by simp) ?_
      refine (AllReadyH.cons rfl (fun K hK => ?_) (AllReadyH.cons rfl (fun K hK => ?_) AllReadyH.nil))
      · skip
        go_simp
        refine hK.out _ _ ?_ (fun hHeld2 => ?_)
        · with_reducible assumption
        clear hK K hHeld
        have hHeld := hHeld2
        clear hHeld2
        (try simp only [List.getElem_toArray, List.getElem_cons_succ, List.getElem_cons_zero, Act.put, List.setIfInBounds_toArray, List.set_cons_zero, List.set_cons_succ])
        refine wpAnyH_ready (rs := [3, 5]) (by kernel_rfl) (by simp) ?_
        refine (AllReadyH.cons rfl (fun K hK => ?_) (AllReadyH.cons rfl (fun K hK => ?_) AllReadyH.nil))
        · skip
          go_simp
          refine (withSignS w w.heap.size (w.heap.size + 1) (fun wz => .bool (nb wz w.heap.size)) (fun wz => .bool (nb wz (w.heap.size + 1))) 0 0 0 0 (keepsC_nb w.heap.size) (keepsC_nb (w.heap.size + 1)) _ _ 0 0 false (HA.out _) _ ?_).mono ?_
          · with_reducible assumption
          rintro e w5 ⟨rfl, hP⟩
          refine hK.out _ _ ?_ (fun hHeld2 => ?_)
          · exact hP
          clear hK K hHeld
          have hHeld := hHeld2
          clear hHeld2
          (try simp only [List.getElem_toArray, List.getElem_cons_succ, List.getElem_cons_zero, Act.put, List.setIfInBounds_toArray, List.set_cons_zero, List.set_cons_succ])
          refine wpAnyH_ready (rs := [5]) (by kernel_rfl) (by simp) ?_
          refine (AllReadyH.cons rfl (fun K hK => ?_) AllReadyH.nil)
          go_simp
          refine hK.out _ _ ?_ (fun hHeld2 => ?_)
          · with_reducible assumption
          clear hK K hHeld
          have hHeld := hHeld2
          clear hHeld2
          (try simp only [List.getElem_toArray, List.getElem_cons_succ, List.getElem_cons_zero, Act.put, List.setIfInBounds_toArray, List.set_cons_zero, List.set_cons_succ])
          refine wpAnyH_ready (rs := [7]) (by kernel_rfl) (by simp) ?_
          refine (AllReadyH.cons rfl (fun K hK => ?_) AllReadyH.nil)
          go_simp
          refine (withSignS w w.heap.size (w.heap.size + 1) (fun wz => .bool (nb wz w.heap.size)) (fun wz => .bool (nb wz (w.heap.size + 1))) 0 0 0 0 (keepsC_nb w.heap.size) (keepsC_nb (w.heap.size + 1)) _ _ 0 0 false (HC.out _) _ ?_).mono ?_
          · with_reducible assumption
          rintro e w5 ⟨rfl, hP⟩
          refine hK.out _ _ ?_ (fun hHeld2 => ?_)
          · exact hP
          clear hK K hHeld
          have hHeld := hHeld2
          clear hHeld2
          (try simp only [List.getElem_toArray, List.getElem_cons_succ, List.getElem_cons_zero, Act.put, List.setIfInBounds_toArray, List.set_cons_zero, List.set_cons_succ])
          refine wpAnyH_ready (rs := [8]) (by kernel_rfl) (by simp) ?_
          refine (AllReadyH.cons rfl (fun K hK => ?_) AllReadyH.nil)
          go_simp
          refine hK.out _ _ ?_ (fun hHeld2 => ?_)
          · exact PairS.setA (pa := (fun wz => .bool (nb wz w.heap.size))) (pb := (fun wz => .bool (nb wz (w.heap.size + 1)))) hP (Nat.le_refl _) (by simp) false (setsC_nb w.heap.size false) (nearC_nb (w.heap.size + 1))
          clear hK K hHeld
          have hHeld := hHeld2
          clear hHeld2
          (try simp only [List.getElem_toArray, List.getElem_cons_succ, List.getElem_cons_zero, Act.put, List.setIfInBounds_toArray, List.set_cons_zero, List.set_cons_succ])
          refine wpAnyH_ready (rs := [9]) (by kernel_rfl) (by simp) ?_
          refine (AllReadyH.cons rfl (fun K hK => ?_) AllReadyH.nil)
          go_simp
          refine hK.out _ _ ?_ (fun hHeld2 => ?_)
          · exact PairS.setB (pa := (fun wz => .bool (nb wz w.heap.size))) (pb := (fun wz => .bool (nb wz (w.heap.size + 1)))) (PairS.setA (pa := (fun wz => .bool (nb wz w.heap.size))) (pb := (fun wz => .bool (nb wz (w.heap.size + 1)))) hP (Nat.le_refl _) (by simp) false (setsC_nb w.heap.size false) (nearC_nb (w.heap.size + 1))) (by simp) (by simp) false (setsC_nb (w.heap.size + 1) false) (nearC_nb w.heap.size)
          clear hK K hHeld
          have hHeld := hHeld2
          clear hHeld2
          (try simp only [List.getElem_toArray, List.getElem_cons_succ, List.getElem_cons_zero, Act.put, List.setIfInBounds_toArray, List.set_cons_zero, List.set_cons_succ])
          refine wpAnyH_done (by kernel_rfl) ?_ _
          refine NoPanic.normal ?_
          have hE := PairS.fin (pa := (fun wz => .bool (nb wz w.heap.size))) (pb := (fun wz => .bool (nb wz (w.heap.size + 1)))) hP (Nat.le_refl _) (by simp) (by simp) false false (setsC_nb w.heap.size false) (nearC_nb (w.heap.size + 1))
          clear hP hHeld
          revert hE
          generalize ((((((w5.setCell ⟨w.heap.size, 0, none⟩ (.bool false)).setCell ⟨w.heap.size, 1, none⟩ (.int .u64 0)).setCell ⟨w.heap.size, 2, none⟩ (.int .u64 0)).setCell ⟨(w.heap.size + 1), 0, none⟩ (.bool false)).setCell ⟨(w.heap.size + 1), 1, none⟩ (.int .u64 0)).setCell ⟨(w.heap.size + 1), 2, none⟩ (.int .u64 0)) = wf
          rintro ⟨e0, e1, e2, e3, e4, e5, e6, e7, e8⟩
          go_wp2_with fail
          refine (implOrder false 0 0 false 0 0 _).mono ?_
          rintro e w9 ⟨rfl, hB9⟩
          have HZ := Lib.hid (bt2 e8 hB9)
          clear hB9
          go_wp2_with fail
          go_ret
          exact ⟨rfl, HZ.out⟩
        · skip
          go_simp
          refine hK.out _ _ ?_ (fun hHeld2 => ?_)
          · with_reducible assumption
          clear hK K hHeld
          have hHeld := hHeld2
          clear hHeld2
          (try simp only [List.getElem_toArray, List.getElem_cons_succ, List.getElem_cons_zero, Act.put, List.setIfInBounds_toArray, List.set_cons_zero, List.set_cons_succ])
          refine wpAnyH_ready (rs := [3]) (by kernel_rfl) (by simp) ?_
          refine (AllReadyH.cons rfl (fun K hK => ?_) AllReadyH.nil)
          go_simp
          refine (withSignS w w.heap.size (w.heap.size + 1) (fun wz => .bool (nb wz w.heap.size)) (fun wz => .bool (nb wz (w.heap.size + 1))) 0 0 0 0 (keepsC_nb w.heap.size) (keepsC_nb (w.heap.size + 1)) _ _ 0 0 false (HA.out _) _ ?_).mono ?_
          · with_reducible assumption
          rintro e w5 ⟨rfl, hP⟩
          refine hK.out _ _ ?_ (fun hHeld2 => ?_)
          · exact hP
          clear hK K hHeld
          have hHeld := hHeld2
          clear hHeld2
          (try simp only [List.getElem_toArray, List.getElem_cons_succ, List.getElem_cons_zero, Act.put, List.setIfInBounds_toArray, List.set_cons_zero, List.set_cons_succ])
          refine wpAnyH_ready (rs := [7]) (by kernel_rfl) (by simp) ?_
          refine (AllReadyH.cons rfl (fun K hK => ?_) AllReadyH.nil)
          go_simp
          refine (withSignS w w.heap.size (w.heap.size + 1) (fun wz => .bool (nb wz w.heap.size)) (fun wz => .bool (nb wz (w.heap.size + 1))) 0 0 0 0 (keepsC_nb w.heap.size) (keepsC_nb (w.heap.size + 1)) _ _ 0 0 false (HC.out _) _ ?_).mono ?_
          · with_reducible assumption
          rintro e w5 ⟨rfl, hP⟩
          refine hK.out _ _ ?_ (fun hHeld2 => ?_)
          · exact hP
          clear hK K hHeld
          have hHeld := hHeld2
          clear hHeld2
          (try simp only [List.getElem_toArray, List.getElem_cons_succ, List.getElem_cons_zero, Act.put, List.setIfInBounds_toArray, List.set_cons_zero, List.set_cons_succ])
          refine wpAnyH_ready (rs := [8]) (by kernel_rfl) (by simp) ?_
          refine (AllReadyH.cons rfl (fun K hK => ?_) AllReadyH.nil)
          go_simp
          refine hK.out _ _ ?_ (fun hHeld2 => ?_)
          · exact PairS.setA (pa := (fun wz => .bool (nb wz w.heap.size))) (pb := (fun wz => .bool (nb wz (w.heap.size + 1)))) hP (Nat.le_refl _) (by simp) false (setsC_nb w.heap.size false) (nearC_nb (w.heap.size + 1))
          clear hK K hHeld
          have hHeld := hHeld2
          clear hHeld2
          (try simp only [List.getElem_toArray, List.getElem_cons_succ, List.getElem_cons_zero, Act.put, List.setIfInBounds_toArray, List.set_cons_zero, List.set_cons_succ])
          refine wpAnyH_ready (rs := [9]) (by kernel_rfl) (by simp) ?_
          refine (AllReadyH.cons rfl (fun K hK => ?_) AllReadyH.nil)
          go_simp
          refine hK.out _ _ ?_ (fun hHeld2 => ?_)
          · exact PairS.setB (pa := (fun wz => .bool (nb wz w.heap.size))) (pb := (fun wz => .bool (nb wz (w.heap.size + 1)))) (PairS.setA (pa := (fun wz => .bool (nb wz w.heap.size))) (pb := (fun wz => .bool (nb wz (w.heap.size + 1)))) hP (Nat.le_refl _) (by simp) false (setsC_nb w.heap.size false) (nearC_nb (w.heap.size + 1))) (by simp) (by simp) false (setsC_nb (w.heap.size + 1) false) (nearC_nb w.heap.size)
          clear hK K hHeld
          have hHeld := hHeld2
          clear hHeld2
          (try simp only [List.getElem_toArray, List.getElem_cons_succ, List.getElem_cons_zero, Act.put, List.setIfInBounds_toArray, List.set_cons_zero, List.set_cons_succ])
          refine wpAnyH_done (by kernel_rfl) ?_ _
          refine NoPanic.normal ?_
          have hE := PairS.fin (pa := (fun wz => .bool (nb wz w.heap.size))) (pb := (fun wz => .bool (nb wz (w.heap.size + 1)))) hP (Nat.le_refl _) (by simp) (by simp) false false (setsC_nb w.heap.size false) (nearC_nb (w.heap.size + 1))
          clear hP hHeld
          revert hE
          generalize ((((((w5.setCell ⟨w.heap.size, 0, none⟩ (.bool false)).setCell ⟨w.heap.size, 1, none⟩ (.int .u64 0)).setCell ⟨w.heap.size, 2, none⟩ (.int .u64 0)).setCell ⟨(w.heap.size + 1), 0, none⟩ (.bool false)).setCell ⟨(w.heap.size + 1), 1, none⟩ (.int .u64 0)).setCell ⟨(w.heap.size + 1), 2, none⟩ (.int .u64 0)) = wf
          rintro ⟨e0, e1, e2, e3, e4, e5, e6, e7, e8⟩
          go_wp2_with fail
          refine (implOrder false 0 0 false 0 0 _).mono ?_
          rintro e w9 ⟨rfl, hB9⟩
          have HZ := Lib.hid (bt2 e8 hB9)
          clear hB9
          go_wp2_with fail
          go_ret
          exact ⟨rfl, HZ.out⟩
      · skip
        go_simp
        refine hK.out _ _ ?_ (fun hHeld2 => ?_)
        · with_reducible assumption
        clear hK K hHeld
        have hHeld := hHeld2
        clear hHeld2
        (try simp only [List.getElem_toArray, List.getElem_cons_succ, List.getElem_cons_zero, Act.put, List.setIfInBounds_toArray, List.set_cons_zero, List.set_cons_succ])
        refine wpAnyH_ready (rs := [1]) (by kernel_rfl) (by simp) ?_
        refine (AllReadyH.cons rfl (fun K hK => ?_) AllReadyH.nil)
        go_simp
        refine hK.out _ _ ?_ (fun hHeld2 => ?_)
        · with_reducible assumption
        clear hK K hHeld
        have hHeld := hHeld2
        clear hHeld2
        (try simp only [List.getElem_toArray, List.getElem_cons_succ, List.getElem_cons_zero, Act.put, List.setIfInBounds_toArray, List.set_cons_zero, List.set_cons_succ])
        refine wpAnyH_ready (rs := [3]) (by kernel_rfl) (by simp) ?_
        refine (AllReadyH.cons rfl (fun K hK => ?_) AllReadyH.nil)
        go_simp
        refine (withSignS w w.heap.size (w.heap.size + 1) (fun wz => .bool (nb wz w.heap.size)) (fun wz => .bool (nb wz (w.heap.size + 1))) 0 0 0 0 (keepsC_nb w.heap.size) (keepsC_nb (w.heap.size + 1)) _ _ 0 0 false (HA.out _) _ ?_).mono ?_
        · with_reducible assumption
        rintro e w5 ⟨rfl, hP⟩
        refine hK.out _ _ ?_ (fun hHeld2 => ?_)
        · exact hP
        clear hK K hHeld
        have hHeld := hHeld2
        clear hHeld2
        (try simp only [List.getElem_toArray, List.getElem_cons_succ, List.getElem_cons_zero, Act.put, List.setIfInBounds_toArray, List.set_cons_zero, List.set_cons_succ])
        refine wpAnyH_ready (rs := [7]) (by kernel_rfl) (by simp) ?_
        refine (AllReadyH.cons rfl (fun K hK => ?_) AllReadyH.nil)
        go_simp
        refine (withSignS w w.heap.size (w.heap.size + 1) (fun wz => .bool (nb wz w.heap.size)) (fun wz => .bool (nb wz (w.heap.size + 1))) 0 0 0 0 (keepsC_nb w.heap.size) (keepsC_nb (w.heap.size + 1)) _ _ 0 0 false (HC.out _) _ ?_).mono ?_
        · with_reducible assumption
        rintro e w5 ⟨rfl, hP⟩
        refine hK.out _ _ ?_ (fun hHeld2 => ?_)
        · exact hP
        clear hK K hHeld
        have hHeld := hHeld2
        clear hHeld2
        (try simp only [List.getElem_toArray, List.getElem_cons_succ, List.getElem_cons_zero, Act.put, List.setIfInBounds_toArray, List.set_cons_zero, List.set_cons_succ])
        refine wpAnyH_ready (rs := [8]) (by kernel_rfl) (by simp) ?_
        refine (AllReadyH.cons rfl (fun K hK => ?_) AllReadyH.nil)
        go_simp
        refine hK.out _ _ ?_ (fun hHeld2 => ?_)
        · exact PairS.setA (pa := (fun wz => .bool (nb wz w.heap.size))) (pb := (fun wz => .bool (nb wz (w.heap.size + 1)))) hP (Nat.le_refl _) (by simp) false (setsC_nb w.heap.size false) (nearC_nb (w.heap.size + 1))
        clear hK K hHeld
        have hHeld := hHeld2
        clear hHeld2
        (try simp only [List.getElem_toArray, List.getElem_cons_succ, List.getElem_cons_zero, Act.put, List.setIfInBounds_toArray, List.set_cons_zero, List.set_cons_succ])
        refine wpAnyH_ready (rs := [9]) (by kernel_rfl) (by simp) ?_
        refine (AllReadyH.cons rfl (fun K hK => ?_) AllReadyH.nil)
        go_simp
        refine hK.out _ _ ?_ (fun hHeld2 => ?_)
        · exact PairS.setB (pa := (fun wz => .bool (nb wz w.heap.size))) (pb := (fun wz => .bool (nb wz (w.heap.size + 1)))) (PairS.setA (pa := (fun wz => .bool (nb wz w.heap.size))) (pb := (fun wz => .bool (nb wz (w.heap.size + 1)))) hP (Nat.le_refl _) (by simp) false (setsC_nb w.heap.size false) (nearC_nb (w.heap.size + 1))) (by simp) (by simp) false (setsC_nb (w.heap.size + 1) false) (nearC_nb w.heap.size)
        clear hK K hHeld
        have hHeld := hHeld2
        clear hHeld2
        (try simp only [List.getElem_toArray, List.getElem_cons_succ, List.getElem_cons_zero, Act.put, List.setIfInBounds_toArray, List.set_cons_zero, List.set_cons_succ])
        refine wpAnyH_done (by kernel_rfl) ?_ _
        refine NoPanic.normal ?_
        have hE := PairS.fin (pa := (fun wz => .bool (nb wz w.heap.size))) (pb := (fun wz => .bool (nb wz (w.heap.size + 1)))) hP (Nat.le_refl _) (by simp) (by simp) false false (setsC_nb w.heap.size false) (nearC_nb (w.heap.size + 1))
        clear hP hHeld
        revert hE
        generalize ((((((w5.setCell ⟨w.heap.size, 0, none⟩ (.bool false)).setCell ⟨w.heap.size, 1, none⟩ (.int .u64 0)).setCell ⟨w.heap.size, 2, none⟩ (.int .u64 0)).setCell ⟨(w.heap.size + 1), 0, none⟩ (.bool false)).setCell ⟨(w.heap.size + 1), 1, none⟩ (.int .u64 0)).setCell ⟨(w.heap.size + 1), 2, none⟩ (.int .u64 0)) = wf
        rintro ⟨e0, e1, e2, e3, e4, e5, e6, e7, e8⟩
        go_wp2_with fail
        refine (implOrder false 0 0 false 0 0 _).mono ?_
        rintro e w9 ⟨rfl, hB9⟩
        have HZ := Lib.hid (bt2 e8 hB9)
        clear hB9
        go_wp2_with fail
        go_ret
        exact ⟨rfl, HZ.out⟩
    · skip
      go_simp
      refine hK.out _ _ ?_ (fun hHeld2 => ?_)
      · with_reducible assumption
      clear hK K hHeld
      have hHeld := hHeld2
      clear hHeld2
      (try simp only [List.getElem_toArray, List.getElem_cons_succ, List.getElem_cons_zero, Act.put, List.setIfInBounds_toArray, List.set_cons_zero, List.set_cons_succ])
      refine wpAnyH_ready (rs := [1, 2]) (by kernel_rfl) (by simp) ?_
      refine (AllReadyH.cons rfl (fun K hK => ?_) (AllReadyH.cons rfl (fun K hK => ?_) AllReadyH.nil))
      · skip
        go_simp
        refine hK.out _ _ ?_ (fun hHeld2 => ?_)
        · with_reducible assumption
        clear hK K hHeld
        have hHeld := hHeld2
        clear hHeld2
        (try simp only [List.getElem_toArray, List.getElem_cons_succ, List.getElem_cons_zero, Act.put, List.setIfInBounds_toArray, List.set_cons_zero, List.set_cons_succ])
        refine wpAnyH_ready (rs := [2]) (by kernel_rfl) (by simp) ?_
        refine (AllReadyH.cons rfl (fun K hK => ?_) AllReadyH.nil)
        go_simp
        refine hK.out _ _ ?_ (fun hHeld2 => ?_)
        · with_reducible assumption
        clear hK K hHeld
        have hHeld := hHeld2
        clear hHeld2
        (try simp only [List.getElem_toArray, List.getElem_cons_succ, List.getElem_cons_zero, Act.put, List.setIfInBounds_toArray, List.set_cons_zero, List.set_cons_succ])
        refine wpAnyH_ready (rs := [3]) (by kernel_rfl) (by simp) ?_
        refine (AllReadyH.cons rfl (fun K hK => ?_) AllReadyH.nil)
        go_simp
        refine (withSignS w w.heap.size (w.heap.size + 1) (fun wz => .bool (nb wz w.heap.size)) (fun wz => .bool (nb wz (w.heap.size + 1))) 0 0 0 0 (keepsC_nb w.heap.size) (keepsC_nb (w.heap.size + 1)) _ _ 0 0 false (HA.out _) _ ?_).mono ?_
        · with_reducible assumption
        rintro e w5 ⟨rfl, hP⟩
        refine hK.out _ _ ?_ (fun hHeld2 => ?_)
        · exact hP
        clear hK K hHeld
        have hHeld := hHeld2
        clear hHeld2
        (try simp only [List.getElem_toArray, List.getElem_cons_succ, List.getElem_cons_zero, Act.put, List.setIfInBounds_toArray, List.set_cons_zero, List.set_cons_succ])
        refine wpAnyH_ready (rs := [7]) (by kernel_rfl) (by simp) ?_
        refine (AllReadyH.cons rfl (fun K hK => ?_) AllReadyH.nil)
        go_simp
        refine (withSignS w w.heap.size (w.heap.size + 1) (fun wz => .bool (nb wz w.heap.size)) (fun wz => .bool (nb wz (w.heap.size + 1))) 0 0 0 0 (keepsC_nb w.heap.size) (keepsC_nb (w.heap.size + 1)) _ _ 0 0 false (HC.out _) _ ?_).mono ?_
        · with_reducible assumption
        rintro e w5 ⟨rfl, hP⟩
        refine hK.out _ _ ?_ (fun hHeld2 => ?_)
        · exact hP
        clear hK K hHeld
        have hHeld := hHeld2
        clear hHeld2
        (try simp only [List.getElem_toArray, List.getElem_cons_succ, List.getElem_cons_zero, Act.put, List.setIfInBounds_toArray, List.set_cons_zero, List.set_cons_succ])
        refine wpAnyH_ready (rs := [8]) (by kernel_rfl) (by simp) ?_
        refine (AllReadyH.cons rfl (fun K hK => ?_) AllReadyH.nil)
        go_simp
        refine hK.out _ _ ?_ (fun hHeld2 => ?_)
        · exact PairS.setA (pa := (fun wz => .bool (nb wz w.heap.size))) (pb := (fun wz => .bool (nb wz (w.heap.size + 1)))) hP (Nat.le_refl _) (by simp) false (setsC_nb w.heap.size false) (nearC_nb (w.heap.size + 1))
        clear hK K hHeld
        have hHeld := hHeld2
        clear hHeld2
        (try simp only [List.getElem_toArray, List.getElem_cons_succ, List.getElem_cons_zero, Act.put, List.setIfInBounds_toArray, List.set_cons_zero, List.set_cons_succ])
        refine wpAnyH_ready (rs := [9]) (by kernel_rfl) (by simp) ?_
        refine (AllReadyH.cons rfl (fun K hK => ?_) AllReadyH.nil)
        go_simp
        refine hK.out _ _ ?_ (fun hHeld2 => ?_)
        · exact PairS.setB (pa := (fun wz => .bool (nb wz w.heap.size))) (pb := (fun wz => .bool (nb wz (w.heap.size + 1)))) (PairS.setA (pa := (fun wz => .bool (nb wz w.heap.size))) (pb := (fun wz => .bool (nb wz (w.heap.size + 1)))) hP (Nat.le_refl _) (by simp) false (setsC_nb w.heap.size false) (nearC_nb (w.heap.size + 1))) (by simp) (by simp) false (setsC_nb (w.heap.size + 1) false) (nearC_nb w.heap.size)
        clear hK K hHeld
        have hHeld := hHeld2
        clear hHeld2
        (try simp only [List.getElem_toArray, List.getElem_cons_succ, List.getElem_cons_zero, Act.put, List.setIfInBounds_toArray, List.set_cons_zero, List.set_cons_succ])
        refine wpAnyH_done (by kernel_rfl) ?_ _
        refine NoPanic.normal ?_
        have hE := PairS.fin (pa := (fun wz => .bool (nb wz w.heap.size))) (pb := (fun wz => .bool (nb wz (w.heap.size + 1)))) hP (Nat.le_refl _) (by simp) (by simp) false false (setsC_nb w.heap.size false) (nearC_nb (w.heap.size + 1))
        clear hP hHeld
        revert hE
        generalize ((((((w5.setCell ⟨w.heap.size, 0, none⟩ (.bool false)).setCell ⟨w.heap.size, 1, none⟩ (.int .u64 0)).setCell ⟨w.heap.size, 2, none⟩ (.int .u64 0)).setCell ⟨(w.heap.size + 1), 0, none⟩ (.bool false)).setCell ⟨(w.heap.size + 1), 1, none⟩ (.int .u64 0)).setCell ⟨(w.heap.size + 1), 2, none⟩ (.int .u64 0)) = wf
        rintro ⟨e0, e1, e2, e3, e4, e5, e6, e7, e8⟩
        go_wp2_with fail
        refine (implOrder false 0 0 false 0 0 _).mono ?_
        rintro e w9 ⟨rfl, hB9⟩
        have HZ := Lib.hid (bt2 e8 hB9)
        clear hB9
        go_wp2_with fail
        go_ret
        exact ⟨rfl, HZ.out⟩
      · skip
        go_simp
        refine hK.out _ _ ?_ (fun hHeld2 => ?_)
        · with_reducible assumption
        clear hK K hHeld
        have hHeld := hHeld2
        clear hHeld2
        (try simp only [List.getElem_toArray, List.getElem_cons_succ, List.getElem_cons_zero, Act.put, List.setIfInBounds_toArray, List.set_cons_zero, List.set_cons_succ])
        refine wpAnyH_ready (rs := [1]) (by kernel_rfl) (by simp) ?_
        refine (AllReadyH.cons rfl (fun K hK => ?_) AllReadyH.nil)
        go_simp
        refine hK.out _ _ ?_ (fun hHeld2 => ?_)
        · with_reducible assumption
        clear hK K hHeld
        have hHeld := hHeld2
        clear hHeld2
        (try simp only [List.getElem_toArray, List.getElem_cons_succ, List.getElem_cons_zero, Act.put, List.setIfInBounds_toArray, List.set_cons_zero, List.set_cons_succ])
        refine wpAnyH_ready (rs := [3]) (by kernel_rfl) (by simp) ?_
        refine (AllReadyH.cons rfl (fun K hK => ?_) AllReadyH.nil)
        go_simp
        refine (withSignS w w.heap.size (w.heap.size + 1) (fun wz => .bool (nb wz w.heap.size)) (fun wz => .bool (nb wz (w.heap.size + 1))) 0 0 0 0 (keepsC_nb w.heap.size) (keepsC_nb (w.heap.size + 1)) _ _ 0 0 false (HA.out _) _ ?_).mono ?_
        · with_reducible assumption
        rintro e w5 ⟨rfl, hP⟩
        refine hK.out _ _ ?_ (fun hHeld2 => ?_)
        · exact hP
        clear hK K hHeld
        have hHeld := hHeld2
        clear hHeld2
        (try simp only [List.getElem_toArray, List.getElem_cons_succ, List.getElem_cons_zero, Act.put, List.setIfInBounds_toArray, List.set_cons_zero, List.set_cons_succ])
        refine wpAnyH_ready (rs := [7]) (by kernel_rfl) (by simp) ?_
        refine (AllReadyH.cons rfl (fun K hK => ?_) AllReadyH.nil)
        go_simp
        refine (withSignS w w.heap.size (w.heap.size + 1) (fun wz => .bool (nb wz w.heap.size)) (fun wz => .bool (nb wz (w.heap.size + 1))) 0 0 0 0 (keepsC_nb w.heap.size) (keepsC_nb (w.heap.size + 1)) _ _ 0 0 false (HC.out _) _ ?_).mono ?_
        · with_reducible assumption
        rintro e w5 ⟨rfl, hP⟩
        refine hK.out _ _ ?_ (fun hHeld2 => ?_)
        · exact hP
        clear hK K hHeld
        have hHeld := hHeld2
        clear hHeld2
        (try simp only [List.getElem_toArray, List.getElem_cons_succ, List.getElem_cons_zero, Act.put, List.setIfInBounds_toArray, List.set_cons_zero, List.set_cons_succ])
        refine wpAnyH_ready (rs := [8]) (by kernel_rfl) (by simp) ?_
        refine (AllReadyH.cons rfl (fun K hK => ?_) AllReadyH.nil)
        go_simp
        refine hK.out _ _ ?_ (fun hHeld2 => ?_)
        · exact PairS.setA (pa := (fun wz => .bool (nb wz w.heap.size))) (pb := (fun wz => .bool (nb wz (w.heap.size + 1)))) hP (Nat.le_refl _) (by simp) false (setsC_nb w.heap.size false) (nearC_nb (w.heap.size + 1))
        clear hK K hHeld
        have hHeld := hHeld2
        clear hHeld2
        (try simp only [List.getElem_toArray, List.getElem_cons_succ, List.getElem_cons_zero, Act.put, List.setIfInBounds_toArray, List.set_cons_zero, List.set_cons_succ])
        refine wpAnyH_ready (rs := [9]) (by kernel_rfl) (by simp) ?_
        refine (AllReadyH.cons rfl (fun K hK => ?_) AllReadyH.nil)
        go_simp
        refine hK.out _ _ ?_ (fun hHeld2 => ?_)
        · exact PairS.setB (pa := (fun wz => .bool (nb wz w.heap.size))) (pb := (fun wz => .bool (nb wz (w.heap.size + 1)))) (PairS.setA (pa := (fun wz => .bool (nb wz w.heap.size))) (pb := (fun wz => .bool (nb wz (w.heap.size + 1)))) hP (Nat.le_refl _) (by simp) false (setsC_nb w.heap.size false) (nearC_nb (w.heap.size + 1))) (by simp) (by simp) false (setsC_nb (w.heap.size + 1) false) (nearC_nb w.heap.size)
        clear hK K hHeld
        have hHeld := hHeld2
        clear hHeld2
        (try simp only [List.getElem_toArray, List.getElem_cons_succ, List.getElem_cons_zero, Act.put, List.setIfInBounds_toArray, List.set_cons_zero, List.set_cons_succ])
        refine wpAnyH_done (by kernel_rfl) ?_ _
        refine NoPanic.normal ?_
        have hE := PairS.fin (pa := (fun wz => .bool (nb wz w.heap.size))) (pb := (fun wz => .bool (nb wz (w.heap.size + 1)))) hP (Nat.le_refl _) (by simp) (by simp) false false (setsC_nb w.heap.size false) (nearC_nb (w.heap.size + 1))
        clear hP hHeld
        revert hE
        generalize ((((((w5.setCell ⟨w.heap.size, 0, none⟩ (.bool false)).setCell ⟨w.heap.size, 1, none⟩ (.int .u64 0)).setCell ⟨w.heap.size, 2, none⟩ (.int .u64 0)).setCell ⟨(w.heap.size + 1), 0, none⟩ (.bool false)).setCell ⟨(w.heap.size + 1), 1, none⟩ (.int .u64 0)).setCell ⟨(w.heap.size + 1), 2, none⟩ (.int .u64 0)) = wf
        rintro ⟨e0, e1, e2, e3, e4, e5, e6, e7, e8⟩
        go_wp2_with fail
        refine (implOrder false 0 0 false 0 0 _).mono ?_
        rintro e w9 ⟨rfl, hB9⟩
        have HZ := Lib.hid (bt2 e8 hB9)
        clear hB9
        go_wp2_with fail
        go_ret
        exact ⟨rfl, HZ.out⟩
end Go.Proofs.Ytapdocfifgnjgaa
