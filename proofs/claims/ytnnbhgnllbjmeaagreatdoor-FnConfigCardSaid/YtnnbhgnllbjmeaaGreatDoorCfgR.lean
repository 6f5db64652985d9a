/-
  What the reference answers for settings: the usual ones, a sign, whether they are right, whether they are the same.
-/
import Derived.Test.YtnnbhgnllbjmeaaGreatDoorCfgS
import Derived.Deep.RegionWith
import Derived.Deep.LoopGhost
import Derived.Deep.RegionHeld3
namespace Go.Proofs.YtnnbhgnllbjmeaaGreatDoor
open Go.RowKit

/-- A feature's sign. -/
def signC (C : Cfg) (f : Int) : Int := if 0 ≤ f then C.s.getD f.toNat 0 else 0
theorem wpAnyH_weaken {P : Program} {md : Region.Mode} {ops : Array Oper} {Q : Exit → Act → World → Prop} {S S' : World → Prop} (hS : ∀ w, S' w → S w) : ∀ (fuel : Nat) (listed : Array Bool) (a : Act) (w : World), wpAnyH P md ops Q S' fuel listed a w → wpAnyH P md ops Q S fuel listed a w
  | 0, _, _, _, h => h
  | fuel + 1, _, _, _, h => ⟨h.1, fun i hi => wpOp_mono (fun a' w' k => ⟨hS _ k.1, wpAnyH_weaken hS fuel _ a' w' k.2⟩) (h.2 i hi)⟩
theorem ret_boolC {a b : Bool} (h : a = b) : Ending.returned (.bool a) = .returned (.bool b) := by rw [h]

set_option maxRecDepth 100000 in
theorem specIn8 (x lo hi : Int) (w : World) :
    Calls Tryz.prog 43 #[.int .i64 x, .int .i64 lo, .int .i64 hi] w fun e w' => e = .returned (.bool (inZ x lo hi)) ∧ w = w' := by
  by_cases h1 : lo ≤ x
  · by_cases h2 : x ≤ hi
    · have e : inZ x lo hi = true := inZ_iff.2 ⟨h1, h2⟩
      rw [e]
      go_enter Tryz.func43, Tryz.ntmps43
      go_wp2_with fail
      go_ret
      exact ⟨rfl, rfl⟩
    · have e : inZ x lo hi = false := by rw [inZ, decide_eq_false_iff_not]; exact fun h => h2 h.2
      rw [e]
      go_enter Tryz.func43, Tryz.ntmps43
      go_wp2_with fail
      go_ret
      exact ⟨rfl, rfl⟩
  · have e : inZ x lo hi = false := by rw [inZ, decide_eq_false_iff_not]; exact fun h => h1 h.1
    rw [e]
    go_enter Tryz.func43, Tryz.ntmps43
    go_wp2_with fail
    go_ret
    exact ⟨rfl, rfl⟩

set_option maxRecDepth 100000 in
theorem specUsual (w : World) :
    Calls Tryz.prog 37 #[] w fun e w' => e = .returned (.agg #[.int .i64 4, .int .i64 2, .int .i64 4, .int .i64 1, .int .i64 1, .int .i64 1, .int .i64 1, .slice none 0 0]) ∧ Below w.heap.size w w' := by
  go_enter Tryz.func37, Tryz.ntmps37
  go_wp2_with fail
  refine bodyPost_ret (v := .agg #[.int .i64 4, .int .i64 2, .int .i64 4, .int .i64 1, .int .i64 1, .int .i64 1, .int .i64 1, .slice none 0 0]) ?_ rfl ⟨rfl, ?_⟩
  · rw [results_one rfl]
    go_simp
  · exact below_al w _

set_option maxRecDepth 100000 in
theorem specNumbers (C : Cfg) (u : Value) (w : World) (a : Option Addr) (n c : Nat) (hu : u = .slice a n c) :
    Calls Tryz.prog 26 #[.agg #[.int .i64 C.r, .int .i64 C.d, .int .i64 C.b, .int .i64 C.l, .int .i64 C.m, .int .i64 C.n, .int .i64 C.e, u]] w fun e w' => e = .returned (.slice (some ⟨w.heap.size + 1, 0, none⟩) 5 5) ∧ (w.alloc (.cells #[.int .i64 C.r, .int .i64 C.d, .int .i64 C.b, .int .i64 C.l, .int .i64 C.m, .int .i64 C.n, .int .i64 C.e, u] 26)).alloc (.cells #[.int .i64 C.r, .int .i64 C.d, .int .i64 C.b, .int .i64 C.l, .int .i64 C.m] 3) = w' := by
  subst hu
  go_enter Tryz.func26, Tryz.ntmps26
  go_wp2_with fail
  go_ret
  exact ⟨rfl, rfl⟩

/-- What the rounds on the numbers keep. -/
abbrev CkS (W : World) (B0 B2 : Nat) (C : Cfg) (a : Option Addr) (n c k : Nat) (z : Int) (w' : World) : Prop :=
  w'.cell? ⟨B2, k, none⟩ = some (.int .i64 z) ∧ w'.heap[B0]? = some (.cells #[.int .i64 C.r, .int .i64 C.d, .int .i64 C.b, .int .i64 C.l, .int .i64 C.m, .int .i64 C.n, .int .i64 C.e, .slice a n c] 26 (0, 0)) ∧ w'.heap[B2]? = some (.cells #[.int .i64 C.r, .int .i64 C.d, .int .i64 C.b, .int .i64 C.l, .int .i64 C.m] 3 (0, 0)) ∧ Below W.heap.size W w'
theorem CkS.next {W w w' : World} {B0 B2 : Nat} {C : Cfg} {a : Option Addr} {n c k : Nat} {z : Int} (h : CkS W B0 B2 C a n c k z w) (hB : Below w.heap.size w w') : CkS W B0 B2 C a n c k z w' :=
  ⟨(hB.cell (World.block_lt_of_cell? w _ h.1)).trans h.1, blk_next h.2.1 hB, blk_next h.2.2.1 hB, bt h.2.2.2 hB⟩
theorem CkS.call {P : Program} {f : FuncId} {args : Array Value} {Q : Ending → World → Prop} {W w : World} {B0 B2 : Nat} {C : Cfg} {a : Option Addr} {n c k : Nat} {z : Int} (hC : Calls P f args w fun e w' => Q e w' ∧ Below w.heap.size w w') (h : CkS W B0 B2 C a n c k z w) :
    Calls P f args w fun e w' => (Q e w' ∧ Below w.heap.size w w') ∧ CkS W B0 B2 C a n c k z w' := hC.mono fun _ _ ⟨hq, hB⟩ => ⟨⟨hq, hB⟩, CkS.next h hB⟩
set_option maxRecDepth 100000 in
theorem specLeast (w : World) :
    Calls Tryz.prog 44 #[] w fun e w' => e = .returned (.slice (some ⟨w.heap.size, 0, none⟩) 5 5) ∧ w.alloc (.cells #[.int .i64 1, .int .i64 0, .int .i64 2, .int .i64 1, .int .i64 1] 3) = w' := by
  go_enter Tryz.func44, Tryz.ntmps44
  go_wp2_with fail
  go_ret
  exact ⟨rfl, rfl⟩

theorem specLeastB (w : World) (k : Nat) (x : Int) (hx : (#[.int .i64 1, .int .i64 0, .int .i64 2, .int .i64 1, .int .i64 1] : Array Value)[k]? = some (.int .i64 x)) :
    Calls Tryz.prog 44 #[] w fun e w' => (e = .returned (.slice (some ⟨w.heap.size, 0, none⟩) 5 5) ∧ w'.cell? ⟨w.heap.size, k, none⟩ = some (.int .i64 x)) ∧ Below w.heap.size w w' :=
  (specLeast w).mono fun e w' ⟨he, hw⟩ => ⟨⟨he, by rw [← hw]; exact (cell_blk (alloc_blk w _ _) k).trans hx⟩, by rw [← hw]; exact below_al w _⟩
theorem atLeast {k : Nat} (h : k < 5) : (#[.int .i64 1, .int .i64 0, .int .i64 2, .int .i64 1, .int .i64 1] : Array Value)[k]? = some (.int .i64 (leastC k)) := by
  rcases (by omega : k = 0 ∨ k = 1 ∨ k = 2 ∨ k = 3 ∨ k = 4) with rfl | rfl | rfl | rfl | rfl <;> rfl
set_option maxRecDepth 100000 in
theorem specMost (w : World) :
    Calls Tryz.prog 45 #[] w fun e w' => e = .returned (.slice (some ⟨w.heap.size, 0, none⟩) 5 5) ∧ w.alloc (.cells #[.int .i64 8, .int .i64 4, .int .i64 8, .int .i64 100, .int .i64 20] 3) = w' := by
  go_enter Tryz.func45, Tryz.ntmps45
  go_wp2_with fail
  go_ret
  exact ⟨rfl, rfl⟩

theorem specMostB (w : World) (k : Nat) (x : Int) (hx : (#[.int .i64 8, .int .i64 4, .int .i64 8, .int .i64 100, .int .i64 20] : Array Value)[k]? = some (.int .i64 x)) :
    Calls Tryz.prog 45 #[] w fun e w' => (e = .returned (.slice (some ⟨w.heap.size, 0, none⟩) 5 5) ∧ w'.cell? ⟨w.heap.size, k, none⟩ = some (.int .i64 x)) ∧ Below w.heap.size w w' :=
  (specMost w).mono fun e w' ⟨he, hw⟩ => ⟨⟨he, by rw [← hw]; exact (cell_blk (alloc_blk w _ _) k).trans hx⟩, by rw [← hw]; exact below_al w _⟩
theorem atMost {k : Nat} (h : k < 5) : (#[.int .i64 8, .int .i64 4, .int .i64 8, .int .i64 100, .int .i64 20] : Array Value)[k]? = some (.int .i64 (mostC k)) := by
  rcases (by omega : k = 0 ∨ k = 1 ∨ k = 2 ∨ k = 3 ∨ k = 4) with rfl | rfl | rfl | rfl | rfl <;> rfl
theorem atNum (C : Cfg) {k : Nat} (h : k < 5) : (#[.int .i64 C.r, .int .i64 C.d, .int .i64 C.b, .int .i64 C.l, .int .i64 C.m] : Array Value)[k]? = some (.int .i64 (numC k C)) := by
  rcases (by omega : k = 0 ∨ k = 1 ∨ k = 2 ∨ k = 3 ∨ k = 4) with rfl | rfl | rfl | rfl | rfl <;> rfl

/-- The first k numbers are right. -/
def numOk (C : Cfg) (k : Nat) : Prop := ∀ j, j < k → inZ (numC j C) (leastC j) (mostC j) = true
theorem okC_num {C : Cfg} {k : Nat} (hk : k < 5) (h : inZ (numC k C) (leastC k) (mostC k) = false) : okC C = false := by
  rcases Bool.eq_false_or_eq_true (okC C) with ho | ho
  · have hr := num_range ho hk
    rw [inZ, decide_eq_false_iff_not] at h
    exact absurd ⟨hr.1, hr.2.1⟩ h
  · exact ho
theorem okC_sgn {C : Cfg} {z : Int} (hz : z ∈ C.s) (h : inZ z (-1) 1 = false) : okC C = false := by
  rcases Bool.eq_false_or_eq_true (okC C) with ho | ho
  · rw [inZ, decide_eq_false_iff_not] at h
    exact absurd ((okC_iff.1 ho).2.2.2.2.2.1 z hz) h
  · exact ho
theorem okC_rest {C : Cfg} (h : numOk C 5) (hs : ∀ z ∈ C.s, inZ z (-1) 1 = true) : okC C = (inZ C.e 1 1000 && inZ C.n 1 C.e && decide (C.s.length ≤ 4)) := by
  have h0 := h 0 (by omega)
  have h1 := h 1 (by omega)
  have h2 := h 2 (by omega)
  have h3 := h 3 (by omega)
  have h4 := h 4 (by omega)
  simp only [numC, leastC, mostC] at h0 h1 h2 h3 h4
  have h5 : (C.s.all fun z => inZ z (-1) 1) = true := List.all_eq_true.2 hs
  rw [okC, h0, h1, h2, h3, h4, h5]
  simp
set_option maxRecDepth 100000 in
set_option maxHeartbeats 8000000 in
theorem specConfigOk (C : Cfg) (u : Value) (w : World) (h : IntRow w u C.s) :
    Calls Tryz.prog 15 #[.agg #[.int .i64 C.r, .int .i64 C.d, .int .i64 C.b, .int .i64 C.l, .int .i64 C.m, .int .i64 C.n, .int .i64 C.e, u]] w fun e w' => e = .returned (.bool (okC C)) ∧ Below w.heap.size w w' := by
  obtain ⟨a, c, rfl, hl, hc⟩ := intRow_form h
  have HC := Lib.hid hc
  clear h hc
  go_enter Tryz.func15, Tryz.ntmps15
  go_wp2_with fail
  refine (specNumbers C _ _ a C.s.length c rfl).mono ?_
  rintro e w0 ⟨rfl, rfl⟩
  have hA0 := below_al w (.cells #[.int .i64 C.r, .int .i64 C.d, .int .i64 C.b, .int .i64 C.l, .int .i64 C.m, .int .i64 C.n, .int .i64 C.e, .slice a C.s.length c] 26)
  have hA1 := bt hA0 (below_al _ (.cells #[.int .i64 C.r, .int .i64 C.d, .int .i64 C.b, .int .i64 C.l, .int .i64 C.m, .int .i64 C.n, .int .i64 C.e, .slice a C.s.length c] 26))
  have hA2 := bt hA1 (below_al _ (.cells #[.int .i64 C.r, .int .i64 C.d, .int .i64 C.b, .int .i64 C.l, .int .i64 C.m] 3))
  have x0 := blk_alloc (blk_alloc (alloc_blk w #[.int .i64 C.r, .int .i64 C.d, .int .i64 C.b, .int .i64 C.l, .int .i64 C.m, .int .i64 C.n, .int .i64 C.e, .slice a C.s.length c] 26) (.cells #[.int .i64 C.r, .int .i64 C.d, .int .i64 C.b, .int .i64 C.l, .int .i64 C.m, .int .i64 C.n, .int .i64 C.e, .slice a C.s.length c] 26)) (.cells #[.int .i64 C.r, .int .i64 C.d, .int .i64 C.b, .int .i64 C.l, .int .i64 C.m] 3)
  have x2 := alloc_blk ((w.alloc (.cells #[.int .i64 C.r, .int .i64 C.d, .int .i64 C.b, .int .i64 C.l, .int .i64 C.m, .int .i64 C.n, .int .i64 C.e, .slice a C.s.length c] 26)).alloc (.cells #[.int .i64 C.r, .int .i64 C.d, .int .i64 C.b, .int .i64 C.l, .int .i64 C.m, .int .i64 C.n, .int .i64 C.e, .slice a C.s.length c] 26)) #[.int .i64 C.r, .int .i64 C.d, .int .i64 C.b, .int .i64 C.l, .int .i64 C.m] 3
  simp only [size_alloc] at x2
  clear hA0 hA1
  go_wp2_with fail
  go_loopw [2, 4] (fun _ i wr => ∃ k : Nat, k ≤ 5 ∧ i = .int .i64 k ∧ numOk C k ∧ wr.heap[w.heap.size]? = some (.cells #[.int .i64 C.r, .int .i64 C.d, .int .i64 C.b, .int .i64 C.l, .int .i64 C.m, .int .i64 C.n, .int .i64 C.e, .slice a C.s.length c] 26 (0, 0)) ∧ wr.heap[w.heap.size + 1 + 1]? = some (.cells #[.int .i64 C.r, .int .i64 C.d, .int .i64 C.b, .int .i64 C.l, .int .i64 C.m] 3 (0, 0)) ∧ Below w.heap.size w wr) (fun _ i _ => 5 - (intOf i).toNat)
  case atStart => exact ⟨0, by omega, rfl, fun j hj => by omega, x0, x2, hA2⟩
  case round =>
    clear x0 x2 hA2
    obtain ⟨k, hk, rfl, hok, x0, x2, hB⟩ := hrel
    have HOK := Lib.hid hok
    have X0 := Lib.hid x0
    have X2 := Lib.hid x2
    clear hok
    by_cases hlt : k < 5
    · have hk1 : (k : Int) < 5 := by omega
      have hk0 : (0 : Int) ≤ k := by omega
      have cn := (cell_blk x2 k).trans (atNum C hlt)
      have l2 := blk_lt x2
      have aL := atLeast hlt
      have aM := atMost hlt
      obtain ⟨z, hz⟩ : ∃ z, numC k C = z := ⟨_, rfl⟩
      obtain ⟨lo, hlo⟩ : ∃ z, leastC k = z := ⟨_, rfl⟩
      obtain ⟨hi, hhi⟩ : ∃ z, mostC k = z := ⟨_, rfl⟩
      rw [hz] at cn
      rw [hlo] at aL
      rw [hhi] at aM
      have HIN : Hid (inZ (numC k C) (leastC k) (mostC k) = inZ z lo hi) := Lib.hid (by rw [hz, hlo, hhi])
      clear hz hlo hhi x0 x2
      have hS0 : CkS w w.heap.size (w.heap.size + 1 + 1) C a C.s.length c k z wr.drew := ⟨cn, X0.out, X2.out, hB.drew⟩
      go_wp2_with fail
      refine wp_region_noPanic ?_
      refine wp_region_held_drew (S := CkS w w.heap.size (w.heap.size + 1 + 1) C a C.s.length c k z) (by kernel_rfl) hS0 (fun hHeld => ?_)
      clear hS0 hB
      refine wpAnyH_take (i := 0) (oi := ?o1) (v := ?v1) ?hi1 ?hs1 ?hf1 ?hr1 ?hQ1 ?hy1 ?hS1 ?rest1
      case hi1 => rfl
      case hs1 => kernel_rfl
      case hf1 => kernel_rfl
      case hr1 => kernel_rfl
      case hQ1 => exact fun _ _ _ h => h
      case hS1 => assumption
      case hy1 =>
        refine Or.inl ⟨by kernel_rfl, ?_⟩
        intro w' hSw
        (try dsimp only at hSw)
        go_simp
        (try rfl)
      (try simp only [List.getElem_toArray, List.getElem_cons_zero, Act.put, List.setIfInBounds_toArray, List.set_cons_zero, List.set_cons_succ])
      refine wpAnyH_take (i := 1) (oi := ?o2) (v := ?v2) ?hi2 ?hs2 ?hf2 ?hr2 ?hQ2 ?hy2 ?hS2 ?rest2
      case hi2 => rfl
      case hs2 => kernel_rfl
      case hf2 => kernel_rfl
      case hr2 => kernel_rfl
      case hQ2 => exact fun _ _ _ h => h
      case hS2 => assumption
      case hy2 =>
        refine Or.inl ⟨by kernel_rfl, ?_⟩
        intro w' hSw
        (try dsimp only at hSw)
        go_simp
        (try rfl)
      (try simp only [List.getElem_toArray, List.getElem_cons_succ, List.getElem_cons_zero, Act.put, List.setIfInBounds_toArray, List.set_cons_zero, List.set_cons_succ])
      refine wpAnyH_take (i := 2) (oi := ?o3) (v := ?v3) ?hi3 ?hs3 ?hf3 ?hr3 ?hQ3 ?hy3 ?hS3 ?rest3
      case hi3 => rfl
      case hs3 => kernel_rfl
      case hf3 => kernel_rfl
      case hr3 => kernel_rfl
      case hQ3 => exact fun _ _ _ h => h
      case hS3 => assumption
      case hy3 =>
        refine Or.inl ⟨by kernel_rfl, ?_⟩
        intro w' hSw
        (try dsimp only at hSw)
        go_simp
        (try rfl)
      (try simp only [List.getElem_toArray, List.getElem_cons_succ, List.getElem_cons_zero, Act.put, List.setIfInBounds_toArray, List.set_cons_zero, List.set_cons_succ])
      refine wpAnyH_take (i := 3) (oi := ?o4) (v := ?v4) ?hi4 ?hs4 ?hf4 ?hr4 ?hQ4 ?hy4 ?hS4 ?rest4
      case hi4 => rfl
      case hs4 => kernel_rfl
      case hf4 => kernel_rfl
      case hr4 => kernel_rfl
      case hQ4 => exact fun _ _ _ h => h
      case hS4 => assumption
      case hy4 =>
        refine Or.inl ⟨by kernel_rfl, ?_⟩
        intro w' hSw
        (try dsimp only at hSw)
        go_simp
        (try rfl)
      (try simp only [List.getElem_toArray, List.getElem_cons_succ, List.getElem_cons_zero, Act.put, List.setIfInBounds_toArray, List.set_cons_zero, List.set_cons_succ])
      refine wpAnyH_take (i := 5) (oi := ?o5) (v := ?v5) ?hi5 ?hs5 ?hf5 ?hr5 ?hQ5 ?hy5 ?hS5 ?rest5
      case hi5 => rfl
      case hs5 => kernel_rfl
      case hf5 => kernel_rfl
      case hr5 => kernel_rfl
      case hQ5 => exact fun _ _ _ h => h
      case hS5 => assumption
      case hy5 =>
        refine Or.inl ⟨by kernel_rfl, ?_⟩
        intro w' hSw
        (try dsimp only at hSw)
        go_simp
        (try rfl)
      (try simp only [List.getElem_toArray, List.getElem_cons_succ, List.getElem_cons_zero, Act.put, List.setIfInBounds_toArray, List.set_cons_zero, List.set_cons_succ])
      refine wpAnyH_take (i := 9) (oi := ?o6) (v := ?v6) ?hi6 ?hs6 ?hf6 ?hr6 ?hQ6 ?hy6 ?hS6 ?rest6
      case hi6 => rfl
      case hs6 => kernel_rfl
      case hf6 => kernel_rfl
      case hr6 => kernel_rfl
      case hQ6 => exact fun _ _ _ h => h
      case hS6 => assumption
      case hy6 =>
        refine Or.inl ⟨by kernel_rfl, ?_⟩
        intro w' hSw
        (try dsimp only at hSw)
        go_simp
        (try rfl)
      (try simp only [List.getElem_toArray, List.getElem_cons_succ, List.getElem_cons_zero, Act.put, List.setIfInBounds_toArray, List.set_cons_zero, List.set_cons_succ])
      refine wpAnyH_ready (rs := [4]) (by kernel_rfl) (by simp) ?_
      refine AllReadyH.cons rfl (fun K hK => ?_) AllReadyH.nil
      · go_simp
        refine (specLeastB _ k lo aL).mono ?_
        rintro e w5 ⟨⟨rfl, hc5⟩, hB5⟩
        refine hK.out _ _ ?_ (fun hHeld => ?_)
        · exact CkS.next hHeld hB5
        clear hK K
        (try simp only [List.getElem_toArray, List.getElem_cons_succ, List.getElem_cons_zero, Act.put, List.setIfInBounds_toArray, List.set_cons_zero, List.set_cons_succ])
        refine wpAnyH_weaken (S' := fun w' => CkS w w.heap.size (w.heap.size + 1 + 1) C a C.s.length c k z w' ∧ w'.cell? ⟨wr.heap.size, k, none⟩ = some (.int .i64 lo)) (fun _ h => h.1) _ _ _ _ ?_
        have hH1 : (fun w' => CkS w w.heap.size (w.heap.size + 1 + 1) C a C.s.length c k z w' ∧ w'.cell? ⟨wr.heap.size, k, none⟩ = some (.int .i64 lo)) w5 := ⟨hHeld, hc5⟩
        clear hHeld
        refine wpAnyH_take (i := 6) (oi := ?o7) (v := ?v7) ?hi7 ?hs7 ?hf7 ?hr7 ?hQ7 ?hy7 ?hS7 ?rest7
        case hi7 => rfl
        case hs7 => kernel_rfl
        case hf7 => kernel_rfl
        case hr7 => kernel_rfl
        case hQ7 => exact fun _ _ _ h => h
        case hS7 => assumption
        case hy7 =>
          refine Or.inl ⟨by kernel_rfl, ?_⟩
          intro w' hSw
          (try dsimp only at hSw)
          go_simp
          (try rfl)
        (try simp only [List.getElem_toArray, List.getElem_cons_succ, List.getElem_cons_zero, Act.put, List.setIfInBounds_toArray, List.set_cons_zero, List.set_cons_succ])
        refine wpAnyH_take (i := 7) (oi := ?o8) (v := ?v8) ?hi8 ?hs8 ?hf8 ?hr8 ?hQ8 ?hy8 ?hS8 ?rest8
        case hi8 => rfl
        case hs8 => kernel_rfl
        case hf8 => kernel_rfl
        case hr8 => kernel_rfl
        case hQ8 => exact fun _ _ _ h => h
        case hS8 => assumption
        case hy8 =>
          refine Or.inl ⟨by kernel_rfl, ?_⟩
          intro w' hSw
          (try dsimp only at hSw)
          go_simp
          (try rfl)
        (try simp only [List.getElem_toArray, List.getElem_cons_succ, List.getElem_cons_zero, Act.put, List.setIfInBounds_toArray, List.set_cons_zero, List.set_cons_succ])
        refine wpAnyH_ready (rs := [8]) (by kernel_rfl) (by simp) ?_
        refine AllReadyH.cons rfl (fun K hK => ?_) AllReadyH.nil
        · go_simp
          refine (specMostB _ k hi aM).mono ?_
          rintro e w6 ⟨⟨rfl, hc6⟩, hB6⟩
          refine hK.out _ _ ?_ (fun hHeld => ?_)
          · exact ⟨CkS.next hH1.1 hB6, (hB6.cell (World.block_lt_of_cell? w5 _ hc5)).trans hc5⟩
          clear hK K
          (try simp only [List.getElem_toArray, List.getElem_cons_succ, List.getElem_cons_zero, Act.put, List.setIfInBounds_toArray, List.set_cons_zero, List.set_cons_succ])
          refine wpAnyH_weaken (S' := fun w' => (CkS w w.heap.size (w.heap.size + 1 + 1) C a C.s.length c k z w' ∧ w'.cell? ⟨wr.heap.size, k, none⟩ = some (.int .i64 lo)) ∧ w'.cell? ⟨w5.heap.size, k, none⟩ = some (.int .i64 hi)) (fun _ h => h.1) _ _ _ _ ?_
          have hH2 : (fun w' => (CkS w w.heap.size (w.heap.size + 1 + 1) C a C.s.length c k z w' ∧ w'.cell? ⟨wr.heap.size, k, none⟩ = some (.int .i64 lo)) ∧ w'.cell? ⟨w5.heap.size, k, none⟩ = some (.int .i64 hi)) w6 := ⟨hHeld, hc6⟩
          clear hHeld hH1
          refine wpAnyH_take (i := 10) (oi := ?o9) (v := ?v9) ?hi9 ?hs9 ?hf9 ?hr9 ?hQ9 ?hy9 ?hS9 ?rest9
          case hi9 => rfl
          case hs9 => kernel_rfl
          case hf9 => kernel_rfl
          case hr9 => kernel_rfl
          case hQ9 => exact fun _ _ _ h => h
          case hS9 => assumption
          case hy9 =>
            refine Or.inl ⟨by kernel_rfl, ?_⟩
            intro w' hSw
            (try dsimp only at hSw)
            go_simp
            (try rfl)
          (try simp only [List.getElem_toArray, List.getElem_cons_succ, List.getElem_cons_zero, Act.put, List.setIfInBounds_toArray, List.set_cons_zero, List.set_cons_succ])
          refine wpAnyH_take (i := 11) (oi := ?o10) (v := ?v10) ?hi10 ?hs10 ?hf10 ?hr10 ?hQ10 ?hy10 ?hS10 ?rest10
          case hi10 => rfl
          case hs10 => kernel_rfl
          case hf10 => kernel_rfl
          case hr10 => kernel_rfl
          case hQ10 => exact fun _ _ _ h => h
          case hS10 => assumption
          case hy10 =>
            refine Or.inl ⟨by kernel_rfl, ?_⟩
            intro w' hSw
            (try dsimp only at hSw)
            go_simp
            (try rfl)
          (try simp only [List.getElem_toArray, List.getElem_cons_succ, List.getElem_cons_zero, Act.put, List.setIfInBounds_toArray, List.set_cons_zero, List.set_cons_succ])
          refine wpAnyH_ready (rs := [12]) (by kernel_rfl) (by simp) ?_
          refine AllReadyH.cons rfl (fun K hK => ?_) AllReadyH.nil
          · go_simp
            refine (specIn8 _ _ _ _).mono ?_
            rintro e w7 ⟨rfl, rfl⟩
            refine hK.out _ _ ?_ (fun hHeld => ?_)
            · exact hH2
            clear hK K
            (try simp only [List.getElem_toArray, List.getElem_cons_succ, List.getElem_cons_zero, Act.put, List.setIfInBounds_toArray, List.set_cons_zero, List.set_cons_succ])
            refine wpAnyH_take (i := 13) (oi := ?o11) (v := ?v11) ?hi11 ?hs11 ?hf11 ?hr11 ?hQ11 ?hy11 ?hS11 ?rest11
            case hi11 => rfl
            case hs11 => kernel_rfl
            case hf11 => kernel_rfl
            case hr11 => kernel_rfl
            case hQ11 => exact fun _ _ _ h => h
            case hS11 => assumption
            case hy11 =>
              refine Or.inl ⟨by kernel_rfl, ?_⟩
              intro w' hSw
              (try dsimp only at hSw)
              go_simp
              (try rfl)
            (try simp only [List.getElem_toArray, List.getElem_cons_succ, List.getElem_cons_zero, Act.put, List.setIfInBounds_toArray, List.set_cons_zero, List.set_cons_succ])
            refine wpAnyH_done (by kernel_rfl) ?_ _
            refine NoPanic.normal ?_
            obtain ⟨⟨⟨_, x0, x2, hB6⟩, _⟩, _⟩ := hHeld
            rcases Bool.eq_false_or_eq_true (inZ z lo hi) with hin | hin
            · have HN : Hid (numOk C (k + 1)) := Lib.hid (fun j hj => by
                by_cases hjk : j < k
                · exact HOK.out j hjk
                · obtain rfl : j = k := by omega
                  rw [HIN.out]
                  exact hin)
              rw [hin]
              go_wp2_with fail
              go_roundw
              case rel => exact ⟨k + 1, by omega, by go_num, HN.out, x0, x2, hB6⟩
              case measure => simp [intOf]; omega
            · have HN : Hid (okC C = false) := Lib.hid (okC_num hlt (HIN.out.trans hin))
              rw [hin]
              go_wp2_with fail
              go_ret
              exact ⟨ret_boolC HN.out.symm, hB6⟩
    · have hke : k = 5 := by omega
      have hk1 : ¬ (k : Int) < 5 := by omega
      have HOK5 : Hid (numOk C 5) := Lib.hid (by rw [← hke]; exact HOK.out)
      clear hke HOK X2 x2
      go_wp2_with fail
      go_loopw [2, 5] (fun _ i wr => ∃ j : Nat, j ≤ C.s.length ∧ i = .int .i64 j ∧ (∀ (q : Nat) z, q < j → C.s[q]? = some z → inZ z (-1) 1 = true) ∧ wr.heap[w.heap.size]? = some (.cells #[.int .i64 C.r, .int .i64 C.d, .int .i64 C.b, .int .i64 C.l, .int .i64 C.m, .int .i64 C.n, .int .i64 C.e, .slice a C.s.length c] 26 (0, 0)) ∧ Below w.heap.size w wr) (fun _ i _ => C.s.length - (intOf i).toNat)
      case atStart => exact ⟨0, Nat.zero_le _, rfl, fun q z hq => by omega, X0.out, hB⟩
      case round =>
        clear x0 hB X0
        obtain ⟨j, hj, rfl, hsg, x0, hB⟩ := hrel
        have HSG := Lib.hid hsg
        have X0 := Lib.hid x0
        have c5 := cell_blk x0 5
        have c6 := cell_blk x0 6
        have c7 := cell_blk x0 7
        have l0 := blk_lt x0
        clear hsg x0
        by_cases hlt : j < C.s.length
        · have hj1 : (j : Int) < C.s.length := by omega
          have hj0 : (0 : Int) ≤ j := by omega
          obtain ⟨z, hz⟩ : ∃ z, C.s[j]? = some z := ⟨_, List.getElem?_eq_getElem hlt⟩
          obtain ⟨b, off, rfl, hcz0⟩ := HC.out j z hz
          have hcz := (hB.cell (World.block_lt_of_cell? w _ hcz0)).trans hcz0
          have HZ := Lib.hid hz
          clear hz hcz0 c5 c6
          rcases Bool.eq_false_or_eq_true (inZ z (-1) 1) with hin | hin
          · have HI := Lib.hid hin
            clear hin
            go_wp2_with fail
            refine (specIn8 _ _ _ _).mono ?_
            rintro e w6 ⟨rfl, rfl⟩
            rw [HI.out]
            go_wp2_with fail
            go_roundw
            case rel =>
              refine ⟨j + 1, by omega, by go_num, fun q y hq hy => ?_, X0.out, hB⟩
              by_cases hqj : q < j
              · exact HSG.out q y hqj hy
              · obtain rfl : q = j := by omega
                rw [HZ.out] at hy
                obtain rfl := Option.some.inj hy
                exact HI.out
            case measure => simp [intOf]; omega
          · have HI := Lib.hid hin
            have HN : Hid (okC C = false) := Lib.hid (okC_sgn (List.mem_of_getElem? HZ.out) hin)
            clear hin
            go_wp2_with fail
            refine (specIn8 _ _ _ _).mono ?_
            rintro e w6 ⟨rfl, rfl⟩
            rw [HI.out]
            go_wp2_with fail
            go_ret
            exact ⟨ret_boolC HN.out.symm, hB⟩
        · have hj1 : ¬ (j : Int) < C.s.length := by omega
          have HR : Hid (okC C = (inZ C.e 1 1000 && inZ C.n 1 C.e && decide (C.s.length ≤ 4))) := Lib.hid (okC_rest HOK5.out (fun z hz => by
            obtain ⟨q, hq⟩ := List.getElem?_of_mem hz
            have hql := (List.getElem?_eq_some_iff.1 hq).1
            exact HSG.out q z (by omega) hq))
          clear HSG HOK5
          rcases Bool.eq_false_or_eq_true (inZ C.e 1 1000) with he | he
          · have HE := Lib.hid he
            rw [he] at HR
            rcases Bool.eq_false_or_eq_true (inZ C.n 1 C.e) with hn | hn
            · have HN := Lib.hid hn
              rw [hn] at HR
              have hd : Hid (decide (C.s.length ≤ 4) = decide ((C.s.length : Int) ≤ 4)) := Lib.hid (by
                by_cases h4 : C.s.length ≤ 4
                · rw [decide_eq_true h4, decide_eq_true (by omega)]
                · rw [decide_eq_false h4, decide_eq_false (by omega)])
              clear he hn
              go_wp2_with fail
              refine (specIn8 _ _ _ _).mono ?_
              rintro e w6 ⟨rfl, rfl⟩
              rw [HE.out]
              go_wp2_with fail
              refine (specIn8 _ _ _ _).mono ?_
              rintro e w6 ⟨rfl, rfl⟩
              rw [HN.out]
              go_wp2_with fail
              go_ret
              exact ⟨ret_boolC (a := decide ((C.s.length : Int) ≤ 4)) (by rw [HR.out, hd.out]; rfl), hB⟩
            · have HN := Lib.hid hn
              rw [hn] at HR
              clear he hn
              go_wp2_with fail
              refine (specIn8 _ _ _ _).mono ?_
              rintro e w6 ⟨rfl, rfl⟩
              rw [HE.out]
              go_wp2_with fail
              refine (specIn8 _ _ _ _).mono ?_
              rintro e w6 ⟨rfl, rfl⟩
              rw [HN.out]
              go_wp2_with fail
              go_ret
              exact ⟨ret_boolC (by rw [HR.out]; simp), hB⟩
          · have HE := Lib.hid he
            rw [he] at HR
            clear he
            go_wp2_with fail
            refine (specIn8 _ _ _ _).mono ?_
            rintro e w6 ⟨rfl, rfl⟩
            rw [HE.out]
            go_wp2_with fail
            go_ret
            exact ⟨ret_boolC (by rw [HR.out]; simp), hB⟩

end Go.Proofs.YtnnbhgnllbjmeaaGreatDoor
