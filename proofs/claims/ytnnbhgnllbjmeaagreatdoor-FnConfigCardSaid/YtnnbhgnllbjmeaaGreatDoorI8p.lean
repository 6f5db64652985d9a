/-
  The program's plain functions on settings: the usual ones, whether right, equal, a sign.
-/
import Derived.Test.YtnnbhgnllbjmeaaGreatDoorLawG8
import Derived.Test.YtnnbhgnllbjmeaaGreatDoorI8O
import Derived.Test.YtnnbhgnllbjmeaaGreatDoorShEqI
namespace Go.Proofs.YtnnbhgnllbjmeaaGreatDoor
open Go.RowKit

theorem implOk : ImplOk := fun C u w h _ => okG C u w h
set_option maxRecDepth 100000 in
theorem implUsual : ImplUsual := by
  intro w
  go_enter Tryz.func32, Tryz.ntmps32
  go_wp2_with fail
  refine bodyPost_ret (v := .agg #[.int .i64 4, .int .i64 2, .int .i64 4, .int .i64 1, .int .i64 1, .int .i64 1, .int .i64 1, .slice none 0 0]) ?_ rfl ⟨⟨_, rfl, ?_⟩, ?_⟩
  · rw [results_one rfl]
    go_simp
  · exact ⟨rfl, Or.inl ⟨rfl, rfl⟩⟩
  · exact below_al w _
theorem eqI64 (n : Nat) (a b : Int) (w : World) : (Op.equalIn (n + 1) 3 (.int .i64 a) (.int .i64 b)).run Tryz.prog w = .ok (a == b) w := by
  simp [Op.equalIn, run_underlying Tryz.underlying3]
theorem eqSeven (n : Nat) (a0 a1 a2 a3 a4 a5 a6 b0 b1 b2 b3 b4 b5 b6 : Int) (w : World) : (Op.equalIn (n + 1 + 1) 71 (.agg #[.int .i64 a0, .int .i64 a1, .int .i64 a2, .int .i64 a3, .int .i64 a4, .int .i64 a5, .int .i64 a6]) (.agg #[.int .i64 b0, .int .i64 b1, .int .i64 b2, .int .i64 b3, .int .i64 b4, .int .i64 b5, .int .i64 b6])).run Tryz.prog w = .ok (a0 == b0 && a1 == b1 && a2 == b2 && a3 == b3 && a4 == b4 && a5 == b5 && a6 == b6) w := by
  rw [Op.equalIn]
  simp [run_underlying Tryz.underlying71, go_sem, eqI64, List.range']
  by_cases h0 : a0 = b0 <;> by_cases h1 : a1 = b1 <;> by_cases h2 : a2 = b2 <;> by_cases h3 : a3 = b3 <;> by_cases h4 : a4 = b4 <;> by_cases h5 : a5 = b5 <;> by_cases h6 : a6 = b6 <;> simp [h0, h1, h2, h3, h4, h5, h6]
def sevenB (A B : Cfg) : Bool := A.r == B.r && A.d == B.d && A.b == B.b && A.l == B.l && A.m == B.m && A.n == B.n && A.e == B.e
theorem eqNumbers (A B : Cfg) (b : Bool) (h : sevenB A B = b) (w : World) : (Op.equalIn 10000 71 (.agg #[.int .i64 A.r, .int .i64 A.d, .int .i64 A.b, .int .i64 A.l, .int .i64 A.m, .int .i64 A.n, .int .i64 A.e]) (.agg #[.int .i64 B.r, .int .i64 B.d, .int .i64 B.b, .int .i64 B.l, .int .i64 B.m, .int .i64 B.n, .int .i64 B.e])).run Tryz.prog w = .ok b w := by
  rw [eqSeven 9998, ← h]
  rfl
theorem sameC_seven (A B : Cfg) : sameC A B = (sevenB A B && decide (A.s = B.s)) := by
  unfold sameC sameI numsC sevenB
  by_cases h : A.s = B.s <;> by_cases h0 : A.r = B.r <;> by_cases h1 : A.d = B.d <;> by_cases h2 : A.b = B.b <;> by_cases h3 : A.l = B.l <;> by_cases h4 : A.m = B.m <;> by_cases h5 : A.n = B.n <;> by_cases h6 : A.e = B.e <;> simp [h, h0, h1, h2, h3, h4, h5, h6]
set_option maxRecDepth 100000 in
theorem numbersG (C : Cfg) (a : Option Addr) (n c : Nat) (w : World) :
    Calls Tryz.prog 41 #[.agg #[.int .i64 C.r, .int .i64 C.d, .int .i64 C.b, .int .i64 C.l, .int .i64 C.m, .int .i64 C.n, .int .i64 C.e, .slice a n c]] w fun e w' => e = .returned (.agg #[.int .i64 C.r, .int .i64 C.d, .int .i64 C.b, .int .i64 C.l, .int .i64 C.m, .int .i64 C.n, .int .i64 C.e]) ∧ Below w.heap.size w w' := by
  go_enter Tryz.func41, Tryz.ntmps41
  go_wp2_with fail
  refine bodyPost_ret (v := .agg #[.int .i64 C.r, .int .i64 C.d, .int .i64 C.b, .int .i64 C.l, .int .i64 C.m, .int .i64 C.n, .int .i64 C.e]) ?_ rfl ⟨rfl, ?_⟩
  · rw [results_one rfl]
    go_simp
  · exact bt (below_al w _) (below_al _ _)
theorem slEqI (w : World) (u1 u2 : Value) (s1 s2 : List Int) (h1 : IntRow w u1 s1) (h2 : IntRow w u2 s2) :
    Calls Tryz.prog 42 #[u1, u2] w fun e w' => e = .returned (.bool (decide (s1 = s2))) ∧ ∃ q, w' = w.drewN q := by
  obtain ⟨a1, c1, rfl, hl1, hf1⟩ := intRow_form h1
  obtain ⟨a2, c2, rfl, hl2, hf2⟩ := intRow_form h2
  have at1 : ∀ (s : List Int) (j : Nat), j < s.length → s[j]? = some (s.getD j 0) := fun s j hj => by simp [List.getD, hj]
  by_cases hn : s1.length = s2.length
  · cases s1 with
    | nil =>
      obtain rfl : s2 = [] := List.length_eq_zero_iff.1 hn.symm
      refine (Tryz.slices_Equal_int_empty a1 a2 c1 0 c2 w (by omega)).mono fun e w' ⟨he, hw⟩ => ⟨?_, 0, hw⟩
      rw [he]
      rfl
    | cons x t =>
      obtain ⟨y, u, rfl⟩ : ∃ y u, s2 = y :: u := by
        cases s2 with
        | nil => simp at hn
        | cons y u => exact ⟨y, u, rfl⟩
      obtain ⟨b1, o1, rfl, _⟩ := hf1 0 x rfl
      obtain ⟨b2, o2, rfl, _⟩ := hf2 0 y rfl
      refine (Tryz.slices_Equal_int b1 o1 _ c1 b2 o2 _ c2 (x :: t) (y :: u) w (Nat.le_refl _) (Nat.le_refl _) hl1 hl2 ?_ ?_).mono fun e w' ⟨he, hw⟩ => ⟨?_, hw⟩
      · intro j hj
        obtain ⟨b, o, hb, hc⟩ := hf1 j _ (at1 _ j hj)
        injection hb with hb
        injection hb with hb ho _
        subst hb
        subst ho
        exact hc
      · intro j hj
        obtain ⟨b, o, hb, hc⟩ := hf2 j _ (at1 _ j hj)
        injection hb with hb
        injection hb with hb ho _
        subst hb
        subst ho
        exact hc
      · rw [he, List.take_of_length_le (Nat.le_refl _), List.take_of_length_le (Nat.le_refl _)]
        by_cases he : x :: t = y :: u
        · rw [he]; simp
        · rw [decide_eq_false he, beq_eq_false_iff_ne.2 he]
  · refine (Tryz.slices_Equal_int_lens a1 a2 s1.length c1 s2.length c2 w hn).mono fun e w' ⟨he, hw⟩ => ⟨?_, 0, hw⟩
    rw [he, decide_eq_false (fun e => hn (by rw [e]))]
set_option maxRecDepth 100000 in
set_option maxHeartbeats 4000000 in
theorem sameG_yes (A B : Cfg) (a1 a2 : Option Addr) (c1 c2 : Nat) (w : World) (hu : IntRow w (.slice a1 A.s.length c1) A.s) (hv : IntRow w (.slice a2 B.s.length c2) B.s) (h1 : sevenB A B = true) :
    Calls Tryz.prog 14 #[.agg #[.int .i64 A.r, .int .i64 A.d, .int .i64 A.b, .int .i64 A.l, .int .i64 A.m, .int .i64 A.n, .int .i64 A.e, .slice a1 A.s.length c1], .agg #[.int .i64 B.r, .int .i64 B.d, .int .i64 B.b, .int .i64 B.l, .int .i64 B.m, .int .i64 B.n, .int .i64 B.e, .slice a2 B.s.length c2]] w fun e w' => e = .returned (.bool (decide (A.s = B.s))) ∧ Below w.heap.size w w' := by
  have hQ := eqNumbers A B _ h1
  clear h1
  have H1 := Lib.hid hu
  have H2 := Lib.hid hv
  clear hu hv
  go_enter Tryz.func14, Tryz.ntmps14
  go_wp2_with fail
  have hS0 : SmS w w.heap.size (w.heap.size + 1) A B (.slice a1 A.s.length c1) (.slice a2 B.s.length c2) (World.drew _) := (SmS.made w A B (.slice a1 A.s.length c1) (.slice a2 B.s.length c2)).drew
  refine wp_region_noPanic ?_
  refine wp_region_held_drew (S := (SmS w w.heap.size (w.heap.size + 1) A B (.slice a1 A.s.length c1) (.slice a2 B.s.length c2))) (by kernel_rfl) hS0 (fun hHeld => ?_)
  clear hS0
  refine wpAnyH_take (i := 0) (oi := ?o96) (v := ?v96) ?hi96 ?hs96 ?hf96 ?hr96 ?hQ96 ?hy96 ?hS96 ?rest96
  case hi96 => rfl
  case hs96 => kernel_rfl
  case hf96 => kernel_rfl
  case hr96 => kernel_rfl
  case hQ96 => exact fun _ _ _ h => h
  case hS96 => assumption
  case hy96 =>
    refine Or.inl ⟨by kernel_rfl, ?_⟩
    intro w' hSw
    (try dsimp only at hSw)
    go_simp
    (try rfl)
  (try simp only [List.getElem_toArray, List.getElem_cons_zero, Act.put, List.setIfInBounds_toArray, List.set_cons_zero, List.set_cons_succ])
  refine wpAnyH_take (i := 2) (oi := ?o97) (v := ?v97) ?hi97 ?hs97 ?hf97 ?hr97 ?hQ97 ?hy97 ?hS97 ?rest97
  case hi97 => rfl
  case hs97 => kernel_rfl
  case hf97 => kernel_rfl
  case hr97 => kernel_rfl
  case hQ97 => exact fun _ _ _ h => h
  case hS97 => assumption
  case hy97 =>
    refine Or.inl ⟨by kernel_rfl, ?_⟩
    intro w' hSw
    (try dsimp only at hSw)
    go_simp
    (try rfl)
  (try simp only [List.getElem_toArray, List.getElem_cons_succ, List.getElem_cons_zero, Act.put, List.setIfInBounds_toArray, List.set_cons_zero, List.set_cons_succ])
  refine wpAnyH_ready (rs := [1]) (by kernel_rfl) (by simp) ?_
  refine AllReadyH.cons rfl (fun K hK => ?_) AllReadyH.nil
  go_simp
  refine (numbersG A _ _ _ _).mono ?_
  rintro e w5 ⟨rfl, hB5⟩
  refine hK.out _ _ ?_ (fun hHeld => ?_)
  · exact SmS.next hHeld hB5
  clear hK K
  (try simp only [List.getElem_toArray, List.getElem_cons_succ, List.getElem_cons_zero, Act.put, List.setIfInBounds_toArray, List.set_cons_zero, List.set_cons_succ])
  refine wpAnyH_ready (rs := [3]) (by kernel_rfl) (by simp) ?_
  refine AllReadyH.cons rfl (fun K hK => ?_) AllReadyH.nil
  go_simp
  refine (numbersG B _ _ _ _).mono ?_
  rintro e w6 ⟨rfl, hB6⟩
  refine hK.out _ _ ?_ (fun hHeld => ?_)
  · exact SmS.next hHeld hB6
  clear hK K
  (try simp only [List.getElem_toArray, List.getElem_cons_succ, List.getElem_cons_zero, Act.put, List.setIfInBounds_toArray, List.set_cons_zero, List.set_cons_succ])
  refine wpAnyH_take (i := 4) (oi := ?o98) (v := ?v98) ?hi98 ?hs98 ?hf98 ?hr98 ?hQ98 ?hy98 ?hS98 ?rest98
  case hi98 => rfl
  case hs98 => kernel_rfl
  case hf98 => kernel_rfl
  case hr98 => kernel_rfl
  case hQ98 => exact fun _ _ _ h => h
  case hS98 => assumption
  case hy98 =>
    refine Or.inl ⟨by kernel_rfl, ?_⟩
    intro w' hSw
    (try dsimp only at hSw)
    go_simp
    (try rfl)
  (try simp only [List.getElem_toArray, List.getElem_cons_succ, List.getElem_cons_zero, Act.put, List.setIfInBounds_toArray, List.set_cons_zero, List.set_cons_succ])
  refine wpAnyH_take (i := 5) (oi := ?o99) (v := ?v99) ?hi99 ?hs99 ?hf99 ?hr99 ?hQ99 ?hy99 ?hS99 ?rest99
  case hi99 => rfl
  case hs99 => kernel_rfl
  case hf99 => kernel_rfl
  case hr99 => kernel_rfl
  case hQ99 => exact fun _ _ _ h => h
  case hS99 => assumption
  case hy99 =>
    refine Or.inl ⟨by kernel_rfl, ?_⟩
    intro w' hSw
    (try dsimp only at hSw)
    go_simp
    (try rfl)
  (try simp only [List.getElem_toArray, List.getElem_cons_succ, List.getElem_cons_zero, Act.put, List.setIfInBounds_toArray, List.set_cons_zero, List.set_cons_succ])
  refine wpAnyH_take (i := 6) (oi := ?o100) (v := ?v100) ?hi100 ?hs100 ?hf100 ?hr100 ?hQ100 ?hy100 ?hS100 ?rest100
  case hi100 => rfl
  case hs100 => kernel_rfl
  case hf100 => kernel_rfl
  case hr100 => kernel_rfl
  case hQ100 => exact fun _ _ _ h => h
  case hS100 => assumption
  case hy100 =>
    refine Or.inl ⟨by kernel_rfl, ?_⟩
    intro w' hSw
    (try dsimp only at hSw)
    go_simp
    (try rfl)
  (try simp only [List.getElem_toArray, List.getElem_cons_succ, List.getElem_cons_zero, Act.put, List.setIfInBounds_toArray, List.set_cons_zero, List.set_cons_succ])
  refine wpAnyH_take (i := 7) (oi := ?o101) (v := ?v101) ?hi101 ?hs101 ?hf101 ?hr101 ?hQ101 ?hy101 ?hS101 ?rest101
  case hi101 => rfl
  case hs101 => kernel_rfl
  case hf101 => kernel_rfl
  case hr101 => kernel_rfl
  case hQ101 => exact fun _ _ _ h => h
  case hS101 => assumption
  case hy101 =>
    refine Or.inl ⟨by kernel_rfl, ?_⟩
    intro w' hSw
    (try dsimp only at hSw)
    go_simp
    (try rfl)
  (try simp only [List.getElem_toArray, List.getElem_cons_succ, List.getElem_cons_zero, Act.put, List.setIfInBounds_toArray, List.set_cons_zero, List.set_cons_succ])
  refine wpAnyH_take (i := 8) (oi := ?o102) (v := ?v102) ?hi102 ?hs102 ?hf102 ?hr102 ?hQ102 ?hy102 ?hS102 ?rest102
  case hi102 => rfl
  case hs102 => kernel_rfl
  case hf102 => kernel_rfl
  case hr102 => kernel_rfl
  case hQ102 => exact fun _ _ _ h => h
  case hS102 => assumption
  case hy102 =>
    refine Or.inl ⟨by kernel_rfl, ?_⟩
    intro w' hSw
    (try dsimp only at hSw)
    go_simp
    (try rfl)
  (try simp only [List.getElem_toArray, List.getElem_cons_succ, List.getElem_cons_zero, Act.put, List.setIfInBounds_toArray, List.set_cons_zero, List.set_cons_succ])
  refine wpAnyH_take (i := 9) (oi := ?o103) (v := ?v103) ?hi103 ?hs103 ?hf103 ?hr103 ?hQ103 ?hy103 ?hS103 ?rest103
  case hi103 => rfl
  case hs103 => kernel_rfl
  case hf103 => kernel_rfl
  case hr103 => kernel_rfl
  case hQ103 => exact fun _ _ _ h => h
  case hS103 => assumption
  case hy103 =>
    refine Or.inl ⟨by kernel_rfl, ?_⟩
    intro w' hSw
    (try dsimp only at hSw)
    go_simp
    (try rfl)
  (try simp only [List.getElem_toArray, List.getElem_cons_succ, List.getElem_cons_zero, Act.put, List.setIfInBounds_toArray, List.set_cons_zero, List.set_cons_succ])
  refine wpAnyH_ready (rs := [10]) (by kernel_rfl) (by simp) ?_
  refine AllReadyH.cons rfl (fun K hK => ?_) AllReadyH.nil
  go_simp
  refine (slEqI _ _ _ A.s B.s (H1.out.below hHeld.2.2.2.2.2.2.2.2.2.2.2.2.2.2.2.2) (H2.out.below hHeld.2.2.2.2.2.2.2.2.2.2.2.2.2.2.2.2)).mono ?_
  rintro e w7 ⟨rfl, q, rfl⟩
  refine hK.out _ _ ?_ (fun hHeld => ?_)
  · exact SmS.next hHeld (below_drewN2 (Below.refl _ _) q)
  clear hK K
  (try simp only [List.getElem_toArray, List.getElem_cons_succ, List.getElem_cons_zero, Act.put, List.setIfInBounds_toArray, List.set_cons_zero, List.set_cons_succ])
  refine wpAnyH_take (i := 11) (oi := ?o104) (v := ?v104) ?hi104 ?hs104 ?hf104 ?hr104 ?hQ104 ?hy104 ?hS104 ?rest104
  case hi104 => rfl
  case hs104 => kernel_rfl
  case hf104 => kernel_rfl
  case hr104 => kernel_rfl
  case hQ104 => exact fun _ _ _ h => h
  case hS104 => assumption
  case hy104 =>
    refine Or.inl ⟨by kernel_rfl, ?_⟩
    intro w' hSw
    (try dsimp only at hSw)
    go_simp
    (try rfl)
  (try simp only [List.getElem_toArray, List.getElem_cons_succ, List.getElem_cons_zero, Act.put, List.setIfInBounds_toArray, List.set_cons_zero, List.set_cons_succ])
  refine wpAnyH_take (i := 12) (oi := ?o105) (v := ?v105) ?hi105 ?hs105 ?hf105 ?hr105 ?hQ105 ?hy105 ?hS105 ?rest105
  case hi105 => rfl
  case hs105 => kernel_rfl
  case hf105 => kernel_rfl
  case hr105 => kernel_rfl
  case hQ105 => exact fun _ _ _ h => h
  case hS105 => assumption
  case hy105 =>
    refine Or.inl ⟨by kernel_rfl, ?_⟩
    intro w' hSw
    (try dsimp only at hSw)
    go_simp
    (try rfl)
  (try simp only [List.getElem_toArray, List.getElem_cons_succ, List.getElem_cons_zero, Act.put, List.setIfInBounds_toArray, List.set_cons_zero, List.set_cons_succ])
  refine wpAnyH_done (by kernel_rfl) ?_ _
  refine NoPanic.normal ?_
  go_wp2_with fail
  go_ret
  exact ⟨rfl, hHeld.2.2.2.2.2.2.2.2.2.2.2.2.2.2.2.2⟩
set_option maxRecDepth 100000 in
set_option maxHeartbeats 4000000 in
theorem sameG_no (A B : Cfg) (a1 a2 : Option Addr) (c1 c2 : Nat) (w : World) (h1 : sevenB A B = false) :
    Calls Tryz.prog 14 #[.agg #[.int .i64 A.r, .int .i64 A.d, .int .i64 A.b, .int .i64 A.l, .int .i64 A.m, .int .i64 A.n, .int .i64 A.e, .slice a1 A.s.length c1], .agg #[.int .i64 B.r, .int .i64 B.d, .int .i64 B.b, .int .i64 B.l, .int .i64 B.m, .int .i64 B.n, .int .i64 B.e, .slice a2 B.s.length c2]] w fun e w' => e = .returned (.bool false) ∧ Below w.heap.size w w' := by
  have hQ := eqNumbers A B _ h1
  clear h1
  go_enter Tryz.func14, Tryz.ntmps14
  go_wp2_with fail
  have hS0 : SmS w w.heap.size (w.heap.size + 1) A B (.slice a1 A.s.length c1) (.slice a2 B.s.length c2) (World.drew _) := (SmS.made w A B (.slice a1 A.s.length c1) (.slice a2 B.s.length c2)).drew
  refine wp_region_noPanic ?_
  refine wp_region_held_drew (S := (SmS w w.heap.size (w.heap.size + 1) A B (.slice a1 A.s.length c1) (.slice a2 B.s.length c2))) (by kernel_rfl) hS0 (fun hHeld => ?_)
  clear hS0
  refine wpAnyH_take (i := 0) (oi := ?o106) (v := ?v106) ?hi106 ?hs106 ?hf106 ?hr106 ?hQ106 ?hy106 ?hS106 ?rest106
  case hi106 => rfl
  case hs106 => kernel_rfl
  case hf106 => kernel_rfl
  case hr106 => kernel_rfl
  case hQ106 => exact fun _ _ _ h => h
  case hS106 => assumption
  case hy106 =>
    refine Or.inl ⟨by kernel_rfl, ?_⟩
    intro w' hSw
    (try dsimp only at hSw)
    go_simp
    (try rfl)
  (try simp only [List.getElem_toArray, List.getElem_cons_zero, Act.put, List.setIfInBounds_toArray, List.set_cons_zero, List.set_cons_succ])
  refine wpAnyH_take (i := 2) (oi := ?o107) (v := ?v107) ?hi107 ?hs107 ?hf107 ?hr107 ?hQ107 ?hy107 ?hS107 ?rest107
  case hi107 => rfl
  case hs107 => kernel_rfl
  case hf107 => kernel_rfl
  case hr107 => kernel_rfl
  case hQ107 => exact fun _ _ _ h => h
  case hS107 => assumption
  case hy107 =>
    refine Or.inl ⟨by kernel_rfl, ?_⟩
    intro w' hSw
    (try dsimp only at hSw)
    go_simp
    (try rfl)
  (try simp only [List.getElem_toArray, List.getElem_cons_succ, List.getElem_cons_zero, Act.put, List.setIfInBounds_toArray, List.set_cons_zero, List.set_cons_succ])
  refine wpAnyH_ready (rs := [1]) (by kernel_rfl) (by simp) ?_
  refine AllReadyH.cons rfl (fun K hK => ?_) AllReadyH.nil
  go_simp
  refine (numbersG A _ _ _ _).mono ?_
  rintro e w5 ⟨rfl, hB5⟩
  refine hK.out _ _ ?_ (fun hHeld => ?_)
  · exact SmS.next hHeld hB5
  clear hK K
  (try simp only [List.getElem_toArray, List.getElem_cons_succ, List.getElem_cons_zero, Act.put, List.setIfInBounds_toArray, List.set_cons_zero, List.set_cons_succ])
  refine wpAnyH_ready (rs := [3]) (by kernel_rfl) (by simp) ?_
  refine AllReadyH.cons rfl (fun K hK => ?_) AllReadyH.nil
  go_simp
  refine (numbersG B _ _ _ _).mono ?_
  rintro e w6 ⟨rfl, hB6⟩
  refine hK.out _ _ ?_ (fun hHeld => ?_)
  · exact SmS.next hHeld hB6
  clear hK K
  (try simp only [List.getElem_toArray, List.getElem_cons_succ, List.getElem_cons_zero, Act.put, List.setIfInBounds_toArray, List.set_cons_zero, List.set_cons_succ])
  refine wpAnyH_take (i := 4) (oi := ?o108) (v := ?v108) ?hi108 ?hs108 ?hf108 ?hr108 ?hQ108 ?hy108 ?hS108 ?rest108
  case hi108 => rfl
  case hs108 => kernel_rfl
  case hf108 => kernel_rfl
  case hr108 => kernel_rfl
  case hQ108 => exact fun _ _ _ h => h
  case hS108 => assumption
  case hy108 =>
    refine Or.inl ⟨by kernel_rfl, ?_⟩
    intro w' hSw
    (try dsimp only at hSw)
    go_simp
    (try rfl)
  (try simp only [List.getElem_toArray, List.getElem_cons_succ, List.getElem_cons_zero, Act.put, List.setIfInBounds_toArray, List.set_cons_zero, List.set_cons_succ])
  refine wpAnyH_take (i := 5) (oi := ?o109) (v := ?v109) ?hi109 ?hs109 ?hf109 ?hr109 ?hQ109 ?hy109 ?hS109 ?rest109
  case hi109 => rfl
  case hs109 => kernel_rfl
  case hf109 => kernel_rfl
  case hr109 => kernel_rfl
  case hQ109 => exact fun _ _ _ h => h
  case hS109 => assumption
  case hy109 =>
    refine Or.inl ⟨by kernel_rfl, ?_⟩
    intro w' hSw
    (try dsimp only at hSw)
    go_simp
    (try rfl)
  (try simp only [List.getElem_toArray, List.getElem_cons_succ, List.getElem_cons_zero, Act.put, List.setIfInBounds_toArray, List.set_cons_zero, List.set_cons_succ])
  refine wpAnyH_take (i := 6) (oi := ?o110) (v := undef) ?hi110 ?hs110 ?hf110 ?hr110 ?hQ110 ?hy110 ?hS110 ?rest110
  case hi110 => rfl
  case hs110 => kernel_rfl
  case hf110 => kernel_rfl
  case hr110 => kernel_rfl
  case hQ110 => exact fun _ _ _ h => h
  case hS110 => assumption
  case hy110 => exact Or.inr ⟨by kernel_rfl, rfl⟩
  (try simp only [List.getElem_toArray, List.getElem_cons_succ, List.getElem_cons_zero, Act.put, List.setIfInBounds_toArray, List.set_cons_zero, List.set_cons_succ])
  refine wpAnyH_take (i := 7) (oi := ?o111) (v := undef) ?hi111 ?hs111 ?hf111 ?hr111 ?hQ111 ?hy111 ?hS111 ?rest111
  case hi111 => rfl
  case hs111 => kernel_rfl
  case hf111 => kernel_rfl
  case hr111 => kernel_rfl
  case hQ111 => exact fun _ _ _ h => h
  case hS111 => assumption
  case hy111 => exact Or.inr ⟨by kernel_rfl, rfl⟩
  (try simp only [List.getElem_toArray, List.getElem_cons_succ, List.getElem_cons_zero, Act.put, List.setIfInBounds_toArray, List.set_cons_zero, List.set_cons_succ])
  refine wpAnyH_take (i := 8) (oi := ?o112) (v := undef) ?hi112 ?hs112 ?hf112 ?hr112 ?hQ112 ?hy112 ?hS112 ?rest112
  case hi112 => rfl
  case hs112 => kernel_rfl
  case hf112 => kernel_rfl
  case hr112 => kernel_rfl
  case hQ112 => exact fun _ _ _ h => h
  case hS112 => assumption
  case hy112 => exact Or.inr ⟨by kernel_rfl, rfl⟩
  (try simp only [List.getElem_toArray, List.getElem_cons_succ, List.getElem_cons_zero, Act.put, List.setIfInBounds_toArray, List.set_cons_zero, List.set_cons_succ])
  refine wpAnyH_take (i := 9) (oi := ?o113) (v := undef) ?hi113 ?hs113 ?hf113 ?hr113 ?hQ113 ?hy113 ?hS113 ?rest113
  case hi113 => rfl
  case hs113 => kernel_rfl
  case hf113 => kernel_rfl
  case hr113 => kernel_rfl
  case hQ113 => exact fun _ _ _ h => h
  case hS113 => assumption
  case hy113 => exact Or.inr ⟨by kernel_rfl, rfl⟩
  (try simp only [List.getElem_toArray, List.getElem_cons_succ, List.getElem_cons_zero, Act.put, List.setIfInBounds_toArray, List.set_cons_zero, List.set_cons_succ])
  refine wpAnyH_take (i := 10) (oi := ?o114) (v := undef) ?hi114 ?hs114 ?hf114 ?hr114 ?hQ114 ?hy114 ?hS114 ?rest114
  case hi114 => rfl
  case hs114 => kernel_rfl
  case hf114 => kernel_rfl
  case hr114 => kernel_rfl
  case hQ114 => exact fun _ _ _ h => h
  case hS114 => assumption
  case hy114 => exact Or.inr ⟨by kernel_rfl, rfl⟩
  (try simp only [List.getElem_toArray, List.getElem_cons_succ, List.getElem_cons_zero, Act.put, List.setIfInBounds_toArray, List.set_cons_zero, List.set_cons_succ])
  refine wpAnyH_take (i := 11) (oi := ?o115) (v := ?v115) ?hi115 ?hs115 ?hf115 ?hr115 ?hQ115 ?hy115 ?hS115 ?rest115
  case hi115 => rfl
  case hs115 => kernel_rfl
  case hf115 => kernel_rfl
  case hr115 => kernel_rfl
  case hQ115 => exact fun _ _ _ h => h
  case hS115 => assumption
  case hy115 =>
    refine Or.inl ⟨by kernel_rfl, ?_⟩
    intro w' hSw
    (try dsimp only at hSw)
    go_simp
    (try rfl)
  (try simp only [List.getElem_toArray, List.getElem_cons_succ, List.getElem_cons_zero, Act.put, List.setIfInBounds_toArray, List.set_cons_zero, List.set_cons_succ])
  refine wpAnyH_take (i := 12) (oi := ?o116) (v := ?v116) ?hi116 ?hs116 ?hf116 ?hr116 ?hQ116 ?hy116 ?hS116 ?rest116
  case hi116 => rfl
  case hs116 => kernel_rfl
  case hf116 => kernel_rfl
  case hr116 => kernel_rfl
  case hQ116 => exact fun _ _ _ h => h
  case hS116 => assumption
  case hy116 =>
    refine Or.inl ⟨by kernel_rfl, ?_⟩
    intro w' hSw
    (try dsimp only at hSw)
    go_simp
    (try rfl)
  (try simp only [List.getElem_toArray, List.getElem_cons_succ, List.getElem_cons_zero, Act.put, List.setIfInBounds_toArray, List.set_cons_zero, List.set_cons_succ])
  refine wpAnyH_done (by kernel_rfl) ?_ _
  refine NoPanic.normal ?_
  go_wp2_with fail
  go_ret
  exact ⟨rfl, hHeld.2.2.2.2.2.2.2.2.2.2.2.2.2.2.2.2⟩
theorem implSameC : ImplSameC := by
  intro A B u v w hu hv _ _
  obtain ⟨a1, c1, rfl, _⟩ := intRow_form hu
  obtain ⟨a2, c2, rfl, _⟩ := intRow_form hv
  cases h : sevenB A B with
  | true => exact (sameG_yes A B a1 a2 c1 c2 w hu hv h).mono fun e w' ⟨he, hB⟩ => ⟨by rw [he, sameC_seven, h]; rfl, hB⟩
  | false => exact (sameG_no A B a1 a2 c1 c2 w h).mono fun e w' ⟨he, hB⟩ => ⟨by rw [he, sameC_seven, h]; rfl, hB⟩
end Go.Proofs.YtnnbhgnllbjmeaaGreatDoor
