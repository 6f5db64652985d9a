/-
  What the reference answers for two settings: whether they are the same.
-/
import Derived.Test.YtnnbhgnllbjmeaaGreatDoorCfgR
namespace Go.Proofs.YtnnbhgnllbjmeaaGreatDoor
open Go.RowKit

/-- Whether two lists of numbers are equal. -/
def sameI (a b : List Int) : Bool := decide (a = b)
theorem sameI_yes {a b : List Int} (h : a = b) : sameI a b = true := decide_eq_true h
theorem sameI_no {a b : List Int} (h : ¬ a = b) : sameI a b = false := decide_eq_false h
def numsC (C : Cfg) : List Int := [C.r, C.d, C.b, C.l, C.m]
/-- Whether two settings are the same. -/
def sameC (A B : Cfg) : Bool := sameI (numsC A) (numsC B) && (A.n == B.n) && (A.e == B.e) && sameI A.s B.s
theorem sameC_self (C : Cfg) : sameC C C = true := by simp [sameC, sameI]
theorem sameC_iff {A B : Cfg} : sameC A B = true ↔ A = B := by
  constructor
  · intro h
    simp only [sameC, sameI, numsC, Bool.and_eq_true, decide_eq_true_eq, beq_iff_eq, List.cons.injEq] at h
    cases A
    cases B
    simp_all
  · rintro rfl
    exact sameC_self A
theorem take_bothI {a b : List Int} {j : Nat} {x y : Int} (ha : a[j]? = some x) (hb : b[j]? = some y) (h : a.take j = b.take j) (e : x = y) : a.take (j + 1) = b.take (j + 1) := by
  rw [List.take_add_one, List.take_add_one, ha, hb, h, e]
theorem at_neI {a b : List Int} {j : Nat} {x y : Int} (ha : a[j]? = some x) (hb : b[j]? = some y) (e : ¬ x = y) : ¬ a = b := by
  intro h
  rw [h, hb] at ha
  exact e (Option.some.inj ha).symm

set_option maxRecDepth 100000 in
set_option maxHeartbeats 2000000 in
theorem specInts_some (w : World) (a1 a2 : Option Addr) (c1 c2 : Nat) (L1 L2 : List Int) (hl : L1.length ≤ 9223372036854775807) (hl2 : L2.length ≤ 9223372036854775807)
    (h1 : ∀ (j : Nat) z, L1[j]? = some z → ∃ b off, a1 = some ⟨b, off, none⟩ ∧ w.cell? ⟨b, off + j, none⟩ = some (.int .i64 z)) (h2 : ∀ (j : Nat) z, L2[j]? = some z → ∃ b off, a2 = some ⟨b, off, none⟩ ∧ w.cell? ⟨b, off + j, none⟩ = some (.int .i64 z)) :
    Calls Tryz.prog 40 #[.slice a1 L1.length c1, .slice a2 L2.length c2] w fun e w' => e = .returned (.bool (sameI L1 L2)) ∧ ∃ k, w' = w.drewN k := by
  have H1 := Lib.hid h1
  have H2 := Lib.hid h2
  clear h1 h2
  obtain ⟨n, hn⟩ : ∃ n : Nat, L1.length = n := ⟨_, rfl⟩
  obtain ⟨n2, hn2⟩ : ∃ n : Nat, L2.length = n := ⟨_, rfl⟩
  rw [hn] at hl ⊢
  rw [hn2] at hl2 ⊢
  by_cases hnn : n = n2
  · obtain rfl := hnn
    have HE1 := Lib.hid hn
    have HE2 := Lib.hid hn2
    clear hn hn2
    go_enter Tryz.func40, Tryz.ntmps40
    go_wp2_with fail
    go_loopw [4, 5] (fun _ i wr => ∃ j z : Nat, j ≤ n ∧ i = .int .i64 j ∧ wr = w.drewN z ∧ L1.take j = L2.take j) (fun _ i _ => n - (intOf i).toNat)
    case atStart => exact ⟨0, 0, Nat.zero_le _, rfl, rfl, rfl⟩
    case round =>
      obtain ⟨j, z, hj, rfl, rfl, ht⟩ := hrel
      have HT := Lib.hid ht
      clear ht
      by_cases hlt : j < n
      · have hj1 : (j : Int) < n := by omega
        have hj0 : (0 : Int) ≤ j := by omega
        obtain ⟨x1, hx1⟩ : ∃ r, L1[j]? = some r := ⟨_, List.getElem?_eq_getElem (by rw [HE1.out]; exact hlt)⟩
        obtain ⟨x2, hx2⟩ : ∃ r, L2[j]? = some r := ⟨_, List.getElem?_eq_getElem (by rw [HE2.out]; exact hlt)⟩
        obtain ⟨b1, o1, rfl, hc1⟩ := H1.out j x1 hx1
        obtain ⟨b2, o2, rfl, hc2⟩ := H2.out j x2 hx2
        have HX1 := Lib.hid hx1
        have HX2 := Lib.hid hx2
        clear hx1 hx2
        by_cases hxx : x1 = x2
        · obtain rfl := hxx
          have g1 : (w.drewN z).cell? ⟨b1, o1 + j, none⟩ = some (.int .i64 x1) := hc1
          have g2 : (w.drewN z).cell? ⟨b2, o2 + j, none⟩ = some (.int .i64 x1) := hc2
          obtain ⟨wq, hwq⟩ : ∃ wq, w.drewN z = wq := ⟨_, rfl⟩
          rw [hwq] at g1 g2 ⊢
          have HW := Lib.hid hwq
          clear hwq
          clear hc1 hc2
          go_wp2_with fail
          go_quiet (fail)
          go_wp2_with fail
          go_roundw
          case rel => exact ⟨j + 1, _, by omega, by go_num, by rw [← HW.out, World.drewN_drewN], take_bothI HX1.out HX2.out HT.out rfl⟩
          case measure => simp [intOf]; omega
        · have HXX := Lib.hid hxx
          have hne : (x1 == x2) = false := beq_eq_false_iff_ne.2 hxx
          have hne2 : ¬ x1 = x2 := hxx
          clear hxx
          have g1 : (w.drewN z).cell? ⟨b1, o1 + j, none⟩ = some (.int .i64 x1) := hc1
          have g2 : (w.drewN z).cell? ⟨b2, o2 + j, none⟩ = some (.int .i64 x2) := hc2
          obtain ⟨wq, hwq⟩ : ∃ wq, w.drewN z = wq := ⟨_, rfl⟩
          rw [hwq] at g1 g2 ⊢
          have HW := Lib.hid hwq
          clear hwq
          clear hc1 hc2
          go_wp2_with fail
          go_quiet (fail)
          go_wp2_with fail
          go_ret
          exact ⟨ret_boolC (sameI_no (at_neI HX1.out HX2.out HXX.out)).symm, _, by rw [← HW.out, World.drewN_drewN]⟩
      · have hje : j = n := by omega
        have hj1 : ¬ (j : Int) < n := by omega
        have HLL : Hid (L1 = L2) := Lib.hid (by
          have h := HT.out
          rw [hje, show L1.take n = L1 from List.take_of_length_le (by rw [HE1.out]; exact Nat.le_refl _), show L2.take n = L2 from List.take_of_length_le (by rw [HE2.out]; exact Nat.le_refl _)] at h
          exact h)
        clear hje
        go_wp2_with fail
        go_ret
        exact ⟨ret_boolC (sameI_yes HLL.out).symm, z, rfl⟩
  · have HNE : Hid (¬ L1 = L2) := Lib.hid (by
      intro e
      rw [e, hn2] at hn
      exact hnn hn.symm)
    have hne : ¬ (n : Int) = n2 := by omega
    have hneN : (n == n2) = false := beq_eq_false_iff_ne.2 hnn
    clear hn hn2
    go_enter Tryz.func40, Tryz.ntmps40
    go_wp2_with fail
    go_ret
    exact ⟨ret_boolC (sameI_no HNE.out).symm, 0, rfl⟩

theorem specInts (w : World) (v1 v2 : Value) (L1 L2 : List Int) (h1 : IntRow w v1 L1) (h2 : IntRow w v2 L2) :
    Calls Tryz.prog 40 #[v1, v2] w fun e w' => e = .returned (.bool (sameI L1 L2)) ∧ Below w.heap.size w w' := by
  obtain ⟨a1, c1, rfl, hl1, k1⟩ := intRow_form h1
  obtain ⟨a2, c2, rfl, hl2, k2⟩ := intRow_form h2
  exact (specInts_some w a1 a2 c1 c2 L1 L2 hl1 hl2 k1 k2).mono fun e w' ⟨he, q, hw⟩ => ⟨he, by rw [hw]; exact below_drewN2 (Below.refl _ _) q⟩
theorem specNumbersR (C : Cfg) (u : Value) (w : World) (a : Option Addr) (n c : Nat) (hu : u = .slice a n c) :
    Calls Tryz.prog 26 #[.agg #[.int .i64 C.r, .int .i64 C.d, .int .i64 C.b, .int .i64 C.l, .int .i64 C.m, .int .i64 C.n, .int .i64 C.e, u]] w fun e w' => (∃ v, e = .returned v ∧ IntRow w' v (numsC C)) ∧ Below w.heap.size w w' := by
  refine (specNumbers C u w a n c hu).mono fun e w' ⟨he, hw⟩ => ⟨⟨_, he, ?_⟩, by rw [← hw]; exact bt (below_al w _) (below_al _ _)⟩
  rw [← hw]
  refine Or.inr ⟨w.heap.size + 1, 0, 5, rfl, by simp [numsC], by simp [numsC], fun j z hj => ?_⟩
  have hb := alloc_blk (w.alloc (.cells #[.int .i64 C.r, .int .i64 C.d, .int .i64 C.b, .int .i64 C.l, .int .i64 C.m, .int .i64 C.n, .int .i64 C.e, u] 26)) #[.int .i64 C.r, .int .i64 C.d, .int .i64 C.b, .int .i64 C.l, .int .i64 C.m] 3
  rw [size_alloc] at hb
  have hjl := (List.getElem?_eq_some_iff.1 hj).1
  rw [Nat.zero_add, cell_blk hb]
  have h5 : j < 5 := hjl
  rcases (by omega : j = 0 ∨ j = 1 ∨ j = 2 ∨ j = 3 ∨ j = 4) with rfl | rfl | rfl | rfl | rfl <;> (simp [numsC] at hj; subst hj; rfl)

/-- What the comparison keeps: the two boxes. -/
abbrev SmS (W : World) (P Q : Nat) (A B : Cfg) (u v : Value) (w' : World) : Prop := w'.cell? ⟨P, 0, none⟩ = some (.int .i64 A.r) ∧ w'.cell? ⟨P, 1, none⟩ = some (.int .i64 A.d) ∧ w'.cell? ⟨P, 2, none⟩ = some (.int .i64 A.b) ∧ w'.cell? ⟨P, 3, none⟩ = some (.int .i64 A.l) ∧ w'.cell? ⟨P, 4, none⟩ = some (.int .i64 A.m) ∧ w'.cell? ⟨P, 5, none⟩ = some (.int .i64 A.n) ∧ w'.cell? ⟨P, 6, none⟩ = some (.int .i64 A.e) ∧ w'.cell? ⟨P, 7, none⟩ = some (u) ∧ w'.cell? ⟨Q, 0, none⟩ = some (.int .i64 B.r) ∧ w'.cell? ⟨Q, 1, none⟩ = some (.int .i64 B.d) ∧ w'.cell? ⟨Q, 2, none⟩ = some (.int .i64 B.b) ∧ w'.cell? ⟨Q, 3, none⟩ = some (.int .i64 B.l) ∧ w'.cell? ⟨Q, 4, none⟩ = some (.int .i64 B.m) ∧ w'.cell? ⟨Q, 5, none⟩ = some (.int .i64 B.n) ∧ w'.cell? ⟨Q, 6, none⟩ = some (.int .i64 B.e) ∧ w'.cell? ⟨Q, 7, none⟩ = some (v) ∧ Below W.heap.size W w'
theorem SmS.next {W w w' : World} {P Q : Nat} {A B : Cfg} {u v : Value} (h : SmS W P Q A B u v w) (hB : Below w.heap.size w w') : SmS W P Q A B u v w' := by
  have k : ∀ {a : Addr} {x : Value}, w.cell? a = some x → w'.cell? a = some x := fun h => (hB.cell (World.block_lt_of_cell? w _ h)).trans h
  obtain ⟨h0, h1, h2, h3, h4, h5, h6, h7, h8, h9, h10, h11, h12, h13, h14, h15, h16⟩ := h
  exact ⟨k h0, k h1, k h2, k h3, k h4, k h5, k h6, k h7, k h8, k h9, k h10, k h11, k h12, k h13, k h14, k h15, h16.trans (hB.mono h16.size)⟩
theorem SmS.drew {W w : World} {P Q : Nat} {A B : Cfg} {u v : Value} (h : SmS W P Q A B u v w) : SmS W P Q A B u v w.drew := by
  obtain ⟨h0, h1, h2, h3, h4, h5, h6, h7, h8, h9, h10, h11, h12, h13, h14, h15, h16⟩ := h
  exact ⟨h0, h1, h2, h3, h4, h5, h6, h7, h8, h9, h10, h11, h12, h13, h14, h15, h16.drew⟩
theorem SmS.made (w : World) (A B : Cfg) (u v : Value) : SmS w w.heap.size (w.heap.size + 1) A B u v ((w.alloc (.cells #[.int .i64 A.r, .int .i64 A.d, .int .i64 A.b, .int .i64 A.l, .int .i64 A.m, .int .i64 A.n, .int .i64 A.e, u] 26)).alloc (.cells #[.int .i64 B.r, .int .i64 B.d, .int .i64 B.b, .int .i64 B.l, .int .i64 B.m, .int .i64 B.n, .int .i64 B.e, v] 26)) := by
  have x0 := blk_alloc (alloc_blk w #[.int .i64 A.r, .int .i64 A.d, .int .i64 A.b, .int .i64 A.l, .int .i64 A.m, .int .i64 A.n, .int .i64 A.e, u] 26) (.cells #[.int .i64 B.r, .int .i64 B.d, .int .i64 B.b, .int .i64 B.l, .int .i64 B.m, .int .i64 B.n, .int .i64 B.e, v] 26)
  have x1 := alloc_blk (w.alloc (.cells #[.int .i64 A.r, .int .i64 A.d, .int .i64 A.b, .int .i64 A.l, .int .i64 A.m, .int .i64 A.n, .int .i64 A.e, u] 26)) #[.int .i64 B.r, .int .i64 B.d, .int .i64 B.b, .int .i64 B.l, .int .i64 B.m, .int .i64 B.n, .int .i64 B.e, v] 26
  rw [size_alloc] at x1
  exact ⟨cell_blk x0 0, cell_blk x0 1, cell_blk x0 2, cell_blk x0 3, cell_blk x0 4, cell_blk x0 5, cell_blk x0 6, cell_blk x0 7, cell_blk x1 0, cell_blk x1 1, cell_blk x1 2, cell_blk x1 3, cell_blk x1 4, cell_blk x1 5, cell_blk x1 6, cell_blk x1 7, bt (below_al w _) (below_al _ _)⟩

set_option maxRecDepth 100000 in
set_option maxHeartbeats 8000000 in
theorem specSameConfig (A B : Cfg) (u v : Value) (w : World) (hru : IntRow w u A.s) (hrv : IntRow w v B.s) :
    Calls Tryz.prog 13 #[.agg #[.int .i64 A.r, .int .i64 A.d, .int .i64 A.b, .int .i64 A.l, .int .i64 A.m, .int .i64 A.n, .int .i64 A.e, u], .agg #[.int .i64 B.r, .int .i64 B.d, .int .i64 B.b, .int .i64 B.l, .int .i64 B.m, .int .i64 B.n, .int .i64 B.e, v]] w fun e w' => e = .returned (.bool (sameC A B)) ∧ Below w.heap.size w w' := by
  obtain ⟨a1, c1, rfl, _⟩ := intRow_form hru
  obtain ⟨a2, c2, rfl, _⟩ := intRow_form hrv
  rcases Bool.eq_false_or_eq_true (sameI (numsC A) (numsC B)) with e1 | e1
  · rcases Bool.eq_false_or_eq_true (A.n == B.n) with e2 | e2
    · rcases Bool.eq_false_or_eq_true (A.e == B.e) with e3 | e3
      · have HE : Hid (sameI A.s B.s = sameC A B) := Lib.hid (by rw [sameC, e1, e2, e3]; rfl)
        have h1 := Lib.hid e1
        clear e1
        go_enter Tryz.func13, Tryz.ntmps13
        go_wp2_with fail
        have hS0 : SmS w w.heap.size (w.heap.size + 1) A B (.slice a1 A.s.length c1) (.slice a2 B.s.length c2) (World.drew _) := (SmS.made w A B (.slice a1 A.s.length c1) (.slice a2 B.s.length c2)).drew
        have hB0 : Below w.heap.size w (World.drew _) := (bt (below_al w (.cells #[.int .i64 A.r, .int .i64 A.d, .int .i64 A.b, .int .i64 A.l, .int .i64 A.m, .int .i64 A.n, .int .i64 A.e, .slice a1 A.s.length c1] 26)) (below_al _ (.cells #[.int .i64 B.r, .int .i64 B.d, .int .i64 B.b, .int .i64 B.l, .int .i64 B.m, .int .i64 B.n, .int .i64 B.e, .slice a2 B.s.length c2] 26))).drew
        refine wp_region_noPanic ?_
        refine wp_region_held_drew (S := (SmS w w.heap.size (w.heap.size + 1) A B (.slice a1 A.s.length c1) (.slice a2 B.s.length c2))) (by kernel_rfl) hS0 (fun hHeld => ?_)
        clear hS0
        refine wpAnyH_take (i := 0) (oi := ?o22) (v := ?v22) ?hi22 ?hs22 ?hf22 ?hr22 ?hQ22 ?hy22 ?hS22 ?rest22
        case hi22 => rfl
        case hs22 => kernel_rfl
        case hf22 => kernel_rfl
        case hr22 => kernel_rfl
        case hQ22 => exact fun _ _ _ h => h
        case hS22 => assumption
        case hy22 =>
          refine Or.inl ⟨by kernel_rfl, ?_⟩
          intro w' hSw
          (try dsimp only at hSw)
          go_simp
          (try rfl)
        (try simp only [List.getElem_toArray, List.getElem_cons_zero, Act.put, List.setIfInBounds_toArray, List.set_cons_zero, List.set_cons_succ])
        refine wpAnyH_take (i := 2) (oi := ?o23) (v := ?v23) ?hi23 ?hs23 ?hf23 ?hr23 ?hQ23 ?hy23 ?hS23 ?rest23
        case hi23 => rfl
        case hs23 => kernel_rfl
        case hf23 => kernel_rfl
        case hr23 => kernel_rfl
        case hQ23 => exact fun _ _ _ h => h
        case hS23 => assumption
        case hy23 =>
          refine Or.inl ⟨by kernel_rfl, ?_⟩
          intro w' hSw
          (try dsimp only at hSw)
          go_simp
          (try rfl)
        (try simp only [List.getElem_toArray, List.getElem_cons_succ, List.getElem_cons_zero, Act.put, List.setIfInBounds_toArray, List.set_cons_zero, List.set_cons_succ])
        refine wpAnyH_ready (rs := [1]) (by kernel_rfl) (by simp) ?_
        refine AllReadyH.cons rfl (fun K hK => ?_) AllReadyH.nil
        · go_simp
          refine (specNumbersR A _ _ a1 A.s.length c1 rfl).mono ?_
          rintro e w5 ⟨⟨v5, rfl, hr5⟩, hB5⟩
          refine hK.out _ _ ?_ (fun hHeld => ?_)
          · exact SmS.next hHeld hB5
          clear hK K
          (try simp only [List.getElem_toArray, List.getElem_cons_succ, List.getElem_cons_zero, Act.put, List.setIfInBounds_toArray, List.set_cons_zero, List.set_cons_succ])
          refine wpAnyH_ready (rs := [3]) (by kernel_rfl) (by simp) ?_
          refine AllReadyH.cons rfl (fun K hK => ?_) AllReadyH.nil
          · go_simp
            refine (specNumbersR B _ _ a2 B.s.length c2 rfl).mono ?_
            rintro e w6 ⟨⟨v6, rfl, hr6⟩, hB6⟩
            refine hK.out _ _ ?_ (fun hHeld => ?_)
            · exact SmS.next hHeld hB6
            clear hK K
            (try simp only [List.getElem_toArray, List.getElem_cons_succ, List.getElem_cons_zero, Act.put, List.setIfInBounds_toArray, List.set_cons_zero, List.set_cons_succ])
            refine wpAnyH_ready (rs := [4]) (by kernel_rfl) (by simp) ?_
            refine AllReadyH.cons rfl (fun K hK => ?_) AllReadyH.nil
            · go_simp
              refine (specInts _ _ _ (numsC A) (numsC B) (hr5.below hB6) hr6).mono ?_
              rintro e w7 ⟨rfl, hB7⟩
              rw [h1.out]
              refine hK.out _ _ ?_ (fun hHeld => ?_)
              · exact SmS.next hHeld hB7
              clear hK K
              (try simp only [List.getElem_toArray, List.getElem_cons_succ, List.getElem_cons_zero, Act.put, List.setIfInBounds_toArray, List.set_cons_zero, List.set_cons_succ])
              refine wpAnyH_take (i := 5) (oi := ?o1) (v := ?v1) ?hi1 ?hs1 ?hf1 ?hr1 ?hQ1 ?hy1 ?hS1 ?rest1
              case hi1 => rfl
              case hs1 => kernel_rfl
              case hf1 => kernel_rfl
              case hr1 => kernel_rfl
              case hQ1 => exact fun _ _ _ h => h
              case hS1 => assumption
              case hy1 =>
                refine Or.inl ⟨by kernel_rfl, ?_⟩
                intro w' hSw
                (try dsimp only at hSw)
                go_simp
                (try rfl)
              (try simp only [List.getElem_toArray, List.getElem_cons_succ, List.getElem_cons_zero, Act.put, List.setIfInBounds_toArray, List.set_cons_zero, List.set_cons_succ])
              refine wpAnyH_take (i := 6) (oi := ?o2) (v := ?v2) ?hi2 ?hs2 ?hf2 ?hr2 ?hQ2 ?hy2 ?hS2 ?rest2
              case hi2 => rfl
              case hs2 => kernel_rfl
              case hf2 => kernel_rfl
              case hr2 => kernel_rfl
              case hQ2 => exact fun _ _ _ h => h
              case hS2 => assumption
              case hy2 =>
                refine Or.inl ⟨by kernel_rfl, ?_⟩
                intro w' hSw
                (try dsimp only at hSw)
                go_simp
                (try rfl)
              (try simp only [List.getElem_toArray, List.getElem_cons_succ, List.getElem_cons_zero, Act.put, List.setIfInBounds_toArray, List.set_cons_zero, List.set_cons_succ])
              refine wpAnyH_take (i := 7) (oi := ?o3) (v := ?v3) ?hi3 ?hs3 ?hf3 ?hr3 ?hQ3 ?hy3 ?hS3 ?rest3
              case hi3 => rfl
              case hs3 => kernel_rfl
              case hf3 => kernel_rfl
              case hr3 => kernel_rfl
              case hQ3 => exact fun _ _ _ h => h
              case hS3 => assumption
              case hy3 =>
                refine Or.inl ⟨by kernel_rfl, ?_⟩
                intro w' hSw
                (try dsimp only at hSw)
                go_simp
                (try rfl)
              (try simp only [List.getElem_toArray, List.getElem_cons_succ, List.getElem_cons_zero, Act.put, List.setIfInBounds_toArray, List.set_cons_zero, List.set_cons_succ])
              refine wpAnyH_take (i := 8) (oi := ?o4) (v := ?v4) ?hi4 ?hs4 ?hf4 ?hr4 ?hQ4 ?hy4 ?hS4 ?rest4
              case hi4 => rfl
              case hs4 => kernel_rfl
              case hf4 => kernel_rfl
              case hr4 => kernel_rfl
              case hQ4 => exact fun _ _ _ h => h
              case hS4 => assumption
              case hy4 =>
                refine Or.inl ⟨by kernel_rfl, ?_⟩
                intro w' hSw
                (try dsimp only at hSw)
                go_simp
                (try rfl)
              (try simp only [List.getElem_toArray, List.getElem_cons_succ, List.getElem_cons_zero, Act.put, List.setIfInBounds_toArray, List.set_cons_zero, List.set_cons_succ])
              refine wpAnyH_take (i := 9) (oi := ?o5) (v := ?v5) ?hi5 ?hs5 ?hf5 ?hr5 ?hQ5 ?hy5 ?hS5 ?rest5
              case hi5 => rfl
              case hs5 => kernel_rfl
              case hf5 => kernel_rfl
              case hr5 => kernel_rfl
              case hQ5 => exact fun _ _ _ h => h
              case hS5 => assumption
              case hy5 =>
                refine Or.inl ⟨by kernel_rfl, ?_⟩
                intro w' hSw
                (try dsimp only at hSw)
                go_simp
                (try rfl)
              (try simp only [List.getElem_toArray, List.getElem_cons_succ, List.getElem_cons_zero, Act.put, List.setIfInBounds_toArray, List.set_cons_zero, List.set_cons_succ])
              refine wpAnyH_take (i := 10) (oi := ?o6) (v := ?v6) ?hi6 ?hs6 ?hf6 ?hr6 ?hQ6 ?hy6 ?hS6 ?rest6
              case hi6 => rfl
              case hs6 => kernel_rfl
              case hf6 => kernel_rfl
              case hr6 => kernel_rfl
              case hQ6 => exact fun _ _ _ h => h
              case hS6 => assumption
              case hy6 =>
                refine Or.inl ⟨by kernel_rfl, ?_⟩
                intro w' hSw
                (try dsimp only at hSw)
                go_simp
                (try rfl)
              (try simp only [List.getElem_toArray, List.getElem_cons_succ, List.getElem_cons_zero, Act.put, List.setIfInBounds_toArray, List.set_cons_zero, List.set_cons_succ])
              refine wpAnyH_take (i := 11) (oi := ?o7) (v := ?v7) ?hi7 ?hs7 ?hf7 ?hr7 ?hQ7 ?hy7 ?hS7 ?rest7
              case hi7 => rfl
              case hs7 => kernel_rfl
              case hf7 => kernel_rfl
              case hr7 => kernel_rfl
              case hQ7 => exact fun _ _ _ h => h
              case hS7 => assumption
              case hy7 =>
                refine Or.inl ⟨by kernel_rfl, ?_⟩
                intro w' hSw
                (try dsimp only at hSw)
                go_simp
                (try rfl)
              (try simp only [List.getElem_toArray, List.getElem_cons_succ, List.getElem_cons_zero, Act.put, List.setIfInBounds_toArray, List.set_cons_zero, List.set_cons_succ])
              refine wpAnyH_take (i := 12) (oi := ?o8) (v := ?v8) ?hi8 ?hs8 ?hf8 ?hr8 ?hQ8 ?hy8 ?hS8 ?rest8
              case hi8 => rfl
              case hs8 => kernel_rfl
              case hf8 => kernel_rfl
              case hr8 => kernel_rfl
              case hQ8 => exact fun _ _ _ h => h
              case hS8 => assumption
              case hy8 =>
                refine Or.inl ⟨by kernel_rfl, ?_⟩
                intro w' hSw
                (try dsimp only at hSw)
                go_simp
                (try rfl)
              (try simp only [List.getElem_toArray, List.getElem_cons_succ, List.getElem_cons_zero, Act.put, List.setIfInBounds_toArray, List.set_cons_zero, List.set_cons_succ])
              refine wpAnyH_take (i := 13) (oi := ?o9) (v := ?v9) ?hi9 ?hs9 ?hf9 ?hr9 ?hQ9 ?hy9 ?hS9 ?rest9
              case hi9 => rfl
              case hs9 => kernel_rfl
              case hf9 => kernel_rfl
              case hr9 => kernel_rfl
              case hQ9 => exact fun _ _ _ h => h
              case hS9 => assumption
              case hy9 =>
                refine Or.inl ⟨by kernel_rfl, ?_⟩
                intro w' hSw
                (try dsimp only at hSw)
                go_simp
                (try rfl)
              (try simp only [List.getElem_toArray, List.getElem_cons_succ, List.getElem_cons_zero, Act.put, List.setIfInBounds_toArray, List.set_cons_zero, List.set_cons_succ])
              refine wpAnyH_take (i := 14) (oi := ?o10) (v := ?v10) ?hi10 ?hs10 ?hf10 ?hr10 ?hQ10 ?hy10 ?hS10 ?rest10
              case hi10 => rfl
              case hs10 => kernel_rfl
              case hf10 => kernel_rfl
              case hr10 => kernel_rfl
              case hQ10 => exact fun _ _ _ h => h
              case hS10 => assumption
              case hy10 =>
                refine Or.inl ⟨by kernel_rfl, ?_⟩
                intro w' hSw
                (try dsimp only at hSw)
                go_simp
                (try rfl)
              (try simp only [List.getElem_toArray, List.getElem_cons_succ, List.getElem_cons_zero, Act.put, List.setIfInBounds_toArray, List.set_cons_zero, List.set_cons_succ])
              refine wpAnyH_take (i := 15) (oi := ?o11) (v := ?v11) ?hi11 ?hs11 ?hf11 ?hr11 ?hQ11 ?hy11 ?hS11 ?rest11
              case hi11 => rfl
              case hs11 => kernel_rfl
              case hf11 => kernel_rfl
              case hr11 => kernel_rfl
              case hQ11 => exact fun _ _ _ h => h
              case hS11 => assumption
              case hy11 =>
                refine Or.inl ⟨by kernel_rfl, ?_⟩
                intro w' hSw
                (try dsimp only at hSw)
                go_simp
                (try rfl)
              (try simp only [List.getElem_toArray, List.getElem_cons_succ, List.getElem_cons_zero, Act.put, List.setIfInBounds_toArray, List.set_cons_zero, List.set_cons_succ])
              refine wpAnyH_take (i := 16) (oi := ?o12) (v := ?v12) ?hi12 ?hs12 ?hf12 ?hr12 ?hQ12 ?hy12 ?hS12 ?rest12
              case hi12 => rfl
              case hs12 => kernel_rfl
              case hf12 => kernel_rfl
              case hr12 => kernel_rfl
              case hQ12 => exact fun _ _ _ h => h
              case hS12 => assumption
              case hy12 =>
                refine Or.inl ⟨by kernel_rfl, ?_⟩
                intro w' hSw
                (try dsimp only at hSw)
                go_simp
                (try rfl)
              (try simp only [List.getElem_toArray, List.getElem_cons_succ, List.getElem_cons_zero, Act.put, List.setIfInBounds_toArray, List.set_cons_zero, List.set_cons_succ])
              refine wpAnyH_take (i := 17) (oi := ?o13) (v := ?v13) ?hi13 ?hs13 ?hf13 ?hr13 ?hQ13 ?hy13 ?hS13 ?rest13
              case hi13 => rfl
              case hs13 => kernel_rfl
              case hf13 => kernel_rfl
              case hr13 => kernel_rfl
              case hQ13 => exact fun _ _ _ h => h
              case hS13 => assumption
              case hy13 =>
                refine Or.inl ⟨by kernel_rfl, ?_⟩
                intro w' hSw
                (try dsimp only at hSw)
                go_simp
                (try rfl)
              (try simp only [List.getElem_toArray, List.getElem_cons_succ, List.getElem_cons_zero, Act.put, List.setIfInBounds_toArray, List.set_cons_zero, List.set_cons_succ])
              refine wpAnyH_take (i := 18) (oi := ?o14) (v := ?v14) ?hi14 ?hs14 ?hf14 ?hr14 ?hQ14 ?hy14 ?hS14 ?rest14
              case hi14 => rfl
              case hs14 => kernel_rfl
              case hf14 => kernel_rfl
              case hr14 => kernel_rfl
              case hQ14 => exact fun _ _ _ h => h
              case hS14 => assumption
              case hy14 =>
                refine Or.inl ⟨by kernel_rfl, ?_⟩
                intro w' hSw
                (try dsimp only at hSw)
                go_simp
                (try rfl)
              (try simp only [List.getElem_toArray, List.getElem_cons_succ, List.getElem_cons_zero, Act.put, List.setIfInBounds_toArray, List.set_cons_zero, List.set_cons_succ])
              refine wpAnyH_take (i := 19) (oi := ?o15) (v := ?v15) ?hi15 ?hs15 ?hf15 ?hr15 ?hQ15 ?hy15 ?hS15 ?rest15
              case hi15 => rfl
              case hs15 => kernel_rfl
              case hf15 => kernel_rfl
              case hr15 => kernel_rfl
              case hQ15 => exact fun _ _ _ h => h
              case hS15 => assumption
              case hy15 =>
                refine Or.inl ⟨by kernel_rfl, ?_⟩
                intro w' hSw
                (try dsimp only at hSw)
                go_simp
                (try rfl)
              (try simp only [List.getElem_toArray, List.getElem_cons_succ, List.getElem_cons_zero, Act.put, List.setIfInBounds_toArray, List.set_cons_zero, List.set_cons_succ])
              refine wpAnyH_take (i := 20) (oi := ?o16) (v := ?v16) ?hi16 ?hs16 ?hf16 ?hr16 ?hQ16 ?hy16 ?hS16 ?rest16
              case hi16 => rfl
              case hs16 => kernel_rfl
              case hf16 => kernel_rfl
              case hr16 => kernel_rfl
              case hQ16 => exact fun _ _ _ h => h
              case hS16 => assumption
              case hy16 =>
                refine Or.inl ⟨by kernel_rfl, ?_⟩
                intro w' hSw
                (try dsimp only at hSw)
                go_simp
                (try rfl)
              (try simp only [List.getElem_toArray, List.getElem_cons_succ, List.getElem_cons_zero, Act.put, List.setIfInBounds_toArray, List.set_cons_zero, List.set_cons_succ])
              refine wpAnyH_take (i := 21) (oi := ?o17) (v := ?v17) ?hi17 ?hs17 ?hf17 ?hr17 ?hQ17 ?hy17 ?hS17 ?rest17
              case hi17 => rfl
              case hs17 => kernel_rfl
              case hf17 => kernel_rfl
              case hr17 => kernel_rfl
              case hQ17 => exact fun _ _ _ h => h
              case hS17 => assumption
              case hy17 =>
                refine Or.inl ⟨by kernel_rfl, ?_⟩
                intro w' hSw
                (try dsimp only at hSw)
                go_simp
                (try rfl)
              (try simp only [List.getElem_toArray, List.getElem_cons_succ, List.getElem_cons_zero, Act.put, List.setIfInBounds_toArray, List.set_cons_zero, List.set_cons_succ])
              refine wpAnyH_take (i := 22) (oi := ?o18) (v := ?v18) ?hi18 ?hs18 ?hf18 ?hr18 ?hQ18 ?hy18 ?hS18 ?rest18
              case hi18 => rfl
              case hs18 => kernel_rfl
              case hf18 => kernel_rfl
              case hr18 => kernel_rfl
              case hQ18 => exact fun _ _ _ h => h
              case hS18 => assumption
              case hy18 =>
                refine Or.inl ⟨by kernel_rfl, ?_⟩
                intro w' hSw
                (try dsimp only at hSw)
                go_simp
                (try rfl)
              (try simp only [List.getElem_toArray, List.getElem_cons_succ, List.getElem_cons_zero, Act.put, List.setIfInBounds_toArray, List.set_cons_zero, List.set_cons_succ])
              refine wpAnyH_take (i := 23) (oi := ?o19) (v := ?v19) ?hi19 ?hs19 ?hf19 ?hr19 ?hQ19 ?hy19 ?hS19 ?rest19
              case hi19 => rfl
              case hs19 => kernel_rfl
              case hf19 => kernel_rfl
              case hr19 => kernel_rfl
              case hQ19 => exact fun _ _ _ h => h
              case hS19 => assumption
              case hy19 =>
                refine Or.inl ⟨by kernel_rfl, ?_⟩
                intro w' hSw
                (try dsimp only at hSw)
                go_simp
                (try rfl)
              (try simp only [List.getElem_toArray, List.getElem_cons_succ, List.getElem_cons_zero, Act.put, List.setIfInBounds_toArray, List.set_cons_zero, List.set_cons_succ])
              refine wpAnyH_ready (rs := [24]) (by kernel_rfl) (by simp) ?_
              refine AllReadyH.cons rfl (fun K hK => ?_) AllReadyH.nil
              · go_simp
                refine (specInts _ _ _ A.s B.s (hru.below (bt hB0 (bt hB5 (bt hB6 hB7)))) (hrv.below (bt hB0 (bt hB5 (bt hB6 hB7))))).mono ?_
                rintro e w8 ⟨rfl, hB8⟩
                refine hK.out _ _ ?_ (fun hHeld => ?_)
                · exact SmS.next hHeld hB8
                clear hK K
                (try simp only [List.getElem_toArray, List.getElem_cons_succ, List.getElem_cons_zero, Act.put, List.setIfInBounds_toArray, List.set_cons_zero, List.set_cons_succ])
                refine wpAnyH_take (i := 25) (oi := ?o20) (v := ?v20) ?hi20 ?hs20 ?hf20 ?hr20 ?hQ20 ?hy20 ?hS20 ?rest20
                case hi20 => rfl
                case hs20 => kernel_rfl
                case hf20 => kernel_rfl
                case hr20 => kernel_rfl
                case hQ20 => exact fun _ _ _ h => h
                case hS20 => assumption
                case hy20 =>
                  refine Or.inl ⟨by kernel_rfl, ?_⟩
                  intro w' hSw
                  (try dsimp only at hSw)
                  go_simp
                  (try rfl)
                (try simp only [List.getElem_toArray, List.getElem_cons_succ, List.getElem_cons_zero, Act.put, List.setIfInBounds_toArray, List.set_cons_zero, List.set_cons_succ])
                refine wpAnyH_take (i := 26) (oi := ?o21) (v := ?v21) ?hi21 ?hs21 ?hf21 ?hr21 ?hQ21 ?hy21 ?hS21 ?rest21
                case hi21 => rfl
                case hs21 => kernel_rfl
                case hf21 => kernel_rfl
                case hr21 => kernel_rfl
                case hQ21 => exact fun _ _ _ h => h
                case hS21 => assumption
                case hy21 =>
                  refine Or.inl ⟨by kernel_rfl, ?_⟩
                  intro w' hSw
                  (try dsimp only at hSw)
                  go_simp
                  (try rfl)
                (try simp only [List.getElem_toArray, List.getElem_cons_succ, List.getElem_cons_zero, Act.put, List.setIfInBounds_toArray, List.set_cons_zero, List.set_cons_succ])
                refine wpAnyH_done (by kernel_rfl) ?_ _
                refine NoPanic.normal ?_
                go_wp2_with fail
                go_ret
                exact ⟨ret_boolC HE.out, bt (bt hB0 (bt hB5 (bt hB6 hB7))) hB8⟩
      · have HE : Hid (false = sameC A B) := Lib.hid (by rw [sameC, e1, e2, e3]; rfl)
        have h1 := Lib.hid e1
        clear e1
        go_enter Tryz.func13, Tryz.ntmps13
        go_wp2_with fail
        have hS0 : SmS w w.heap.size (w.heap.size + 1) A B (.slice a1 A.s.length c1) (.slice a2 B.s.length c2) (World.drew _) := (SmS.made w A B (.slice a1 A.s.length c1) (.slice a2 B.s.length c2)).drew
        have hB0 : Below w.heap.size w (World.drew _) := (bt (below_al w (.cells #[.int .i64 A.r, .int .i64 A.d, .int .i64 A.b, .int .i64 A.l, .int .i64 A.m, .int .i64 A.n, .int .i64 A.e, .slice a1 A.s.length c1] 26)) (below_al _ (.cells #[.int .i64 B.r, .int .i64 B.d, .int .i64 B.b, .int .i64 B.l, .int .i64 B.m, .int .i64 B.n, .int .i64 B.e, .slice a2 B.s.length c2] 26))).drew
        refine wp_region_noPanic ?_
        refine wp_region_held_drew (S := (SmS w w.heap.size (w.heap.size + 1) A B (.slice a1 A.s.length c1) (.slice a2 B.s.length c2))) (by kernel_rfl) hS0 (fun hHeld => ?_)
        clear hS0
        refine wpAnyH_take (i := 0) (oi := ?o46) (v := ?v46) ?hi46 ?hs46 ?hf46 ?hr46 ?hQ46 ?hy46 ?hS46 ?rest46
        case hi46 => rfl
        case hs46 => kernel_rfl
        case hf46 => kernel_rfl
        case hr46 => kernel_rfl
        case hQ46 => exact fun _ _ _ h => h
        case hS46 => assumption
        case hy46 =>
          refine Or.inl ⟨by kernel_rfl, ?_⟩
          intro w' hSw
          (try dsimp only at hSw)
          go_simp
          (try rfl)
        (try simp only [List.getElem_toArray, List.getElem_cons_zero, Act.put, List.setIfInBounds_toArray, List.set_cons_zero, List.set_cons_succ])
        refine wpAnyH_take (i := 2) (oi := ?o47) (v := ?v47) ?hi47 ?hs47 ?hf47 ?hr47 ?hQ47 ?hy47 ?hS47 ?rest47
        case hi47 => rfl
        case hs47 => kernel_rfl
        case hf47 => kernel_rfl
        case hr47 => kernel_rfl
        case hQ47 => exact fun _ _ _ h => h
        case hS47 => assumption
        case hy47 =>
          refine Or.inl ⟨by kernel_rfl, ?_⟩
          intro w' hSw
          (try dsimp only at hSw)
          go_simp
          (try rfl)
        (try simp only [List.getElem_toArray, List.getElem_cons_succ, List.getElem_cons_zero, Act.put, List.setIfInBounds_toArray, List.set_cons_zero, List.set_cons_succ])
        refine wpAnyH_ready (rs := [1]) (by kernel_rfl) (by simp) ?_
        refine AllReadyH.cons rfl (fun K hK => ?_) AllReadyH.nil
        · go_simp
          refine (specNumbersR A _ _ a1 A.s.length c1 rfl).mono ?_
          rintro e w5 ⟨⟨v5, rfl, hr5⟩, hB5⟩
          refine hK.out _ _ ?_ (fun hHeld => ?_)
          · exact SmS.next hHeld hB5
          clear hK K
          (try simp only [List.getElem_toArray, List.getElem_cons_succ, List.getElem_cons_zero, Act.put, List.setIfInBounds_toArray, List.set_cons_zero, List.set_cons_succ])
          refine wpAnyH_ready (rs := [3]) (by kernel_rfl) (by simp) ?_
          refine AllReadyH.cons rfl (fun K hK => ?_) AllReadyH.nil
          · go_simp
            refine (specNumbersR B _ _ a2 B.s.length c2 rfl).mono ?_
            rintro e w6 ⟨⟨v6, rfl, hr6⟩, hB6⟩
            refine hK.out _ _ ?_ (fun hHeld => ?_)
            · exact SmS.next hHeld hB6
            clear hK K
            (try simp only [List.getElem_toArray, List.getElem_cons_succ, List.getElem_cons_zero, Act.put, List.setIfInBounds_toArray, List.set_cons_zero, List.set_cons_succ])
            refine wpAnyH_ready (rs := [4]) (by kernel_rfl) (by simp) ?_
            refine AllReadyH.cons rfl (fun K hK => ?_) AllReadyH.nil
            · go_simp
              refine (specInts _ _ _ (numsC A) (numsC B) (hr5.below hB6) hr6).mono ?_
              rintro e w7 ⟨rfl, hB7⟩
              rw [h1.out]
              refine hK.out _ _ ?_ (fun hHeld => ?_)
              · exact SmS.next hHeld hB7
              clear hK K
              (try simp only [List.getElem_toArray, List.getElem_cons_succ, List.getElem_cons_zero, Act.put, List.setIfInBounds_toArray, List.set_cons_zero, List.set_cons_succ])
              refine wpAnyH_take (i := 5) (oi := ?o24) (v := ?v24) ?hi24 ?hs24 ?hf24 ?hr24 ?hQ24 ?hy24 ?hS24 ?rest24
              case hi24 => rfl
              case hs24 => kernel_rfl
              case hf24 => kernel_rfl
              case hr24 => kernel_rfl
              case hQ24 => exact fun _ _ _ h => h
              case hS24 => assumption
              case hy24 =>
                refine Or.inl ⟨by kernel_rfl, ?_⟩
                intro w' hSw
                (try dsimp only at hSw)
                go_simp
                (try rfl)
              (try simp only [List.getElem_toArray, List.getElem_cons_succ, List.getElem_cons_zero, Act.put, List.setIfInBounds_toArray, List.set_cons_zero, List.set_cons_succ])
              refine wpAnyH_take (i := 6) (oi := ?o25) (v := ?v25) ?hi25 ?hs25 ?hf25 ?hr25 ?hQ25 ?hy25 ?hS25 ?rest25
              case hi25 => rfl
              case hs25 => kernel_rfl
              case hf25 => kernel_rfl
              case hr25 => kernel_rfl
              case hQ25 => exact fun _ _ _ h => h
              case hS25 => assumption
              case hy25 =>
                refine Or.inl ⟨by kernel_rfl, ?_⟩
                intro w' hSw
                (try dsimp only at hSw)
                go_simp
                (try rfl)
              (try simp only [List.getElem_toArray, List.getElem_cons_succ, List.getElem_cons_zero, Act.put, List.setIfInBounds_toArray, List.set_cons_zero, List.set_cons_succ])
              refine wpAnyH_take (i := 7) (oi := ?o26) (v := ?v26) ?hi26 ?hs26 ?hf26 ?hr26 ?hQ26 ?hy26 ?hS26 ?rest26
              case hi26 => rfl
              case hs26 => kernel_rfl
              case hf26 => kernel_rfl
              case hr26 => kernel_rfl
              case hQ26 => exact fun _ _ _ h => h
              case hS26 => assumption
              case hy26 =>
                refine Or.inl ⟨by kernel_rfl, ?_⟩
                intro w' hSw
                (try dsimp only at hSw)
                go_simp
                (try rfl)
              (try simp only [List.getElem_toArray, List.getElem_cons_succ, List.getElem_cons_zero, Act.put, List.setIfInBounds_toArray, List.set_cons_zero, List.set_cons_succ])
              refine wpAnyH_take (i := 8) (oi := ?o27) (v := ?v27) ?hi27 ?hs27 ?hf27 ?hr27 ?hQ27 ?hy27 ?hS27 ?rest27
              case hi27 => rfl
              case hs27 => kernel_rfl
              case hf27 => kernel_rfl
              case hr27 => kernel_rfl
              case hQ27 => exact fun _ _ _ h => h
              case hS27 => assumption
              case hy27 =>
                refine Or.inl ⟨by kernel_rfl, ?_⟩
                intro w' hSw
                (try dsimp only at hSw)
                go_simp
                (try rfl)
              (try simp only [List.getElem_toArray, List.getElem_cons_succ, List.getElem_cons_zero, Act.put, List.setIfInBounds_toArray, List.set_cons_zero, List.set_cons_succ])
              refine wpAnyH_take (i := 9) (oi := ?o28) (v := ?v28) ?hi28 ?hs28 ?hf28 ?hr28 ?hQ28 ?hy28 ?hS28 ?rest28
              case hi28 => rfl
              case hs28 => kernel_rfl
              case hf28 => kernel_rfl
              case hr28 => kernel_rfl
              case hQ28 => exact fun _ _ _ h => h
              case hS28 => assumption
              case hy28 =>
                refine Or.inl ⟨by kernel_rfl, ?_⟩
                intro w' hSw
                (try dsimp only at hSw)
                go_simp
                (try rfl)
              (try simp only [List.getElem_toArray, List.getElem_cons_succ, List.getElem_cons_zero, Act.put, List.setIfInBounds_toArray, List.set_cons_zero, List.set_cons_succ])
              refine wpAnyH_take (i := 10) (oi := ?o29) (v := ?v29) ?hi29 ?hs29 ?hf29 ?hr29 ?hQ29 ?hy29 ?hS29 ?rest29
              case hi29 => rfl
              case hs29 => kernel_rfl
              case hf29 => kernel_rfl
              case hr29 => kernel_rfl
              case hQ29 => exact fun _ _ _ h => h
              case hS29 => assumption
              case hy29 =>
                refine Or.inl ⟨by kernel_rfl, ?_⟩
                intro w' hSw
                (try dsimp only at hSw)
                go_simp
                (try rfl)
              (try simp only [List.getElem_toArray, List.getElem_cons_succ, List.getElem_cons_zero, Act.put, List.setIfInBounds_toArray, List.set_cons_zero, List.set_cons_succ])
              refine wpAnyH_take (i := 11) (oi := ?o30) (v := ?v30) ?hi30 ?hs30 ?hf30 ?hr30 ?hQ30 ?hy30 ?hS30 ?rest30
              case hi30 => rfl
              case hs30 => kernel_rfl
              case hf30 => kernel_rfl
              case hr30 => kernel_rfl
              case hQ30 => exact fun _ _ _ h => h
              case hS30 => assumption
              case hy30 =>
                refine Or.inl ⟨by kernel_rfl, ?_⟩
                intro w' hSw
                (try dsimp only at hSw)
                go_simp
                (try rfl)
              (try simp only [List.getElem_toArray, List.getElem_cons_succ, List.getElem_cons_zero, Act.put, List.setIfInBounds_toArray, List.set_cons_zero, List.set_cons_succ])
              refine wpAnyH_take (i := 12) (oi := ?o31) (v := ?v31) ?hi31 ?hs31 ?hf31 ?hr31 ?hQ31 ?hy31 ?hS31 ?rest31
              case hi31 => rfl
              case hs31 => kernel_rfl
              case hf31 => kernel_rfl
              case hr31 => kernel_rfl
              case hQ31 => exact fun _ _ _ h => h
              case hS31 => assumption
              case hy31 =>
                refine Or.inl ⟨by kernel_rfl, ?_⟩
                intro w' hSw
                (try dsimp only at hSw)
                go_simp
                (try rfl)
              (try simp only [List.getElem_toArray, List.getElem_cons_succ, List.getElem_cons_zero, Act.put, List.setIfInBounds_toArray, List.set_cons_zero, List.set_cons_succ])
              refine wpAnyH_take (i := 13) (oi := ?o32) (v := ?v32) ?hi32 ?hs32 ?hf32 ?hr32 ?hQ32 ?hy32 ?hS32 ?rest32
              case hi32 => rfl
              case hs32 => kernel_rfl
              case hf32 => kernel_rfl
              case hr32 => kernel_rfl
              case hQ32 => exact fun _ _ _ h => h
              case hS32 => assumption
              case hy32 =>
                refine Or.inl ⟨by kernel_rfl, ?_⟩
                intro w' hSw
                (try dsimp only at hSw)
                go_simp
                (try rfl)
              (try simp only [List.getElem_toArray, List.getElem_cons_succ, List.getElem_cons_zero, Act.put, List.setIfInBounds_toArray, List.set_cons_zero, List.set_cons_succ])
              refine wpAnyH_take (i := 14) (oi := ?o33) (v := ?v33) ?hi33 ?hs33 ?hf33 ?hr33 ?hQ33 ?hy33 ?hS33 ?rest33
              case hi33 => rfl
              case hs33 => kernel_rfl
              case hf33 => kernel_rfl
              case hr33 => kernel_rfl
              case hQ33 => exact fun _ _ _ h => h
              case hS33 => assumption
              case hy33 =>
                refine Or.inl ⟨by kernel_rfl, ?_⟩
                intro w' hSw
                (try dsimp only at hSw)
                go_simp
                (try rfl)
              (try simp only [List.getElem_toArray, List.getElem_cons_succ, List.getElem_cons_zero, Act.put, List.setIfInBounds_toArray, List.set_cons_zero, List.set_cons_succ])
              refine wpAnyH_take (i := 15) (oi := ?o34) (v := ?v34) ?hi34 ?hs34 ?hf34 ?hr34 ?hQ34 ?hy34 ?hS34 ?rest34
              case hi34 => rfl
              case hs34 => kernel_rfl
              case hf34 => kernel_rfl
              case hr34 => kernel_rfl
              case hQ34 => exact fun _ _ _ h => h
              case hS34 => assumption
              case hy34 =>
                refine Or.inl ⟨by kernel_rfl, ?_⟩
                intro w' hSw
                (try dsimp only at hSw)
                go_simp
                (try rfl)
              (try simp only [List.getElem_toArray, List.getElem_cons_succ, List.getElem_cons_zero, Act.put, List.setIfInBounds_toArray, List.set_cons_zero, List.set_cons_succ])
              refine wpAnyH_take (i := 16) (oi := ?o35) (v := ?v35) ?hi35 ?hs35 ?hf35 ?hr35 ?hQ35 ?hy35 ?hS35 ?rest35
              case hi35 => rfl
              case hs35 => kernel_rfl
              case hf35 => kernel_rfl
              case hr35 => kernel_rfl
              case hQ35 => exact fun _ _ _ h => h
              case hS35 => assumption
              case hy35 =>
                refine Or.inl ⟨by kernel_rfl, ?_⟩
                intro w' hSw
                (try dsimp only at hSw)
                go_simp
                (try rfl)
              (try simp only [List.getElem_toArray, List.getElem_cons_succ, List.getElem_cons_zero, Act.put, List.setIfInBounds_toArray, List.set_cons_zero, List.set_cons_succ])
              refine wpAnyH_take (i := 17) (oi := ?o36) (v := ?v36) ?hi36 ?hs36 ?hf36 ?hr36 ?hQ36 ?hy36 ?hS36 ?rest36
              case hi36 => rfl
              case hs36 => kernel_rfl
              case hf36 => kernel_rfl
              case hr36 => kernel_rfl
              case hQ36 => exact fun _ _ _ h => h
              case hS36 => assumption
              case hy36 =>
                refine Or.inl ⟨by kernel_rfl, ?_⟩
                intro w' hSw
                (try dsimp only at hSw)
                go_simp
                (try rfl)
              (try simp only [List.getElem_toArray, List.getElem_cons_succ, List.getElem_cons_zero, Act.put, List.setIfInBounds_toArray, List.set_cons_zero, List.set_cons_succ])
              refine wpAnyH_take (i := 18) (oi := ?o37) (v := ?v37) ?hi37 ?hs37 ?hf37 ?hr37 ?hQ37 ?hy37 ?hS37 ?rest37
              case hi37 => rfl
              case hs37 => kernel_rfl
              case hf37 => kernel_rfl
              case hr37 => kernel_rfl
              case hQ37 => exact fun _ _ _ h => h
              case hS37 => assumption
              case hy37 =>
                refine Or.inl ⟨by kernel_rfl, ?_⟩
                intro w' hSw
                (try dsimp only at hSw)
                go_simp
                (try rfl)
              (try simp only [List.getElem_toArray, List.getElem_cons_succ, List.getElem_cons_zero, Act.put, List.setIfInBounds_toArray, List.set_cons_zero, List.set_cons_succ])
              refine wpAnyH_take (i := 19) (oi := ?o38) (v := ?v38) ?hi38 ?hs38 ?hf38 ?hr38 ?hQ38 ?hy38 ?hS38 ?rest38
              case hi38 => rfl
              case hs38 => kernel_rfl
              case hf38 => kernel_rfl
              case hr38 => kernel_rfl
              case hQ38 => exact fun _ _ _ h => h
              case hS38 => assumption
              case hy38 =>
                refine Or.inl ⟨by kernel_rfl, ?_⟩
                intro w' hSw
                (try dsimp only at hSw)
                go_simp
                (try rfl)
              (try simp only [List.getElem_toArray, List.getElem_cons_succ, List.getElem_cons_zero, Act.put, List.setIfInBounds_toArray, List.set_cons_zero, List.set_cons_succ])
              refine wpAnyH_take (i := 20) (oi := ?o39) (v := undef) ?hi39 ?hs39 ?hf39 ?hr39 ?hQ39 ?hy39 ?hS39 ?rest39
              case hi39 => rfl
              case hs39 => kernel_rfl
              case hf39 => kernel_rfl
              case hr39 => kernel_rfl
              case hQ39 => exact fun _ _ _ h => h
              case hS39 => assumption
              case hy39 => exact Or.inr ⟨by kernel_rfl, rfl⟩
              (try simp only [List.getElem_toArray, List.getElem_cons_succ, List.getElem_cons_zero, Act.put, List.setIfInBounds_toArray, List.set_cons_zero, List.set_cons_succ])
              refine wpAnyH_take (i := 21) (oi := ?o40) (v := undef) ?hi40 ?hs40 ?hf40 ?hr40 ?hQ40 ?hy40 ?hS40 ?rest40
              case hi40 => rfl
              case hs40 => kernel_rfl
              case hf40 => kernel_rfl
              case hr40 => kernel_rfl
              case hQ40 => exact fun _ _ _ h => h
              case hS40 => assumption
              case hy40 => exact Or.inr ⟨by kernel_rfl, rfl⟩
              (try simp only [List.getElem_toArray, List.getElem_cons_succ, List.getElem_cons_zero, Act.put, List.setIfInBounds_toArray, List.set_cons_zero, List.set_cons_succ])
              refine wpAnyH_take (i := 22) (oi := ?o41) (v := undef) ?hi41 ?hs41 ?hf41 ?hr41 ?hQ41 ?hy41 ?hS41 ?rest41
              case hi41 => rfl
              case hs41 => kernel_rfl
              case hf41 => kernel_rfl
              case hr41 => kernel_rfl
              case hQ41 => exact fun _ _ _ h => h
              case hS41 => assumption
              case hy41 => exact Or.inr ⟨by kernel_rfl, rfl⟩
              (try simp only [List.getElem_toArray, List.getElem_cons_succ, List.getElem_cons_zero, Act.put, List.setIfInBounds_toArray, List.set_cons_zero, List.set_cons_succ])
              refine wpAnyH_take (i := 23) (oi := ?o42) (v := undef) ?hi42 ?hs42 ?hf42 ?hr42 ?hQ42 ?hy42 ?hS42 ?rest42
              case hi42 => rfl
              case hs42 => kernel_rfl
              case hf42 => kernel_rfl
              case hr42 => kernel_rfl
              case hQ42 => exact fun _ _ _ h => h
              case hS42 => assumption
              case hy42 => exact Or.inr ⟨by kernel_rfl, rfl⟩
              (try simp only [List.getElem_toArray, List.getElem_cons_succ, List.getElem_cons_zero, Act.put, List.setIfInBounds_toArray, List.set_cons_zero, List.set_cons_succ])
              refine wpAnyH_take (i := 24) (oi := ?o43) (v := undef) ?hi43 ?hs43 ?hf43 ?hr43 ?hQ43 ?hy43 ?hS43 ?rest43
              case hi43 => rfl
              case hs43 => kernel_rfl
              case hf43 => kernel_rfl
              case hr43 => kernel_rfl
              case hQ43 => exact fun _ _ _ h => h
              case hS43 => assumption
              case hy43 => exact Or.inr ⟨by kernel_rfl, rfl⟩
              (try simp only [List.getElem_toArray, List.getElem_cons_succ, List.getElem_cons_zero, Act.put, List.setIfInBounds_toArray, List.set_cons_zero, List.set_cons_succ])
              refine wpAnyH_take (i := 25) (oi := ?o44) (v := ?v44) ?hi44 ?hs44 ?hf44 ?hr44 ?hQ44 ?hy44 ?hS44 ?rest44
              case hi44 => rfl
              case hs44 => kernel_rfl
              case hf44 => kernel_rfl
              case hr44 => kernel_rfl
              case hQ44 => exact fun _ _ _ h => h
              case hS44 => assumption
              case hy44 =>
                refine Or.inl ⟨by kernel_rfl, ?_⟩
                intro w' hSw
                (try dsimp only at hSw)
                go_simp
                (try rfl)
              (try simp only [List.getElem_toArray, List.getElem_cons_succ, List.getElem_cons_zero, Act.put, List.setIfInBounds_toArray, List.set_cons_zero, List.set_cons_succ])
              refine wpAnyH_take (i := 26) (oi := ?o45) (v := ?v45) ?hi45 ?hs45 ?hf45 ?hr45 ?hQ45 ?hy45 ?hS45 ?rest45
              case hi45 => rfl
              case hs45 => kernel_rfl
              case hf45 => kernel_rfl
              case hr45 => kernel_rfl
              case hQ45 => exact fun _ _ _ h => h
              case hS45 => assumption
              case hy45 =>
                refine Or.inl ⟨by kernel_rfl, ?_⟩
                intro w' hSw
                (try dsimp only at hSw)
                go_simp
                (try rfl)
              (try simp only [List.getElem_toArray, List.getElem_cons_succ, List.getElem_cons_zero, Act.put, List.setIfInBounds_toArray, List.set_cons_zero, List.set_cons_succ])
              refine wpAnyH_done (by kernel_rfl) ?_ _
              refine NoPanic.normal ?_
              go_wp2_with fail
              go_ret
              exact ⟨ret_boolC HE.out, bt hB0 (bt hB5 (bt hB6 hB7))⟩
    · have HE : Hid (false = sameC A B) := Lib.hid (by rw [sameC, e1, e2]; rfl)
      have h1 := Lib.hid e1
      clear e1
      go_enter Tryz.func13, Tryz.ntmps13
      go_wp2_with fail
      have hS0 : SmS w w.heap.size (w.heap.size + 1) A B (.slice a1 A.s.length c1) (.slice a2 B.s.length c2) (World.drew _) := (SmS.made w A B (.slice a1 A.s.length c1) (.slice a2 B.s.length c2)).drew
      have hB0 : Below w.heap.size w (World.drew _) := (bt (below_al w (.cells #[.int .i64 A.r, .int .i64 A.d, .int .i64 A.b, .int .i64 A.l, .int .i64 A.m, .int .i64 A.n, .int .i64 A.e, .slice a1 A.s.length c1] 26)) (below_al _ (.cells #[.int .i64 B.r, .int .i64 B.d, .int .i64 B.b, .int .i64 B.l, .int .i64 B.m, .int .i64 B.n, .int .i64 B.e, .slice a2 B.s.length c2] 26))).drew
      refine wp_region_noPanic ?_
      refine wp_region_held_drew (S := (SmS w w.heap.size (w.heap.size + 1) A B (.slice a1 A.s.length c1) (.slice a2 B.s.length c2))) (by kernel_rfl) hS0 (fun hHeld => ?_)
      clear hS0
      refine wpAnyH_take (i := 0) (oi := ?o70) (v := ?v70) ?hi70 ?hs70 ?hf70 ?hr70 ?hQ70 ?hy70 ?hS70 ?rest70
      case hi70 => rfl
      case hs70 => kernel_rfl
      case hf70 => kernel_rfl
      case hr70 => kernel_rfl
      case hQ70 => exact fun _ _ _ h => h
      case hS70 => assumption
      case hy70 =>
        refine Or.inl ⟨by kernel_rfl, ?_⟩
        intro w' hSw
        (try dsimp only at hSw)
        go_simp
        (try rfl)
      (try simp only [List.getElem_toArray, List.getElem_cons_zero, Act.put, List.setIfInBounds_toArray, List.set_cons_zero, List.set_cons_succ])
      refine wpAnyH_take (i := 2) (oi := ?o71) (v := ?v71) ?hi71 ?hs71 ?hf71 ?hr71 ?hQ71 ?hy71 ?hS71 ?rest71
      case hi71 => rfl
      case hs71 => kernel_rfl
      case hf71 => kernel_rfl
      case hr71 => kernel_rfl
      case hQ71 => exact fun _ _ _ h => h
      case hS71 => assumption
      case hy71 =>
        refine Or.inl ⟨by kernel_rfl, ?_⟩
        intro w' hSw
        (try dsimp only at hSw)
        go_simp
        (try rfl)
      (try simp only [List.getElem_toArray, List.getElem_cons_succ, List.getElem_cons_zero, Act.put, List.setIfInBounds_toArray, List.set_cons_zero, List.set_cons_succ])
      refine wpAnyH_ready (rs := [1]) (by kernel_rfl) (by simp) ?_
      refine AllReadyH.cons rfl (fun K hK => ?_) AllReadyH.nil
      · go_simp
        refine (specNumbersR A _ _ a1 A.s.length c1 rfl).mono ?_
        rintro e w5 ⟨⟨v5, rfl, hr5⟩, hB5⟩
        refine hK.out _ _ ?_ (fun hHeld => ?_)
        · exact SmS.next hHeld hB5
        clear hK K
        (try simp only [List.getElem_toArray, List.getElem_cons_succ, List.getElem_cons_zero, Act.put, List.setIfInBounds_toArray, List.set_cons_zero, List.set_cons_succ])
        refine wpAnyH_ready (rs := [3]) (by kernel_rfl) (by simp) ?_
        refine AllReadyH.cons rfl (fun K hK => ?_) AllReadyH.nil
        · go_simp
          refine (specNumbersR B _ _ a2 B.s.length c2 rfl).mono ?_
          rintro e w6 ⟨⟨v6, rfl, hr6⟩, hB6⟩
          refine hK.out _ _ ?_ (fun hHeld => ?_)
          · exact SmS.next hHeld hB6
          clear hK K
          (try simp only [List.getElem_toArray, List.getElem_cons_succ, List.getElem_cons_zero, Act.put, List.setIfInBounds_toArray, List.set_cons_zero, List.set_cons_succ])
          refine wpAnyH_ready (rs := [4]) (by kernel_rfl) (by simp) ?_
          refine AllReadyH.cons rfl (fun K hK => ?_) AllReadyH.nil
          · go_simp
            refine (specInts _ _ _ (numsC A) (numsC B) (hr5.below hB6) hr6).mono ?_
            rintro e w7 ⟨rfl, hB7⟩
            rw [h1.out]
            refine hK.out _ _ ?_ (fun hHeld => ?_)
            · exact SmS.next hHeld hB7
            clear hK K
            (try simp only [List.getElem_toArray, List.getElem_cons_succ, List.getElem_cons_zero, Act.put, List.setIfInBounds_toArray, List.set_cons_zero, List.set_cons_succ])
            refine wpAnyH_take (i := 5) (oi := ?o48) (v := ?v48) ?hi48 ?hs48 ?hf48 ?hr48 ?hQ48 ?hy48 ?hS48 ?rest48
            case hi48 => rfl
            case hs48 => kernel_rfl
            case hf48 => kernel_rfl
            case hr48 => kernel_rfl
            case hQ48 => exact fun _ _ _ h => h
            case hS48 => assumption
            case hy48 =>
              refine Or.inl ⟨by kernel_rfl, ?_⟩
              intro w' hSw
              (try dsimp only at hSw)
              go_simp
              (try rfl)
            (try simp only [List.getElem_toArray, List.getElem_cons_succ, List.getElem_cons_zero, Act.put, List.setIfInBounds_toArray, List.set_cons_zero, List.set_cons_succ])
            refine wpAnyH_take (i := 6) (oi := ?o49) (v := ?v49) ?hi49 ?hs49 ?hf49 ?hr49 ?hQ49 ?hy49 ?hS49 ?rest49
            case hi49 => rfl
            case hs49 => kernel_rfl
            case hf49 => kernel_rfl
            case hr49 => kernel_rfl
            case hQ49 => exact fun _ _ _ h => h
            case hS49 => assumption
            case hy49 =>
              refine Or.inl ⟨by kernel_rfl, ?_⟩
              intro w' hSw
              (try dsimp only at hSw)
              go_simp
              (try rfl)
            (try simp only [List.getElem_toArray, List.getElem_cons_succ, List.getElem_cons_zero, Act.put, List.setIfInBounds_toArray, List.set_cons_zero, List.set_cons_succ])
            refine wpAnyH_take (i := 7) (oi := ?o50) (v := ?v50) ?hi50 ?hs50 ?hf50 ?hr50 ?hQ50 ?hy50 ?hS50 ?rest50
            case hi50 => rfl
            case hs50 => kernel_rfl
            case hf50 => kernel_rfl
            case hr50 => kernel_rfl
            case hQ50 => exact fun _ _ _ h => h
            case hS50 => assumption
            case hy50 =>
              refine Or.inl ⟨by kernel_rfl, ?_⟩
              intro w' hSw
              (try dsimp only at hSw)
              go_simp
              (try rfl)
            (try simp only [List.getElem_toArray, List.getElem_cons_succ, List.getElem_cons_zero, Act.put, List.setIfInBounds_toArray, List.set_cons_zero, List.set_cons_succ])
            refine wpAnyH_take (i := 8) (oi := ?o51) (v := ?v51) ?hi51 ?hs51 ?hf51 ?hr51 ?hQ51 ?hy51 ?hS51 ?rest51
            case hi51 => rfl
            case hs51 => kernel_rfl
            case hf51 => kernel_rfl
            case hr51 => kernel_rfl
            case hQ51 => exact fun _ _ _ h => h
            case hS51 => assumption
            case hy51 =>
              refine Or.inl ⟨by kernel_rfl, ?_⟩
              intro w' hSw
              (try dsimp only at hSw)
              go_simp
              (try rfl)
            (try simp only [List.getElem_toArray, List.getElem_cons_succ, List.getElem_cons_zero, Act.put, List.setIfInBounds_toArray, List.set_cons_zero, List.set_cons_succ])
            refine wpAnyH_take (i := 9) (oi := ?o52) (v := ?v52) ?hi52 ?hs52 ?hf52 ?hr52 ?hQ52 ?hy52 ?hS52 ?rest52
            case hi52 => rfl
            case hs52 => kernel_rfl
            case hf52 => kernel_rfl
            case hr52 => kernel_rfl
            case hQ52 => exact fun _ _ _ h => h
            case hS52 => assumption
            case hy52 =>
              refine Or.inl ⟨by kernel_rfl, ?_⟩
              intro w' hSw
              (try dsimp only at hSw)
              go_simp
              (try rfl)
            (try simp only [List.getElem_toArray, List.getElem_cons_succ, List.getElem_cons_zero, Act.put, List.setIfInBounds_toArray, List.set_cons_zero, List.set_cons_succ])
            refine wpAnyH_take (i := 10) (oi := ?o53) (v := ?v53) ?hi53 ?hs53 ?hf53 ?hr53 ?hQ53 ?hy53 ?hS53 ?rest53
            case hi53 => rfl
            case hs53 => kernel_rfl
            case hf53 => kernel_rfl
            case hr53 => kernel_rfl
            case hQ53 => exact fun _ _ _ h => h
            case hS53 => assumption
            case hy53 =>
              refine Or.inl ⟨by kernel_rfl, ?_⟩
              intro w' hSw
              (try dsimp only at hSw)
              go_simp
              (try rfl)
            (try simp only [List.getElem_toArray, List.getElem_cons_succ, List.getElem_cons_zero, Act.put, List.setIfInBounds_toArray, List.set_cons_zero, List.set_cons_succ])
            refine wpAnyH_take (i := 11) (oi := ?o54) (v := ?v54) ?hi54 ?hs54 ?hf54 ?hr54 ?hQ54 ?hy54 ?hS54 ?rest54
            case hi54 => rfl
            case hs54 => kernel_rfl
            case hf54 => kernel_rfl
            case hr54 => kernel_rfl
            case hQ54 => exact fun _ _ _ h => h
            case hS54 => assumption
            case hy54 =>
              refine Or.inl ⟨by kernel_rfl, ?_⟩
              intro w' hSw
              (try dsimp only at hSw)
              go_simp
              (try rfl)
            (try simp only [List.getElem_toArray, List.getElem_cons_succ, List.getElem_cons_zero, Act.put, List.setIfInBounds_toArray, List.set_cons_zero, List.set_cons_succ])
            refine wpAnyH_take (i := 12) (oi := ?o55) (v := ?v55) ?hi55 ?hs55 ?hf55 ?hr55 ?hQ55 ?hy55 ?hS55 ?rest55
            case hi55 => rfl
            case hs55 => kernel_rfl
            case hf55 => kernel_rfl
            case hr55 => kernel_rfl
            case hQ55 => exact fun _ _ _ h => h
            case hS55 => assumption
            case hy55 =>
              refine Or.inl ⟨by kernel_rfl, ?_⟩
              intro w' hSw
              (try dsimp only at hSw)
              go_simp
              (try rfl)
            (try simp only [List.getElem_toArray, List.getElem_cons_succ, List.getElem_cons_zero, Act.put, List.setIfInBounds_toArray, List.set_cons_zero, List.set_cons_succ])
            refine wpAnyH_take (i := 13) (oi := ?o56) (v := undef) ?hi56 ?hs56 ?hf56 ?hr56 ?hQ56 ?hy56 ?hS56 ?rest56
            case hi56 => rfl
            case hs56 => kernel_rfl
            case hf56 => kernel_rfl
            case hr56 => kernel_rfl
            case hQ56 => exact fun _ _ _ h => h
            case hS56 => assumption
            case hy56 => exact Or.inr ⟨by kernel_rfl, rfl⟩
            (try simp only [List.getElem_toArray, List.getElem_cons_succ, List.getElem_cons_zero, Act.put, List.setIfInBounds_toArray, List.set_cons_zero, List.set_cons_succ])
            refine wpAnyH_take (i := 14) (oi := ?o57) (v := undef) ?hi57 ?hs57 ?hf57 ?hr57 ?hQ57 ?hy57 ?hS57 ?rest57
            case hi57 => rfl
            case hs57 => kernel_rfl
            case hf57 => kernel_rfl
            case hr57 => kernel_rfl
            case hQ57 => exact fun _ _ _ h => h
            case hS57 => assumption
            case hy57 => exact Or.inr ⟨by kernel_rfl, rfl⟩
            (try simp only [List.getElem_toArray, List.getElem_cons_succ, List.getElem_cons_zero, Act.put, List.setIfInBounds_toArray, List.set_cons_zero, List.set_cons_succ])
            refine wpAnyH_take (i := 15) (oi := ?o58) (v := undef) ?hi58 ?hs58 ?hf58 ?hr58 ?hQ58 ?hy58 ?hS58 ?rest58
            case hi58 => rfl
            case hs58 => kernel_rfl
            case hf58 => kernel_rfl
            case hr58 => kernel_rfl
            case hQ58 => exact fun _ _ _ h => h
            case hS58 => assumption
            case hy58 => exact Or.inr ⟨by kernel_rfl, rfl⟩
            (try simp only [List.getElem_toArray, List.getElem_cons_succ, List.getElem_cons_zero, Act.put, List.setIfInBounds_toArray, List.set_cons_zero, List.set_cons_succ])
            refine wpAnyH_take (i := 16) (oi := ?o59) (v := undef) ?hi59 ?hs59 ?hf59 ?hr59 ?hQ59 ?hy59 ?hS59 ?rest59
            case hi59 => rfl
            case hs59 => kernel_rfl
            case hf59 => kernel_rfl
            case hr59 => kernel_rfl
            case hQ59 => exact fun _ _ _ h => h
            case hS59 => assumption
            case hy59 => exact Or.inr ⟨by kernel_rfl, rfl⟩
            (try simp only [List.getElem_toArray, List.getElem_cons_succ, List.getElem_cons_zero, Act.put, List.setIfInBounds_toArray, List.set_cons_zero, List.set_cons_succ])
            refine wpAnyH_take (i := 17) (oi := ?o60) (v := undef) ?hi60 ?hs60 ?hf60 ?hr60 ?hQ60 ?hy60 ?hS60 ?rest60
            case hi60 => rfl
            case hs60 => kernel_rfl
            case hf60 => kernel_rfl
            case hr60 => kernel_rfl
            case hQ60 => exact fun _ _ _ h => h
            case hS60 => assumption
            case hy60 => exact Or.inr ⟨by kernel_rfl, rfl⟩
            (try simp only [List.getElem_toArray, List.getElem_cons_succ, List.getElem_cons_zero, Act.put, List.setIfInBounds_toArray, List.set_cons_zero, List.set_cons_succ])
            refine wpAnyH_take (i := 18) (oi := ?o61) (v := ?v61) ?hi61 ?hs61 ?hf61 ?hr61 ?hQ61 ?hy61 ?hS61 ?rest61
            case hi61 => rfl
            case hs61 => kernel_rfl
            case hf61 => kernel_rfl
            case hr61 => kernel_rfl
            case hQ61 => exact fun _ _ _ h => h
            case hS61 => assumption
            case hy61 =>
              refine Or.inl ⟨by kernel_rfl, ?_⟩
              intro w' hSw
              (try dsimp only at hSw)
              go_simp
              (try rfl)
            (try simp only [List.getElem_toArray, List.getElem_cons_succ, List.getElem_cons_zero, Act.put, List.setIfInBounds_toArray, List.set_cons_zero, List.set_cons_succ])
            refine wpAnyH_take (i := 19) (oi := ?o62) (v := ?v62) ?hi62 ?hs62 ?hf62 ?hr62 ?hQ62 ?hy62 ?hS62 ?rest62
            case hi62 => rfl
            case hs62 => kernel_rfl
            case hf62 => kernel_rfl
            case hr62 => kernel_rfl
            case hQ62 => exact fun _ _ _ h => h
            case hS62 => assumption
            case hy62 =>
              refine Or.inl ⟨by kernel_rfl, ?_⟩
              intro w' hSw
              (try dsimp only at hSw)
              go_simp
              (try rfl)
            (try simp only [List.getElem_toArray, List.getElem_cons_succ, List.getElem_cons_zero, Act.put, List.setIfInBounds_toArray, List.set_cons_zero, List.set_cons_succ])
            refine wpAnyH_take (i := 20) (oi := ?o63) (v := undef) ?hi63 ?hs63 ?hf63 ?hr63 ?hQ63 ?hy63 ?hS63 ?rest63
            case hi63 => rfl
            case hs63 => kernel_rfl
            case hf63 => kernel_rfl
            case hr63 => kernel_rfl
            case hQ63 => exact fun _ _ _ h => h
            case hS63 => assumption
            case hy63 => exact Or.inr ⟨by kernel_rfl, rfl⟩
            (try simp only [List.getElem_toArray, List.getElem_cons_succ, List.getElem_cons_zero, Act.put, List.setIfInBounds_toArray, List.set_cons_zero, List.set_cons_succ])
            refine wpAnyH_take (i := 21) (oi := ?o64) (v := undef) ?hi64 ?hs64 ?hf64 ?hr64 ?hQ64 ?hy64 ?hS64 ?rest64
            case hi64 => rfl
            case hs64 => kernel_rfl
            case hf64 => kernel_rfl
            case hr64 => kernel_rfl
            case hQ64 => exact fun _ _ _ h => h
            case hS64 => assumption
            case hy64 => exact Or.inr ⟨by kernel_rfl, rfl⟩
            (try simp only [List.getElem_toArray, List.getElem_cons_succ, List.getElem_cons_zero, Act.put, List.setIfInBounds_toArray, List.set_cons_zero, List.set_cons_succ])
            refine wpAnyH_take (i := 22) (oi := ?o65) (v := undef) ?hi65 ?hs65 ?hf65 ?hr65 ?hQ65 ?hy65 ?hS65 ?rest65
            case hi65 => rfl
            case hs65 => kernel_rfl
            case hf65 => kernel_rfl
            case hr65 => kernel_rfl
            case hQ65 => exact fun _ _ _ h => h
            case hS65 => assumption
            case hy65 => exact Or.inr ⟨by kernel_rfl, rfl⟩
            (try simp only [List.getElem_toArray, List.getElem_cons_succ, List.getElem_cons_zero, Act.put, List.setIfInBounds_toArray, List.set_cons_zero, List.set_cons_succ])
            refine wpAnyH_take (i := 23) (oi := ?o66) (v := undef) ?hi66 ?hs66 ?hf66 ?hr66 ?hQ66 ?hy66 ?hS66 ?rest66
            case hi66 => rfl
            case hs66 => kernel_rfl
            case hf66 => kernel_rfl
            case hr66 => kernel_rfl
            case hQ66 => exact fun _ _ _ h => h
            case hS66 => assumption
            case hy66 => exact Or.inr ⟨by kernel_rfl, rfl⟩
            (try simp only [List.getElem_toArray, List.getElem_cons_succ, List.getElem_cons_zero, Act.put, List.setIfInBounds_toArray, List.set_cons_zero, List.set_cons_succ])
            refine wpAnyH_take (i := 24) (oi := ?o67) (v := undef) ?hi67 ?hs67 ?hf67 ?hr67 ?hQ67 ?hy67 ?hS67 ?rest67
            case hi67 => rfl
            case hs67 => kernel_rfl
            case hf67 => kernel_rfl
            case hr67 => kernel_rfl
            case hQ67 => exact fun _ _ _ h => h
            case hS67 => assumption
            case hy67 => exact Or.inr ⟨by kernel_rfl, rfl⟩
            (try simp only [List.getElem_toArray, List.getElem_cons_succ, List.getElem_cons_zero, Act.put, List.setIfInBounds_toArray, List.set_cons_zero, List.set_cons_succ])
            refine wpAnyH_take (i := 25) (oi := ?o68) (v := ?v68) ?hi68 ?hs68 ?hf68 ?hr68 ?hQ68 ?hy68 ?hS68 ?rest68
            case hi68 => rfl
            case hs68 => kernel_rfl
            case hf68 => kernel_rfl
            case hr68 => kernel_rfl
            case hQ68 => exact fun _ _ _ h => h
            case hS68 => assumption
            case hy68 =>
              refine Or.inl ⟨by kernel_rfl, ?_⟩
              intro w' hSw
              (try dsimp only at hSw)
              go_simp
              (try rfl)
            (try simp only [List.getElem_toArray, List.getElem_cons_succ, List.getElem_cons_zero, Act.put, List.setIfInBounds_toArray, List.set_cons_zero, List.set_cons_succ])
            refine wpAnyH_take (i := 26) (oi := ?o69) (v := ?v69) ?hi69 ?hs69 ?hf69 ?hr69 ?hQ69 ?hy69 ?hS69 ?rest69
            case hi69 => rfl
            case hs69 => kernel_rfl
            case hf69 => kernel_rfl
            case hr69 => kernel_rfl
            case hQ69 => exact fun _ _ _ h => h
            case hS69 => assumption
            case hy69 =>
              refine Or.inl ⟨by kernel_rfl, ?_⟩
              intro w' hSw
              (try dsimp only at hSw)
              go_simp
              (try rfl)
            (try simp only [List.getElem_toArray, List.getElem_cons_succ, List.getElem_cons_zero, Act.put, List.setIfInBounds_toArray, List.set_cons_zero, List.set_cons_succ])
            refine wpAnyH_done (by kernel_rfl) ?_ _
            refine NoPanic.normal ?_
            go_wp2_with fail
            go_ret
            exact ⟨ret_boolC HE.out, bt hB0 (bt hB5 (bt hB6 hB7))⟩
  · have HE : Hid (false = sameC A B) := Lib.hid (by rw [sameC, e1]; rfl)
    have h1 := Lib.hid e1
    clear e1
    go_enter Tryz.func13, Tryz.ntmps13
    go_wp2_with fail
    have hS0 : SmS w w.heap.size (w.heap.size + 1) A B (.slice a1 A.s.length c1) (.slice a2 B.s.length c2) (World.drew _) := (SmS.made w A B (.slice a1 A.s.length c1) (.slice a2 B.s.length c2)).drew
    have hB0 : Below w.heap.size w (World.drew _) := (bt (below_al w (.cells #[.int .i64 A.r, .int .i64 A.d, .int .i64 A.b, .int .i64 A.l, .int .i64 A.m, .int .i64 A.n, .int .i64 A.e, .slice a1 A.s.length c1] 26)) (below_al _ (.cells #[.int .i64 B.r, .int .i64 B.d, .int .i64 B.b, .int .i64 B.l, .int .i64 B.m, .int .i64 B.n, .int .i64 B.e, .slice a2 B.s.length c2] 26))).drew
    refine wp_region_noPanic ?_
    refine wp_region_held_drew (S := (SmS w w.heap.size (w.heap.size + 1) A B (.slice a1 A.s.length c1) (.slice a2 B.s.length c2))) (by kernel_rfl) hS0 (fun hHeld => ?_)
    clear hS0
    refine wpAnyH_take (i := 0) (oi := ?o94) (v := ?v94) ?hi94 ?hs94 ?hf94 ?hr94 ?hQ94 ?hy94 ?hS94 ?rest94
    case hi94 => rfl
    case hs94 => kernel_rfl
    case hf94 => kernel_rfl
    case hr94 => kernel_rfl
    case hQ94 => exact fun _ _ _ h => h
    case hS94 => assumption
    case hy94 =>
      refine Or.inl ⟨by kernel_rfl, ?_⟩
      intro w' hSw
      (try dsimp only at hSw)
      go_simp
      (try rfl)
    (try simp only [List.getElem_toArray, List.getElem_cons_zero, Act.put, List.setIfInBounds_toArray, List.set_cons_zero, List.set_cons_succ])
    refine wpAnyH_take (i := 2) (oi := ?o95) (v := ?v95) ?hi95 ?hs95 ?hf95 ?hr95 ?hQ95 ?hy95 ?hS95 ?rest95
    case hi95 => rfl
    case hs95 => kernel_rfl
    case hf95 => kernel_rfl
    case hr95 => kernel_rfl
    case hQ95 => exact fun _ _ _ h => h
    case hS95 => assumption
    case hy95 =>
      refine Or.inl ⟨by kernel_rfl, ?_⟩
      intro w' hSw
      (try dsimp only at hSw)
      go_simp
      (try rfl)
    (try simp only [List.getElem_toArray, List.getElem_cons_succ, List.getElem_cons_zero, Act.put, List.setIfInBounds_toArray, List.set_cons_zero, List.set_cons_succ])
    refine wpAnyH_ready (rs := [1]) (by kernel_rfl) (by simp) ?_
    refine AllReadyH.cons rfl (fun K hK => ?_) AllReadyH.nil
    · go_simp
      refine (specNumbersR A _ _ a1 A.s.length c1 rfl).mono ?_
      rintro e w5 ⟨⟨v5, rfl, hr5⟩, hB5⟩
      refine hK.out _ _ ?_ (fun hHeld => ?_)
      · exact SmS.next hHeld hB5
      clear hK K
      (try simp only [List.getElem_toArray, List.getElem_cons_succ, List.getElem_cons_zero, Act.put, List.setIfInBounds_toArray, List.set_cons_zero, List.set_cons_succ])
      refine wpAnyH_ready (rs := [3]) (by kernel_rfl) (by simp) ?_
      refine AllReadyH.cons rfl (fun K hK => ?_) AllReadyH.nil
      · go_simp
        refine (specNumbersR B _ _ a2 B.s.length c2 rfl).mono ?_
        rintro e w6 ⟨⟨v6, rfl, hr6⟩, hB6⟩
        refine hK.out _ _ ?_ (fun hHeld => ?_)
        · exact SmS.next hHeld hB6
        clear hK K
        (try simp only [List.getElem_toArray, List.getElem_cons_succ, List.getElem_cons_zero, Act.put, List.setIfInBounds_toArray, List.set_cons_zero, List.set_cons_succ])
        refine wpAnyH_ready (rs := [4]) (by kernel_rfl) (by simp) ?_
        refine AllReadyH.cons rfl (fun K hK => ?_) AllReadyH.nil
        · go_simp
          refine (specInts _ _ _ (numsC A) (numsC B) (hr5.below hB6) hr6).mono ?_
          rintro e w7 ⟨rfl, hB7⟩
          rw [h1.out]
          refine hK.out _ _ ?_ (fun hHeld => ?_)
          · exact SmS.next hHeld hB7
          clear hK K
          (try simp only [List.getElem_toArray, List.getElem_cons_succ, List.getElem_cons_zero, Act.put, List.setIfInBounds_toArray, List.set_cons_zero, List.set_cons_succ])
          refine wpAnyH_take (i := 5) (oi := ?o72) (v := ?v72) ?hi72 ?hs72 ?hf72 ?hr72 ?hQ72 ?hy72 ?hS72 ?rest72
          case hi72 => rfl
          case hs72 => kernel_rfl
          case hf72 => kernel_rfl
          case hr72 => kernel_rfl
          case hQ72 => exact fun _ _ _ h => h
          case hS72 => assumption
          case hy72 =>
            refine Or.inl ⟨by kernel_rfl, ?_⟩
            intro w' hSw
            (try dsimp only at hSw)
            go_simp
            (try rfl)
          (try simp only [List.getElem_toArray, List.getElem_cons_succ, List.getElem_cons_zero, Act.put, List.setIfInBounds_toArray, List.set_cons_zero, List.set_cons_succ])
          refine wpAnyH_take (i := 6) (oi := ?o73) (v := undef) ?hi73 ?hs73 ?hf73 ?hr73 ?hQ73 ?hy73 ?hS73 ?rest73
          case hi73 => rfl
          case hs73 => kernel_rfl
          case hf73 => kernel_rfl
          case hr73 => kernel_rfl
          case hQ73 => exact fun _ _ _ h => h
          case hS73 => assumption
          case hy73 => exact Or.inr ⟨by kernel_rfl, rfl⟩
          (try simp only [List.getElem_toArray, List.getElem_cons_succ, List.getElem_cons_zero, Act.put, List.setIfInBounds_toArray, List.set_cons_zero, List.set_cons_succ])
          refine wpAnyH_take (i := 7) (oi := ?o74) (v := undef) ?hi74 ?hs74 ?hf74 ?hr74 ?hQ74 ?hy74 ?hS74 ?rest74
          case hi74 => rfl
          case hs74 => kernel_rfl
          case hf74 => kernel_rfl
          case hr74 => kernel_rfl
          case hQ74 => exact fun _ _ _ h => h
          case hS74 => assumption
          case hy74 => exact Or.inr ⟨by kernel_rfl, rfl⟩
          (try simp only [List.getElem_toArray, List.getElem_cons_succ, List.getElem_cons_zero, Act.put, List.setIfInBounds_toArray, List.set_cons_zero, List.set_cons_succ])
          refine wpAnyH_take (i := 8) (oi := ?o75) (v := undef) ?hi75 ?hs75 ?hf75 ?hr75 ?hQ75 ?hy75 ?hS75 ?rest75
          case hi75 => rfl
          case hs75 => kernel_rfl
          case hf75 => kernel_rfl
          case hr75 => kernel_rfl
          case hQ75 => exact fun _ _ _ h => h
          case hS75 => assumption
          case hy75 => exact Or.inr ⟨by kernel_rfl, rfl⟩
          (try simp only [List.getElem_toArray, List.getElem_cons_succ, List.getElem_cons_zero, Act.put, List.setIfInBounds_toArray, List.set_cons_zero, List.set_cons_succ])
          refine wpAnyH_take (i := 9) (oi := ?o76) (v := undef) ?hi76 ?hs76 ?hf76 ?hr76 ?hQ76 ?hy76 ?hS76 ?rest76
          case hi76 => rfl
          case hs76 => kernel_rfl
          case hf76 => kernel_rfl
          case hr76 => kernel_rfl
          case hQ76 => exact fun _ _ _ h => h
          case hS76 => assumption
          case hy76 => exact Or.inr ⟨by kernel_rfl, rfl⟩
          (try simp only [List.getElem_toArray, List.getElem_cons_succ, List.getElem_cons_zero, Act.put, List.setIfInBounds_toArray, List.set_cons_zero, List.set_cons_succ])
          refine wpAnyH_take (i := 10) (oi := ?o77) (v := undef) ?hi77 ?hs77 ?hf77 ?hr77 ?hQ77 ?hy77 ?hS77 ?rest77
          case hi77 => rfl
          case hs77 => kernel_rfl
          case hf77 => kernel_rfl
          case hr77 => kernel_rfl
          case hQ77 => exact fun _ _ _ h => h
          case hS77 => assumption
          case hy77 => exact Or.inr ⟨by kernel_rfl, rfl⟩
          (try simp only [List.getElem_toArray, List.getElem_cons_succ, List.getElem_cons_zero, Act.put, List.setIfInBounds_toArray, List.set_cons_zero, List.set_cons_succ])
          refine wpAnyH_take (i := 11) (oi := ?o78) (v := ?v78) ?hi78 ?hs78 ?hf78 ?hr78 ?hQ78 ?hy78 ?hS78 ?rest78
          case hi78 => rfl
          case hs78 => kernel_rfl
          case hf78 => kernel_rfl
          case hr78 => kernel_rfl
          case hQ78 => exact fun _ _ _ h => h
          case hS78 => assumption
          case hy78 =>
            refine Or.inl ⟨by kernel_rfl, ?_⟩
            intro w' hSw
            (try dsimp only at hSw)
            go_simp
            (try rfl)
          (try simp only [List.getElem_toArray, List.getElem_cons_succ, List.getElem_cons_zero, Act.put, List.setIfInBounds_toArray, List.set_cons_zero, List.set_cons_succ])
          refine wpAnyH_take (i := 12) (oi := ?o79) (v := ?v79) ?hi79 ?hs79 ?hf79 ?hr79 ?hQ79 ?hy79 ?hS79 ?rest79
          case hi79 => rfl
          case hs79 => kernel_rfl
          case hf79 => kernel_rfl
          case hr79 => kernel_rfl
          case hQ79 => exact fun _ _ _ h => h
          case hS79 => assumption
          case hy79 =>
            refine Or.inl ⟨by kernel_rfl, ?_⟩
            intro w' hSw
            (try dsimp only at hSw)
            go_simp
            (try rfl)
          (try simp only [List.getElem_toArray, List.getElem_cons_succ, List.getElem_cons_zero, Act.put, List.setIfInBounds_toArray, List.set_cons_zero, List.set_cons_succ])
          refine wpAnyH_take (i := 13) (oi := ?o80) (v := undef) ?hi80 ?hs80 ?hf80 ?hr80 ?hQ80 ?hy80 ?hS80 ?rest80
          case hi80 => rfl
          case hs80 => kernel_rfl
          case hf80 => kernel_rfl
          case hr80 => kernel_rfl
          case hQ80 => exact fun _ _ _ h => h
          case hS80 => assumption
          case hy80 => exact Or.inr ⟨by kernel_rfl, rfl⟩
          (try simp only [List.getElem_toArray, List.getElem_cons_succ, List.getElem_cons_zero, Act.put, List.setIfInBounds_toArray, List.set_cons_zero, List.set_cons_succ])
          refine wpAnyH_take (i := 14) (oi := ?o81) (v := undef) ?hi81 ?hs81 ?hf81 ?hr81 ?hQ81 ?hy81 ?hS81 ?rest81
          case hi81 => rfl
          case hs81 => kernel_rfl
          case hf81 => kernel_rfl
          case hr81 => kernel_rfl
          case hQ81 => exact fun _ _ _ h => h
          case hS81 => assumption
          case hy81 => exact Or.inr ⟨by kernel_rfl, rfl⟩
          (try simp only [List.getElem_toArray, List.getElem_cons_succ, List.getElem_cons_zero, Act.put, List.setIfInBounds_toArray, List.set_cons_zero, List.set_cons_succ])
          refine wpAnyH_take (i := 15) (oi := ?o82) (v := undef) ?hi82 ?hs82 ?hf82 ?hr82 ?hQ82 ?hy82 ?hS82 ?rest82
          case hi82 => rfl
          case hs82 => kernel_rfl
          case hf82 => kernel_rfl
          case hr82 => kernel_rfl
          case hQ82 => exact fun _ _ _ h => h
          case hS82 => assumption
          case hy82 => exact Or.inr ⟨by kernel_rfl, rfl⟩
          (try simp only [List.getElem_toArray, List.getElem_cons_succ, List.getElem_cons_zero, Act.put, List.setIfInBounds_toArray, List.set_cons_zero, List.set_cons_succ])
          refine wpAnyH_take (i := 16) (oi := ?o83) (v := undef) ?hi83 ?hs83 ?hf83 ?hr83 ?hQ83 ?hy83 ?hS83 ?rest83
          case hi83 => rfl
          case hs83 => kernel_rfl
          case hf83 => kernel_rfl
          case hr83 => kernel_rfl
          case hQ83 => exact fun _ _ _ h => h
          case hS83 => assumption
          case hy83 => exact Or.inr ⟨by kernel_rfl, rfl⟩
          (try simp only [List.getElem_toArray, List.getElem_cons_succ, List.getElem_cons_zero, Act.put, List.setIfInBounds_toArray, List.set_cons_zero, List.set_cons_succ])
          refine wpAnyH_take (i := 17) (oi := ?o84) (v := undef) ?hi84 ?hs84 ?hf84 ?hr84 ?hQ84 ?hy84 ?hS84 ?rest84
          case hi84 => rfl
          case hs84 => kernel_rfl
          case hf84 => kernel_rfl
          case hr84 => kernel_rfl
          case hQ84 => exact fun _ _ _ h => h
          case hS84 => assumption
          case hy84 => exact Or.inr ⟨by kernel_rfl, rfl⟩
          (try simp only [List.getElem_toArray, List.getElem_cons_succ, List.getElem_cons_zero, Act.put, List.setIfInBounds_toArray, List.set_cons_zero, List.set_cons_succ])
          refine wpAnyH_take (i := 18) (oi := ?o85) (v := ?v85) ?hi85 ?hs85 ?hf85 ?hr85 ?hQ85 ?hy85 ?hS85 ?rest85
          case hi85 => rfl
          case hs85 => kernel_rfl
          case hf85 => kernel_rfl
          case hr85 => kernel_rfl
          case hQ85 => exact fun _ _ _ h => h
          case hS85 => assumption
          case hy85 =>
            refine Or.inl ⟨by kernel_rfl, ?_⟩
            intro w' hSw
            (try dsimp only at hSw)
            go_simp
            (try rfl)
          (try simp only [List.getElem_toArray, List.getElem_cons_succ, List.getElem_cons_zero, Act.put, List.setIfInBounds_toArray, List.set_cons_zero, List.set_cons_succ])
          refine wpAnyH_take (i := 19) (oi := ?o86) (v := ?v86) ?hi86 ?hs86 ?hf86 ?hr86 ?hQ86 ?hy86 ?hS86 ?rest86
          case hi86 => rfl
          case hs86 => kernel_rfl
          case hf86 => kernel_rfl
          case hr86 => kernel_rfl
          case hQ86 => exact fun _ _ _ h => h
          case hS86 => assumption
          case hy86 =>
            refine Or.inl ⟨by kernel_rfl, ?_⟩
            intro w' hSw
            (try dsimp only at hSw)
            go_simp
            (try rfl)
          (try simp only [List.getElem_toArray, List.getElem_cons_succ, List.getElem_cons_zero, Act.put, List.setIfInBounds_toArray, List.set_cons_zero, List.set_cons_succ])
          refine wpAnyH_take (i := 20) (oi := ?o87) (v := undef) ?hi87 ?hs87 ?hf87 ?hr87 ?hQ87 ?hy87 ?hS87 ?rest87
          case hi87 => rfl
          case hs87 => kernel_rfl
          case hf87 => kernel_rfl
          case hr87 => kernel_rfl
          case hQ87 => exact fun _ _ _ h => h
          case hS87 => assumption
          case hy87 => exact Or.inr ⟨by kernel_rfl, rfl⟩
          (try simp only [List.getElem_toArray, List.getElem_cons_succ, List.getElem_cons_zero, Act.put, List.setIfInBounds_toArray, List.set_cons_zero, List.set_cons_succ])
          refine wpAnyH_take (i := 21) (oi := ?o88) (v := undef) ?hi88 ?hs88 ?hf88 ?hr88 ?hQ88 ?hy88 ?hS88 ?rest88
          case hi88 => rfl
          case hs88 => kernel_rfl
          case hf88 => kernel_rfl
          case hr88 => kernel_rfl
          case hQ88 => exact fun _ _ _ h => h
          case hS88 => assumption
          case hy88 => exact Or.inr ⟨by kernel_rfl, rfl⟩
          (try simp only [List.getElem_toArray, List.getElem_cons_succ, List.getElem_cons_zero, Act.put, List.setIfInBounds_toArray, List.set_cons_zero, List.set_cons_succ])
          refine wpAnyH_take (i := 22) (oi := ?o89) (v := undef) ?hi89 ?hs89 ?hf89 ?hr89 ?hQ89 ?hy89 ?hS89 ?rest89
          case hi89 => rfl
          case hs89 => kernel_rfl
          case hf89 => kernel_rfl
          case hr89 => kernel_rfl
          case hQ89 => exact fun _ _ _ h => h
          case hS89 => assumption
          case hy89 => exact Or.inr ⟨by kernel_rfl, rfl⟩
          (try simp only [List.getElem_toArray, List.getElem_cons_succ, List.getElem_cons_zero, Act.put, List.setIfInBounds_toArray, List.set_cons_zero, List.set_cons_succ])
          refine wpAnyH_take (i := 23) (oi := ?o90) (v := undef) ?hi90 ?hs90 ?hf90 ?hr90 ?hQ90 ?hy90 ?hS90 ?rest90
          case hi90 => rfl
          case hs90 => kernel_rfl
          case hf90 => kernel_rfl
          case hr90 => kernel_rfl
          case hQ90 => exact fun _ _ _ h => h
          case hS90 => assumption
          case hy90 => exact Or.inr ⟨by kernel_rfl, rfl⟩
          (try simp only [List.getElem_toArray, List.getElem_cons_succ, List.getElem_cons_zero, Act.put, List.setIfInBounds_toArray, List.set_cons_zero, List.set_cons_succ])
          refine wpAnyH_take (i := 24) (oi := ?o91) (v := undef) ?hi91 ?hs91 ?hf91 ?hr91 ?hQ91 ?hy91 ?hS91 ?rest91
          case hi91 => rfl
          case hs91 => kernel_rfl
          case hf91 => kernel_rfl
          case hr91 => kernel_rfl
          case hQ91 => exact fun _ _ _ h => h
          case hS91 => assumption
          case hy91 => exact Or.inr ⟨by kernel_rfl, rfl⟩
          (try simp only [List.getElem_toArray, List.getElem_cons_succ, List.getElem_cons_zero, Act.put, List.setIfInBounds_toArray, List.set_cons_zero, List.set_cons_succ])
          refine wpAnyH_take (i := 25) (oi := ?o92) (v := ?v92) ?hi92 ?hs92 ?hf92 ?hr92 ?hQ92 ?hy92 ?hS92 ?rest92
          case hi92 => rfl
          case hs92 => kernel_rfl
          case hf92 => kernel_rfl
          case hr92 => kernel_rfl
          case hQ92 => exact fun _ _ _ h => h
          case hS92 => assumption
          case hy92 =>
            refine Or.inl ⟨by kernel_rfl, ?_⟩
            intro w' hSw
            (try dsimp only at hSw)
            go_simp
            (try rfl)
          (try simp only [List.getElem_toArray, List.getElem_cons_succ, List.getElem_cons_zero, Act.put, List.setIfInBounds_toArray, List.set_cons_zero, List.set_cons_succ])
          refine wpAnyH_take (i := 26) (oi := ?o93) (v := ?v93) ?hi93 ?hs93 ?hf93 ?hr93 ?hQ93 ?hy93 ?hS93 ?rest93
          case hi93 => rfl
          case hs93 => kernel_rfl
          case hf93 => kernel_rfl
          case hr93 => kernel_rfl
          case hQ93 => exact fun _ _ _ h => h
          case hS93 => assumption
          case hy93 =>
            refine Or.inl ⟨by kernel_rfl, ?_⟩
            intro w' hSw
            (try dsimp only at hSw)
            go_simp
            (try rfl)
          (try simp only [List.getElem_toArray, List.getElem_cons_succ, List.getElem_cons_zero, Act.put, List.setIfInBounds_toArray, List.set_cons_zero, List.set_cons_succ])
          refine wpAnyH_done (by kernel_rfl) ?_ _
          refine NoPanic.normal ?_
          go_wp2_with fail
          go_ret
          exact ⟨ret_boolC HE.out, bt hB0 (bt hB5 (bt hB6 hB7))⟩

end Go.Proofs.YtnnbhgnllbjmeaaGreatDoor
