/-
  The text of settings: the reference's way.
-/
import Derived.Test.YtnnbhgnllbjmeaaGreatDoorCfgQ
import Derived.Test.YtnnbhgnllbjmeaaGreatDoorPk1
import Derived.Test.YtnnbhgnllbjmeaaGreatDoorPk2
import Derived.Test.YtnnbhgnllbjmeaaGreatDoorPk3
namespace Go.Proofs.YtnnbhgnllbjmeaaGreatDoor
open Go.RowKit

set_option maxRecDepth 100000 in
theorem specWords (w : World) :
    Calls Tryz.prog 27 #[] w fun e w' => e = .returned (.slice (some ⟨w.heap.size, 0, none⟩) 7 7) ∧ w.alloc (.cells #[.string ⟨#[114, 111, 117, 110, 100, 115]⟩, .string ⟨#[100, 101, 112, 116, 104]⟩, .string ⟨#[98, 105, 110, 115]⟩, .string ⟨#[108, 97, 109, 98, 100, 97]⟩, .string ⟨#[114, 111, 119, 115]⟩, .string ⟨#[114, 97, 116, 101]⟩, .string ⟨#[115, 105, 103, 110, 115]⟩] 9) = w' := by
  go_enter Tryz.func27, Tryz.ntmps27
  go_wp2_with fail
  go_ret
  exact ⟨rfl, rfl⟩
theorem specWordsB (w : World) (k : Nat) (x : ByteArray) (hx : (#[.string ⟨#[114, 111, 117, 110, 100, 115]⟩, .string ⟨#[100, 101, 112, 116, 104]⟩, .string ⟨#[98, 105, 110, 115]⟩, .string ⟨#[108, 97, 109, 98, 100, 97]⟩, .string ⟨#[114, 111, 119, 115]⟩, .string ⟨#[114, 97, 116, 101]⟩, .string ⟨#[115, 105, 103, 110, 115]⟩] : Array Value)[k]? = some (.string x)) :
    Calls Tryz.prog 27 #[] w fun e w' => (e = .returned (.slice (some ⟨w.heap.size, 0, none⟩) 7 7) ∧ w'.cell? ⟨w.heap.size, k, none⟩ = some (.string x)) ∧ Below w.heap.size w w' :=
  (specWords w).mono fun e w' ⟨he, hw⟩ => ⟨⟨he, by rw [← hw]; exact (cell_blk (alloc_blk w _ _) k).trans hx⟩, by rw [← hw]; exact below_al w _⟩
theorem atWord {k : Nat} (h : k < 7) : (#[.string ⟨#[114, 111, 117, 110, 100, 115]⟩, .string ⟨#[100, 101, 112, 116, 104]⟩, .string ⟨#[98, 105, 110, 115]⟩, .string ⟨#[108, 97, 109, 98, 100, 97]⟩, .string ⟨#[114, 111, 119, 115]⟩, .string ⟨#[114, 97, 116, 101]⟩, .string ⟨#[115, 105, 103, 110, 115]⟩] : Array Value)[k]? = some (.string ⟨(wordL k).toArray⟩) := by
  rcases (by omega : k = 0 ∨ k = 1 ∨ k = 2 ∨ k = 3 ∨ k = 4 ∨ k = 5 ∨ k = 6) with rfl | rfl | rfl | rfl | rfl | rfl | rfl <;> rfl
theorem ret_strX {a b : ByteArray} (h : a = b) : Ending.returned (.string a) = .returned (.string b) := by rw [h]
theorem sgn_cells (l : List Int) (z : Int) : strCells ((l ++ [z]).map sgnT) = strCells (l.map sgnT) ++ [.string ⟨(sgnT z).toArray⟩] := by
  unfold strCells
  simp
theorem sgn_row {w : World} {base : Nat} {v : Value} {s : List Int} {j : Nat} {z : Int} {t : List UInt8} (hz : s[j]? = some z) (hs : sgnT z = t) (h : w.ownsRow base 9 1 v (j + 1) (strCells ((s.map sgnT).take j) ++ [.string ⟨t.toArray⟩])) : w.ownsRow base 9 1 v (j + 1) (strCells ((s.map sgnT).take (j + 1))) := by
  have e : strCells ((s.map sgnT).take (j + 1)) = strCells ((s.map sgnT).take j) ++ [.string ⟨t.toArray⟩] := by
    rw [List.take_add_one, List.getElem?_map, hz, ← hs]
    unfold strCells
    simp
  rw [e]
  exact h
theorem news_next {w : World} (o : Obj) {T : TypeId} {x : Value} (j : Nat) (u : Value) (h : [x][j]? = some u) : ((w.alloc o).alloc (.cells #[x] T)).cell? ((⟨w.heap.size + 1, 0, none⟩ : Addr).add j) = some u := by
  have hh := news_one (w := w.alloc o) (T := T) j u h
  rw [size_alloc] at hh
  exact hh
theorem cell_keepX {w w' : World} {a : Addr} {v : Value} (h : w.cell? a = some v) (hB : Below w.heap.size w w') : w'.cell? a = some v := (hB.cell (World.block_lt_of_cell? w a h)).trans h
theorem itoa_len20 {z : Int} (h0 : 0 ≤ z) (h1 : z ≤ 1000) : (Lib.itoa z).length ≤ 21 := Lib.itoa_length_le z (by omega) (by omega)
set_option maxRecDepth 100000 in
set_option maxHeartbeats 1000000 in
theorem specText_no (C : Cfg) (u : Value) (w : World) (h : IntRow w u C.s) (hk : Hid (okC C = false)) :
    Calls Tryz.prog 8 #[.agg #[.int .i64 C.r, .int .i64 C.d, .int .i64 C.b, .int .i64 C.l, .int .i64 C.m, .int .i64 C.n, .int .i64 C.e, u]] w fun e w' => e = .returned (.string ⟨#[]⟩) ∧ Below w.heap.size w w' := by
  obtain ⟨a, c, rfl, hl, hc⟩ := intRow_form h
  clear hc
  go_enter Tryz.func8, Tryz.ntmps8
  go_wp2_with fail
  refine (specConfigOk C _ _ (h.below (below_al w _))).mono ?_
  rintro e w1 ⟨rfl, hB⟩
  rw [hk.out]
  go_wp2_with fail
  go_ret
  exact ⟨rfl, bt (below_al w _) hB⟩
set_option maxRecDepth 100000 in
set_option maxHeartbeats 8000000 in
theorem specText_ok (C : Cfg) (u : Value) (w : World) (h : IntRow w u C.s) (hk : Hid (okC C = true)) :
    Calls Tryz.prog 8 #[.agg #[.int .i64 C.r, .int .i64 C.d, .int .i64 C.b, .int .i64 C.l, .int .i64 C.m, .int .i64 C.n, .int .i64 C.e, u]] w fun e w' => e = .returned (.string ⟨(textC C).toArray⟩) ∧ Below w.heap.size w w' := by
  have ho := okC_iff.1 hk.out
  obtain ⟨a, c, rfl, hl, hc⟩ := intRow_form h
  obtain ⟨iS, hi, hz0, hz1, hz2⟩ := info_parts infoStr
  have HC := Lib.hid hc
  have HO := Lib.hid ho
  clear hc ho
  go_enter Tryz.func8, Tryz.ntmps8
  go_wp2_with fail
  refine (specConfigOk C _ _ (h.below (below_al w _))).mono ?_
  rintro e w1 ⟨rfl, hB1⟩
  rw [hk.out]
  have xA := blk_next (alloc_blk w #[.int .i64 C.r, .int .i64 C.d, .int .i64 C.b, .int .i64 C.l, .int .i64 C.m, .int .i64 C.n, .int .i64 C.e, .slice a C.s.length c] 26) hB1
  have B01 := bt (below_al w (.cells #[.int .i64 C.r, .int .i64 C.d, .int .i64 C.b, .int .i64 C.l, .int .i64 C.m, .int .i64 C.n, .int .i64 C.e, .slice a C.s.length c] 26)) hB1
  clear hB1
  have ca0 := cell_blk xA 0
  have ca1 := cell_blk xA 1
  have ca2 := cell_blk xA 2
  have ca3 := cell_blk xA 3
  have ca4 := cell_blk xA 4
  have ca5 := cell_blk xA 5
  have ca6 := cell_blk xA 6
  have ca7 := cell_blk xA 7
  have la := blk_lt xA
  go_wp2_with fail
  refine (specNumbersR C _ _ a C.s.length c rfl).mono ?_
  rintro e w2 ⟨⟨v2, rfl, hv2⟩, hB2⟩
  obtain ⟨a2, c2, rfl, _, hn⟩ := intRow_form hv2
  obtain ⟨b2, o2, rfl, _⟩ := hn 0 C.r rfl
  have HN : Hid (∀ (k : Nat), k < 5 → w2.cell? ⟨b2, o2 + k, none⟩ = some (.int .i64 (numC k C))) := Lib.hid (fun k hk => by
    obtain ⟨b3, o3, hab, hcell⟩ := hn k (numC k C) (by rcases (by omega : k = 0 ∨ k = 1 ∨ k = 2 ∨ k = 3 ∨ k = 4) with rfl | rfl | rfl | rfl | rfl <;> rfl)
    cases hab
    exact hcell)
  have xB := blk_next xA hB2
  have B02 := Lib.hid (bt B01 hB2)
  clear ca0 ca1 ca2 ca3 ca4 ca5 ca6 ca7 la hn hv2 xA B01 hB2
  have hlen5 : (numsC C).length = 5 := rfl
  go_wp2_with fail
  go_loopw [3, 5] (fun s i wr => ∃ k : Nat, k ≤ 5 ∧ i = .int .i64 k ∧ s = .string ⟨(preC C k).toArray⟩ ∧ Below w2.heap.size w2 wr) (fun _ i _ => 5 - (intOf i).toNat)
  case atStart => exact ⟨0, by omega, rfl, rfl, Below.refl _ _⟩
  case round =>
    obtain ⟨k, hk5, rfl, rfl, hB⟩ := hrel
    obtain ⟨p, hp⟩ : ∃ p, preC C k = p := ⟨_, rfl⟩
    have hpl := preC_len hk.out (k := k) (by omega)
    rw [hp] at hpl ⊢
    by_cases hlt : k < 5
    · have hk1 : (k : Int) < 5 := by omega
      have hk0 : (0 : Int) ≤ k := by omega
      have hk7 : (k : Int) < 7 := by omega
      have aW := atWord (k := k) (by omega)
      have hwl := (wordL_ok k (by omega)).2.2
      have hr := num_range hk.out hlt
      have hcn := cell_keepX (HN.out k hlt) hB
      have hps := preC_num (C := C) hlt
      rw [hp] at hps
      obtain ⟨wd, hwd⟩ : ∃ wd, wordL k = wd := ⟨_, rfl⟩
      obtain ⟨z, hz⟩ : ∃ z, numC k C = z := ⟨_, rfl⟩
      rw [hwd] at aW hwl hps
      rw [hz] at hr hcn hps
      have htl := itoa_len20 hr.2.2.1 hr.2.2.2
      obtain ⟨t, ht⟩ : ∃ t, Lib.itoa z = t := ⟨_, rfl⟩
      rw [ht] at htl hps
      have z0 : -9223372036854775808 ≤ z := by omega
      have z1 : z ≤ 9223372036854775807 := by omega
      have HD := Lib.hid ht
      have HPS := Lib.hid hps
      have g1 : ¬ 9223372036854775807 < p.length + wd.length := by omega
      have g2 : ¬ 9223372036854775807 < p.length + wd.length + 1 := by omega
      have g3 : ¬ 9223372036854775807 < p.length + wd.length + 1 + t.length := by omega
      have g4 : ¬ 9223372036854775807 < p.length + wd.length + 1 + t.length + 1 := by omega
      clear hp hwd hz ht hps hr
      go_wp2_with fail
      have hS0 : (fun w' => w'.cell? ⟨b2, o2 + k, none⟩ = some (.int .i64 z) ∧ Below w2.heap.size w2 w') wr.drew := ⟨hcn, hB.drew⟩
      refine wp_region_noPanic ?_
      refine wp_region_held_drew (S := (fun w' => w'.cell? ⟨b2, o2 + k, none⟩ = some (.int .i64 z) ∧ Below w2.heap.size w2 w')) (by kernel_rfl) hS0 (fun hHeld => ?_)
      clear hS0
      refine wpAnyH_take (i := 0) (oi := ?o1) (v := ?v1) ?hi1 ?hs1 ?hf1 ?hr1 ?hQ1 ?hy1 ?hS1 ?rest1
      case hi1 => rfl
      case hs1 => kernel_rfl
      case hf1 => kernel_rfl
      case hr1 => kernel_rfl
      case hQ1 => exact fun _ _ _ h => h
      case hS1 => assumption
      case hy1 =>
        refine Or.inl ⟨by kernel_rfl, ?_⟩
        intro w' hSw
        (try dsimp only at hSw)
        go_simp
        (try rfl)
      (try simp only [List.getElem_toArray, List.getElem_cons_zero, Act.put, List.setIfInBounds_toArray, List.set_cons_zero, List.set_cons_succ])
      refine wpAnyH_take (i := 2) (oi := ?o2) (v := ?v2) ?hi2 ?hs2 ?hf2 ?hr2 ?hQ2 ?hy2 ?hS2 ?rest2
      case hi2 => rfl
      case hs2 => kernel_rfl
      case hf2 => kernel_rfl
      case hr2 => kernel_rfl
      case hQ2 => exact fun _ _ _ h => h
      case hS2 => assumption
      case hy2 =>
        refine Or.inl ⟨by kernel_rfl, ?_⟩
        intro w' hSw
        (try dsimp only at hSw)
        go_simp
        (try rfl)
      (try simp only [List.getElem_toArray, List.getElem_cons_succ, List.getElem_cons_zero, Act.put, List.setIfInBounds_toArray, List.set_cons_zero, List.set_cons_succ])
      refine wpAnyH_take (i := 7) (oi := ?o3) (v := ?v3) ?hi3 ?hs3 ?hf3 ?hr3 ?hQ3 ?hy3 ?hS3 ?rest3
      case hi3 => rfl
      case hs3 => kernel_rfl
      case hf3 => kernel_rfl
      case hr3 => kernel_rfl
      case hQ3 => exact fun _ _ _ h => h
      case hS3 => assumption
      case hy3 =>
        refine Or.inl ⟨by kernel_rfl, ?_⟩
        intro w' hSw
        (try dsimp only at hSw)
        go_simp
        (try rfl)
      (try simp only [List.getElem_toArray, List.getElem_cons_succ, List.getElem_cons_zero, Act.put, List.setIfInBounds_toArray, List.set_cons_zero, List.set_cons_succ])
      refine wpAnyH_take (i := 8) (oi := ?o4) (v := ?v4) ?hi4 ?hs4 ?hf4 ?hr4 ?hQ4 ?hy4 ?hS4 ?rest4
      case hi4 => rfl
      case hs4 => kernel_rfl
      case hf4 => kernel_rfl
      case hr4 => kernel_rfl
      case hQ4 => exact fun _ _ _ h => h
      case hS4 => assumption
      case hy4 =>
        refine Or.inl ⟨by kernel_rfl, ?_⟩
        intro w' hSw
        (try dsimp only at hSw)
        go_simp
        (try rfl)
      (try simp only [List.getElem_toArray, List.getElem_cons_succ, List.getElem_cons_zero, Act.put, List.setIfInBounds_toArray, List.set_cons_zero, List.set_cons_succ])
      refine wpAnyH_take (i := 9) (oi := ?o5) (v := ?v5) ?hi5 ?hs5 ?hf5 ?hr5 ?hQ5 ?hy5 ?hS5 ?rest5
      case hi5 => rfl
      case hs5 => kernel_rfl
      case hf5 => kernel_rfl
      case hr5 => kernel_rfl
      case hQ5 => exact fun _ _ _ h => h
      case hS5 => assumption
      case hy5 =>
        refine Or.inl ⟨by kernel_rfl, ?_⟩
        intro w' hSw
        (try dsimp only at hSw)
        go_simp
        (try rfl)
      (try simp only [List.getElem_toArray, List.getElem_cons_succ, List.getElem_cons_zero, Act.put, List.setIfInBounds_toArray, List.set_cons_zero, List.set_cons_succ])
      refine wpAnyH_take (i := 10) (oi := ?o6) (v := ?v6) ?hi6 ?hs6 ?hf6 ?hr6 ?hQ6 ?hy6 ?hS6 ?rest6
      case hi6 => rfl
      case hs6 => kernel_rfl
      case hf6 => kernel_rfl
      case hr6 => kernel_rfl
      case hQ6 => exact fun _ _ _ h => h
      case hS6 => assumption
      case hy6 =>
        refine Or.inl ⟨by kernel_rfl, ?_⟩
        intro w' hSw
        (try dsimp only at hSw)
        go_simp
        (try rfl)
      (try simp only [List.getElem_toArray, List.getElem_cons_succ, List.getElem_cons_zero, Act.put, List.setIfInBounds_toArray, List.set_cons_zero, List.set_cons_succ])
      refine wpAnyH_ready (rs := [1]) (by kernel_rfl) (by simp) ?_
      refine AllReadyH.cons rfl (fun K hK => ?_) AllReadyH.nil
      go_simp
      refine (specWordsB _ k _ aW).mono ?_
      rintro e w5 ⟨⟨rfl, hc5⟩, hB5⟩
      refine hK.out _ _ ?_ (fun hHeld => ?_)
      · exact ⟨cell_keepX hHeld.1 hB5, bt hHeld.2 hB5⟩
      clear hK K
      (try simp only [List.getElem_toArray, List.getElem_cons_succ, List.getElem_cons_zero, Act.put, List.setIfInBounds_toArray, List.set_cons_zero, List.set_cons_succ])
      refine wpAnyH_weaken (S' := fun w' => (w'.cell? ⟨b2, o2 + k, none⟩ = some (.int .i64 z) ∧ Below w2.heap.size w2 w') ∧ w'.cell? ⟨wr.heap.size, k, none⟩ = some (.string ⟨wd.toArray⟩)) (fun _ h => h.1) _ _ _ _ ?_
      have hH1 : (fun w' => (w'.cell? ⟨b2, o2 + k, none⟩ = some (.int .i64 z) ∧ Below w2.heap.size w2 w') ∧ w'.cell? ⟨wr.heap.size, k, none⟩ = some (.string ⟨wd.toArray⟩)) w5 := ⟨hHeld, hc5⟩
      clear hHeld
      refine wpAnyH_take (i := 3) (oi := ?o7) (v := ?v7) ?hi7 ?hs7 ?hf7 ?hr7 ?hQ7 ?hy7 ?hS7 ?rest7
      case hi7 => rfl
      case hs7 => kernel_rfl
      case hf7 => kernel_rfl
      case hr7 => kernel_rfl
      case hQ7 => exact fun _ _ _ h => h
      case hS7 => assumption
      case hy7 =>
        refine Or.inl ⟨by kernel_rfl, ?_⟩
        intro w' hSw
        (try dsimp only at hSw)
        go_simp
        (try rfl)
      (try simp only [List.getElem_toArray, List.getElem_cons_succ, List.getElem_cons_zero, Act.put, List.setIfInBounds_toArray, List.set_cons_zero, List.set_cons_succ])
      refine wpAnyH_take (i := 4) (oi := ?o8) (v := ?v8) ?hi8 ?hs8 ?hf8 ?hr8 ?hQ8 ?hy8 ?hS8 ?rest8
      case hi8 => rfl
      case hs8 => kernel_rfl
      case hf8 => kernel_rfl
      case hr8 => kernel_rfl
      case hQ8 => exact fun _ _ _ h => h
      case hS8 => assumption
      case hy8 =>
        refine Or.inl ⟨by kernel_rfl, ?_⟩
        intro w' hSw
        (try dsimp only at hSw)
        go_simp
        (try rfl)
      (try simp only [List.getElem_toArray, List.getElem_cons_succ, List.getElem_cons_zero, Act.put, List.setIfInBounds_toArray, List.set_cons_zero, List.set_cons_succ])
      refine wpAnyH_take (i := 5) (oi := ?o9) (v := ?v9) ?hi9 ?hs9 ?hf9 ?hr9 ?hQ9 ?hy9 ?hS9 ?rest9
      case hi9 => rfl
      case hs9 => kernel_rfl
      case hf9 => kernel_rfl
      case hr9 => kernel_rfl
      case hQ9 => exact fun _ _ _ h => h
      case hS9 => assumption
      case hy9 =>
        refine Or.inl ⟨by kernel_rfl, ?_⟩
        intro w' hSw
        (try dsimp only at hSw)
        go_simp
        (try rfl)
      (try simp only [List.getElem_toArray, List.getElem_cons_succ, List.getElem_cons_zero, Act.put, List.setIfInBounds_toArray, List.set_cons_zero, List.set_cons_succ])
      refine wpAnyH_take (i := 6) (oi := ?o10) (v := ?v10) ?hi10 ?hs10 ?hf10 ?hr10 ?hQ10 ?hy10 ?hS10 ?rest10
      case hi10 => rfl
      case hs10 => kernel_rfl
      case hf10 => kernel_rfl
      case hr10 => kernel_rfl
      case hQ10 => exact fun _ _ _ h => h
      case hS10 => assumption
      case hy10 =>
        refine Or.inl ⟨by kernel_rfl, ?_⟩
        intro w' hSw
        (try dsimp only at hSw)
        go_simp
        (try rfl)
      (try simp only [List.getElem_toArray, List.getElem_cons_succ, List.getElem_cons_zero, Act.put, List.setIfInBounds_toArray, List.set_cons_zero, List.set_cons_succ])
      refine wpAnyH_ready (rs := [11]) (by kernel_rfl) (by simp) ?_
      refine AllReadyH.cons rfl (fun K hK => ?_) AllReadyH.nil
      go_simp
      refine (specDigits z z0 z1 _).mono ?_
      rintro e w6 ⟨rfl, hB6⟩
      rw [HD.out]
      refine hK.out _ _ ?_ (fun hHeld => ?_)
      · exact ⟨⟨cell_keepX hH1.1.1 hB6, bt hH1.1.2 hB6⟩, cell_keepX hH1.2 hB6⟩
      clear hK K
      (try simp only [List.getElem_toArray, List.getElem_cons_succ, List.getElem_cons_zero, Act.put, List.setIfInBounds_toArray, List.set_cons_zero, List.set_cons_succ])
      refine wpAnyH_take (i := 12) (oi := ?o11) (v := ?v11) ?hi11 ?hs11 ?hf11 ?hr11 ?hQ11 ?hy11 ?hS11 ?rest11
      case hi11 => rfl
      case hs11 => kernel_rfl
      case hf11 => kernel_rfl
      case hr11 => kernel_rfl
      case hQ11 => exact fun _ _ _ h => h
      case hS11 => assumption
      case hy11 =>
        refine Or.inl ⟨by kernel_rfl, ?_⟩
        intro w' hSw
        (try dsimp only at hSw)
        go_simp
        (try rfl)
      (try simp only [List.getElem_toArray, List.getElem_cons_succ, List.getElem_cons_zero, Act.put, List.setIfInBounds_toArray, List.set_cons_zero, List.set_cons_succ])
      refine wpAnyH_take (i := 13) (oi := ?o12) (v := ?v12) ?hi12 ?hs12 ?hf12 ?hr12 ?hQ12 ?hy12 ?hS12 ?rest12
      case hi12 => rfl
      case hs12 => kernel_rfl
      case hf12 => kernel_rfl
      case hr12 => kernel_rfl
      case hQ12 => exact fun _ _ _ h => h
      case hS12 => assumption
      case hy12 =>
        refine Or.inl ⟨by kernel_rfl, ?_⟩
        intro w' hSw
        (try dsimp only at hSw)
        go_simp
        (try rfl)
      (try simp only [List.getElem_toArray, List.getElem_cons_succ, List.getElem_cons_zero, Act.put, List.setIfInBounds_toArray, List.set_cons_zero, List.set_cons_succ])
      refine wpAnyH_take (i := 14) (oi := ?o13) (v := ?v13) ?hi13 ?hs13 ?hf13 ?hr13 ?hQ13 ?hy13 ?hS13 ?rest13
      case hi13 => rfl
      case hs13 => kernel_rfl
      case hf13 => kernel_rfl
      case hr13 => kernel_rfl
      case hQ13 => exact fun _ _ _ h => h
      case hS13 => assumption
      case hy13 =>
        refine Or.inl ⟨by kernel_rfl, ?_⟩
        intro w' hSw
        (try dsimp only at hSw)
        go_simp
        (try rfl)
      (try simp only [List.getElem_toArray, List.getElem_cons_succ, List.getElem_cons_zero, Act.put, List.setIfInBounds_toArray, List.set_cons_zero, List.set_cons_succ])
      refine wpAnyH_done (by kernel_rfl) ?_ _
      refine NoPanic.normal ?_
      obtain ⟨⟨_, hB6'⟩, _⟩ := hHeld
      go_wp2_with fail
      go_roundw
      case rel => exact ⟨k + 1, by omega, by go_num, by rw [HPS.out, cat_line], hB6'⟩
      case measure => simp [intOf]; omega
    · have hke : k = 5 := by omega
      subst hke
      have hk1 : ¬ ((5 : Nat) : Int) < 5 := by omega
      have xC := blk_next xB hB
      have c5 := cell_blk xC 5
      have c6 := cell_blk xC 6
      have lC := blk_lt xC
      have n0 : -9223372036854775808 ≤ C.n := by have := HO.out; omega
      have n1 : C.n ≤ 9223372036854775807 := by have := HO.out; omega
      have e0 : -9223372036854775808 ≤ C.e := by have := HO.out; omega
      have e1 : C.e ≤ 9223372036854775807 := by have := HO.out; omega
      have hps := preC_rate C
      obtain ⟨q6, hq6⟩ : ∃ q, preC C 6 = q := ⟨_, rfl⟩
      rw [hp, hq6] at hps
      have hql := preC_len hk.out (k := 6) (by omega)
      rw [hq6] at hql
      have HQ6 := Lib.hid hq6
      have htn := itoa_len20 (z := C.n) (by have := HO.out; omega) (by have := HO.out; omega)
      have hte := itoa_len20 (z := C.e) (by have := HO.out; omega) (by have := HO.out; omega)
      obtain ⟨tn, hdn⟩ : ∃ t, Lib.itoa C.n = t := ⟨_, rfl⟩
      obtain ⟨te, hde⟩ : ∃ t, Lib.itoa C.e = t := ⟨_, rfl⟩
      rw [hdn] at htn hps
      rw [hde] at hte hps
      have HDn := Lib.hid hdn
      have HDe := Lib.hid hde
      have HPS := Lib.hid hps
      have HX := Lib.hid xC
      have HX2 := Lib.hid xB
      have g1 : ¬ 9223372036854775807 < p.length + 5 := by omega
      have g2 : ¬ 9223372036854775807 < p.length + 5 + tn.length := by omega
      have g3 : ¬ 9223372036854775807 < p.length + 5 + tn.length + 1 := by omega
      have g4 : ¬ 9223372036854775807 < p.length + 5 + tn.length + 1 + te.length := by omega
      have g5 : ¬ 9223372036854775807 < p.length + 5 + tn.length + 1 + te.length + 1 := by omega
      clear hp hdn hde hps xC xB hq6
      go_wp2_with fail
      have hS0 : (fun w' => w'.cell? ⟨w.heap.size, 5, none⟩ = some (.int .i64 C.n) ∧ w'.cell? ⟨w.heap.size, 6, none⟩ = some (.int .i64 C.e) ∧ Below w2.heap.size w2 w') wr.drew := ⟨c5, c6, hB.drew⟩
      refine wp_region_noPanic ?_
      refine wp_region_held_drew (S := (fun w' => w'.cell? ⟨w.heap.size, 5, none⟩ = some (.int .i64 C.n) ∧ w'.cell? ⟨w.heap.size, 6, none⟩ = some (.int .i64 C.e) ∧ Below w2.heap.size w2 w')) (by kernel_rfl) hS0 (fun hHeld => ?_)
      clear hS0
      refine wpAnyH_take (i := 0) (oi := ?o14) (v := ?v14) ?hi14 ?hs14 ?hf14 ?hr14 ?hQ14 ?hy14 ?hS14 ?rest14
      case hi14 => rfl
      case hs14 => kernel_rfl
      case hf14 => kernel_rfl
      case hr14 => kernel_rfl
      case hQ14 => exact fun _ _ _ h => h
      case hS14 => assumption
      case hy14 =>
        refine Or.inl ⟨by kernel_rfl, ?_⟩
        intro w' hSw
        (try dsimp only at hSw)
        go_simp
        (try rfl)
      (try simp only [List.getElem_toArray, List.getElem_cons_zero, Act.put, List.setIfInBounds_toArray, List.set_cons_zero, List.set_cons_succ])
      refine wpAnyH_take (i := 1) (oi := ?o15) (v := ?v15) ?hi15 ?hs15 ?hf15 ?hr15 ?hQ15 ?hy15 ?hS15 ?rest15
      case hi15 => rfl
      case hs15 => kernel_rfl
      case hf15 => kernel_rfl
      case hr15 => kernel_rfl
      case hQ15 => exact fun _ _ _ h => h
      case hS15 => assumption
      case hy15 =>
        refine Or.inl ⟨by kernel_rfl, ?_⟩
        intro w' hSw
        (try dsimp only at hSw)
        go_simp
        (try rfl)
      (try simp only [List.getElem_toArray, List.getElem_cons_succ, List.getElem_cons_zero, Act.put, List.setIfInBounds_toArray, List.set_cons_zero, List.set_cons_succ])
      refine wpAnyH_take (i := 2) (oi := ?o16) (v := ?v16) ?hi16 ?hs16 ?hf16 ?hr16 ?hQ16 ?hy16 ?hS16 ?rest16
      case hi16 => rfl
      case hs16 => kernel_rfl
      case hf16 => kernel_rfl
      case hr16 => kernel_rfl
      case hQ16 => exact fun _ _ _ h => h
      case hS16 => assumption
      case hy16 =>
        refine Or.inl ⟨by kernel_rfl, ?_⟩
        intro w' hSw
        (try dsimp only at hSw)
        go_simp
        (try rfl)
      (try simp only [List.getElem_toArray, List.getElem_cons_succ, List.getElem_cons_zero, Act.put, List.setIfInBounds_toArray, List.set_cons_zero, List.set_cons_succ])
      refine wpAnyH_take (i := 3) (oi := ?o17) (v := ?v17) ?hi17 ?hs17 ?hf17 ?hr17 ?hQ17 ?hy17 ?hS17 ?rest17
      case hi17 => rfl
      case hs17 => kernel_rfl
      case hf17 => kernel_rfl
      case hr17 => kernel_rfl
      case hQ17 => exact fun _ _ _ h => h
      case hS17 => assumption
      case hy17 =>
        refine Or.inl ⟨by kernel_rfl, ?_⟩
        intro w' hSw
        (try dsimp only at hSw)
        go_simp
        (try rfl)
      (try simp only [List.getElem_toArray, List.getElem_cons_succ, List.getElem_cons_zero, Act.put, List.setIfInBounds_toArray, List.set_cons_zero, List.set_cons_succ])
      refine wpAnyH_take (i := 7) (oi := ?o18) (v := ?v18) ?hi18 ?hs18 ?hf18 ?hr18 ?hQ18 ?hy18 ?hS18 ?rest18
      case hi18 => rfl
      case hs18 => kernel_rfl
      case hf18 => kernel_rfl
      case hr18 => kernel_rfl
      case hQ18 => exact fun _ _ _ h => h
      case hS18 => assumption
      case hy18 =>
        refine Or.inl ⟨by kernel_rfl, ?_⟩
        intro w' hSw
        (try dsimp only at hSw)
        go_simp
        (try rfl)
      (try simp only [List.getElem_toArray, List.getElem_cons_succ, List.getElem_cons_zero, Act.put, List.setIfInBounds_toArray, List.set_cons_zero, List.set_cons_succ])
      refine wpAnyH_take (i := 8) (oi := ?o19) (v := ?v19) ?hi19 ?hs19 ?hf19 ?hr19 ?hQ19 ?hy19 ?hS19 ?rest19
      case hi19 => rfl
      case hs19 => kernel_rfl
      case hf19 => kernel_rfl
      case hr19 => kernel_rfl
      case hQ19 => exact fun _ _ _ h => h
      case hS19 => assumption
      case hy19 =>
        refine Or.inl ⟨by kernel_rfl, ?_⟩
        intro w' hSw
        (try dsimp only at hSw)
        go_simp
        (try rfl)
      (try simp only [List.getElem_toArray, List.getElem_cons_succ, List.getElem_cons_zero, Act.put, List.setIfInBounds_toArray, List.set_cons_zero, List.set_cons_succ])
      refine wpAnyH_ready (rs := [4]) (by kernel_rfl) (by simp) ?_
      refine AllReadyH.cons rfl (fun K hK => ?_) AllReadyH.nil
      go_simp
      refine (specDigits C.n n0 n1 _).mono ?_
      rintro e w5 ⟨rfl, hB5⟩
      rw [HDn.out]
      refine hK.out _ _ ?_ (fun hHeld => ?_)
      · exact ⟨cell_keepX hHeld.1 hB5, cell_keepX hHeld.2.1 hB5, bt hHeld.2.2 hB5⟩
      clear hK K
      (try simp only [List.getElem_toArray, List.getElem_cons_succ, List.getElem_cons_zero, Act.put, List.setIfInBounds_toArray, List.set_cons_zero, List.set_cons_succ])
      refine wpAnyH_take (i := 5) (oi := ?o20) (v := ?v20) ?hi20 ?hs20 ?hf20 ?hr20 ?hQ20 ?hy20 ?hS20 ?rest20
      case hi20 => rfl
      case hs20 => kernel_rfl
      case hf20 => kernel_rfl
      case hr20 => kernel_rfl
      case hQ20 => exact fun _ _ _ h => h
      case hS20 => assumption
      case hy20 =>
        refine Or.inl ⟨by kernel_rfl, ?_⟩
        intro w' hSw
        (try dsimp only at hSw)
        go_simp
        (try rfl)
      (try simp only [List.getElem_toArray, List.getElem_cons_succ, List.getElem_cons_zero, Act.put, List.setIfInBounds_toArray, List.set_cons_zero, List.set_cons_succ])
      refine wpAnyH_take (i := 6) (oi := ?o21) (v := ?v21) ?hi21 ?hs21 ?hf21 ?hr21 ?hQ21 ?hy21 ?hS21 ?rest21
      case hi21 => rfl
      case hs21 => kernel_rfl
      case hf21 => kernel_rfl
      case hr21 => kernel_rfl
      case hQ21 => exact fun _ _ _ h => h
      case hS21 => assumption
      case hy21 =>
        refine Or.inl ⟨by kernel_rfl, ?_⟩
        intro w' hSw
        (try dsimp only at hSw)
        go_simp
        (try rfl)
      (try simp only [List.getElem_toArray, List.getElem_cons_succ, List.getElem_cons_zero, Act.put, List.setIfInBounds_toArray, List.set_cons_zero, List.set_cons_succ])
      refine wpAnyH_ready (rs := [9]) (by kernel_rfl) (by simp) ?_
      refine AllReadyH.cons rfl (fun K hK => ?_) AllReadyH.nil
      go_simp
      refine (specDigits C.e e0 e1 _).mono ?_
      rintro e w6 ⟨rfl, hB6⟩
      rw [HDe.out]
      refine hK.out _ _ ?_ (fun hHeld => ?_)
      · exact ⟨cell_keepX hHeld.1 hB6, cell_keepX hHeld.2.1 hB6, bt hHeld.2.2 hB6⟩
      clear hK K
      (try simp only [List.getElem_toArray, List.getElem_cons_succ, List.getElem_cons_zero, Act.put, List.setIfInBounds_toArray, List.set_cons_zero, List.set_cons_succ])
      refine wpAnyH_take (i := 10) (oi := ?o22) (v := ?v22) ?hi22 ?hs22 ?hf22 ?hr22 ?hQ22 ?hy22 ?hS22 ?rest22
      case hi22 => rfl
      case hs22 => kernel_rfl
      case hf22 => kernel_rfl
      case hr22 => kernel_rfl
      case hQ22 => exact fun _ _ _ h => h
      case hS22 => assumption
      case hy22 =>
        refine Or.inl ⟨by kernel_rfl, ?_⟩
        intro w' hSw
        (try dsimp only at hSw)
        go_simp
        (try rfl)
      (try simp only [List.getElem_toArray, List.getElem_cons_succ, List.getElem_cons_zero, Act.put, List.setIfInBounds_toArray, List.set_cons_zero, List.set_cons_succ])
      refine wpAnyH_take (i := 11) (oi := ?o23) (v := ?v23) ?hi23 ?hs23 ?hf23 ?hr23 ?hQ23 ?hy23 ?hS23 ?rest23
      case hi23 => rfl
      case hs23 => kernel_rfl
      case hf23 => kernel_rfl
      case hr23 => kernel_rfl
      case hQ23 => exact fun _ _ _ h => h
      case hS23 => assumption
      case hy23 =>
        refine Or.inl ⟨by kernel_rfl, ?_⟩
        intro w' hSw
        (try dsimp only at hSw)
        go_simp
        (try rfl)
      (try simp only [List.getElem_toArray, List.getElem_cons_succ, List.getElem_cons_zero, Act.put, List.setIfInBounds_toArray, List.set_cons_zero, List.set_cons_succ])
      refine wpAnyH_take (i := 12) (oi := ?o24) (v := ?v24) ?hi24 ?hs24 ?hf24 ?hr24 ?hQ24 ?hy24 ?hS24 ?rest24
      case hi24 => rfl
      case hs24 => kernel_rfl
      case hf24 => kernel_rfl
      case hr24 => kernel_rfl
      case hQ24 => exact fun _ _ _ h => h
      case hS24 => assumption
      case hy24 =>
        refine Or.inl ⟨by kernel_rfl, ?_⟩
        intro w' hSw
        (try dsimp only at hSw)
        go_simp
        (try rfl)
      (try simp only [List.getElem_toArray, List.getElem_cons_succ, List.getElem_cons_zero, Act.put, List.setIfInBounds_toArray, List.set_cons_zero, List.set_cons_succ])
      refine wpAnyH_done (by kernel_rfl) ?_ _
      refine NoPanic.normal ?_
      obtain ⟨_, _, hB6'⟩ := hHeld
      rw [cat_rate, ← HPS.out]
      clear c5 c6 lC hB
      have xD := blk_next HX2.out hB6'
      have d7 := cell_blk xD 7
      have lD := blk_lt xD
      by_cases hs : C.s = []
      · have hq : ((C.s.length : Int) == 0) = true := by rw [hs]; rfl
        have HT := Lib.hid ((textC_no hk.out hs).trans HQ6.out)
        clear hs xD
        go_wp2_with fail
        go_ret
        exact ⟨ret_strX (by rw [HT.out]), bt B02.out hB6'⟩
      · have hsl : 0 < C.s.length := List.length_pos_iff.2 hs
        have hq : ((C.s.length : Int) == 0) = false := by rw [beq_eq_false_iff_ne]; omega
        have HT := Lib.hid (textC_yes hk.out hs)
        have HX3 := Lib.hid xD
        have hsl4 : C.s.length ≤ 4 := HO.out.2.2.2.2.2.2.2.2
        clear hs xD
        go_wp2_with fail
        go_loopw [6, 7] (fun v i wr => ∃ j : Nat, j ≤ C.s.length ∧ i = .int .i64 j ∧ wr.ownsRow w6.heap.size 9 1 v j (strCells ((C.s.map sgnT).take j)) ∧ Below w6.heap.size w6 wr) (fun _ i _ => C.s.length - (intOf i).toNat)
        case atStart => exact ⟨0, Nat.zero_le _, rfl, World.ownsRow_made w6 #[] 0 (Nat.le_refl _) (by unfold maxLen; omega) (by simp), below_al w6 _⟩
        case round =>
          clear d7 lD
          obtain ⟨j, hj, rfl, hown, hB⟩ := hrel
          have xE := blk_next HX3.out hB
          have e7 := cell_blk xE 7
          have lE := blk_lt xE
          clear xE
          by_cases hlt : j < C.s.length
          · have hj1 : (j : Int) < C.s.length := by omega
            have hj0 : (0 : Int) ≤ j := by omega
            obtain ⟨z, hz⟩ : ∃ z, C.s[j]? = some z := ⟨_, List.getElem?_eq_getElem hlt⟩
            obtain ⟨b, off, rfl, hcz0⟩ := HC.out j z hz
            have hcz := cell_keepX (cell_keepX (cell_keepX hcz0 B02.out) hB6') hB
            have lz := World.block_lt_of_cell? wr _ hcz
            have hzr := HO.out.2.2.2.2.2.1 z (List.mem_of_getElem? hz)
            have HZ := Lib.hid hz
            clear hz hcz0
            rcases (by omega : z = -1 ∨ z = 0 ∨ z = 1) with rfl | rfl | rfl
            · skip
              have hz2' : sgnT (-1) = [45] := rfl
              go_wp2_with (at_builtin; refine wpList_append_own _ rfl _ _ 36 rfl w6.heap.size 9 iS (.string ByteArray.empty) 1 16 Tryz.underlying36 hi hz0 hz1 hz2 rfl (by decide) _ _ _ rfl ((hown.alloc (.cells #[.string ⟨#[45]⟩, .string ⟨#[48]⟩, .string ⟨#[43]⟩] 9)).alloc (.cells #[.string ⟨#[45]⟩] 9)) ⟨wr.heap.size + 1, 0, none⟩ 1 1 [.string ⟨#[45]⟩] rfl rfl (fun q y hy => news_next (.cells #[.string ⟨#[45]⟩, .string ⟨#[48]⟩, .string ⟨#[43]⟩] 9) q y hy) (by intro y hy; simp at hy; subst hy; rfl) ?a3 ?a4 ?a5 ?_)
              case a3 => unfold maxLen; omega
              case a4 => omega
              case a5 => have := hB.size; simp; omega
              intro v' w7 hown1 hg1 _
              have hR := Lib.hid (sgn_row HZ.out hz2' hown1)
              have hBB := Lib.hid (((hB.alloc hB.size (.cells #[.string ⟨#[45]⟩, .string ⟨#[48]⟩, .string ⟨#[43]⟩] 9)).alloc (by have := hB.size; simp; omega) (.cells #[.string ⟨#[45]⟩] 9)).grown hg1 (by have := hB.size; simp; omega) (fun q hq => (hown.lt q hq).1))
              clear hown1 hg1 hown hB
              go_wp2_with fail
              go_roundw
              case rel => exact ⟨j + 1, by omega, by go_num, hR.out, hBB.out⟩
              case measure => simp [intOf]; omega
            · skip
              have hz2' : sgnT (0) = [48] := rfl
              go_wp2_with (at_builtin; refine wpList_append_own _ rfl _ _ 36 rfl w6.heap.size 9 iS (.string ByteArray.empty) 1 16 Tryz.underlying36 hi hz0 hz1 hz2 rfl (by decide) _ _ _ rfl ((hown.alloc (.cells #[.string ⟨#[45]⟩, .string ⟨#[48]⟩, .string ⟨#[43]⟩] 9)).alloc (.cells #[.string ⟨#[48]⟩] 9)) ⟨wr.heap.size + 1, 0, none⟩ 1 1 [.string ⟨#[48]⟩] rfl rfl (fun q y hy => news_next (.cells #[.string ⟨#[45]⟩, .string ⟨#[48]⟩, .string ⟨#[43]⟩] 9) q y hy) (by intro y hy; simp at hy; subst hy; rfl) ?d3 ?d4 ?d5 ?_)
              case d3 => unfold maxLen; omega
              case d4 => omega
              case d5 => have := hB.size; simp; omega
              intro v' w7 hown1 hg1 _
              have hR := Lib.hid (sgn_row HZ.out hz2' hown1)
              have hBB := Lib.hid (((hB.alloc hB.size (.cells #[.string ⟨#[45]⟩, .string ⟨#[48]⟩, .string ⟨#[43]⟩] 9)).alloc (by have := hB.size; simp; omega) (.cells #[.string ⟨#[48]⟩] 9)).grown hg1 (by have := hB.size; simp; omega) (fun q hq => (hown.lt q hq).1))
              clear hown1 hg1 hown hB
              go_wp2_with fail
              go_roundw
              case rel => exact ⟨j + 1, by omega, by go_num, hR.out, hBB.out⟩
              case measure => simp [intOf]; omega
            · skip
              have hz2' : sgnT (1) = [43] := rfl
              go_wp2_with (at_builtin; refine wpList_append_own _ rfl _ _ 36 rfl w6.heap.size 9 iS (.string ByteArray.empty) 1 16 Tryz.underlying36 hi hz0 hz1 hz2 rfl (by decide) _ _ _ rfl ((hown.alloc (.cells #[.string ⟨#[45]⟩, .string ⟨#[48]⟩, .string ⟨#[43]⟩] 9)).alloc (.cells #[.string ⟨#[43]⟩] 9)) ⟨wr.heap.size + 1, 0, none⟩ 1 1 [.string ⟨#[43]⟩] rfl rfl (fun q y hy => news_next (.cells #[.string ⟨#[45]⟩, .string ⟨#[48]⟩, .string ⟨#[43]⟩] 9) q y hy) (by intro y hy; simp at hy; subst hy; rfl) ?f3 ?f4 ?f5 ?_)
              case f3 => unfold maxLen; omega
              case f4 => omega
              case f5 => have := hB.size; simp; omega
              intro v' w7 hown1 hg1 _
              have hR := Lib.hid (sgn_row HZ.out hz2' hown1)
              have hBB := Lib.hid (((hB.alloc hB.size (.cells #[.string ⟨#[45]⟩, .string ⟨#[48]⟩, .string ⟨#[43]⟩] 9)).alloc (by have := hB.size; simp; omega) (.cells #[.string ⟨#[43]⟩] 9)).grown hg1 (by have := hB.size; simp; omega) (fun q hq => (hown.lt q hq).1))
              clear hown1 hg1 hown hB
              go_wp2_with fail
              go_roundw
              case rel => exact ⟨j + 1, by omega, by go_num, hR.out, hBB.out⟩
              case measure => simp [intOf]; omega
          · have hje : j = C.s.length := by omega
            have hj1 : ¬ (j : Int) < C.s.length := by omega
            have hvl := valueL_len hk.out (k := 6) (by omega)
            have hvv : valueL 6 C = Lib.join (C.s.map sgnT) [44] := by rw [valueL, if_pos rfl]
            rw [hvv] at hvl
            have hrow : StrRow wr u6 (C.s.map sgnT) := by
              have h1 : (C.s.map sgnT).take j = C.s.map sgnT := List.take_of_length_le (by rw [List.length_map]; omega)
              rw [h1, hje] at hown
              exact strRow_of_owns (by rw [List.length_map]; exact hown) (by rw [List.length_map]; omega)
            have hps := preC_signs C
            rw [HQ6.out] at hps
            obtain ⟨t, ht⟩ : ∃ t, Lib.join (C.s.map sgnT) [44] = t := ⟨_, rfl⟩
            rw [ht] at hps hvl
            have HJ : Hid (Lib.join (C.s.map sgnT) (ByteArray.mk #[44]).data.toList = t) := Lib.hid ht
            have HP7 := Lib.hid hps
            have HROW := Lib.hid hrow
            have hjl : (Lib.join (C.s.map sgnT) (ByteArray.mk #[44]).data.toList).length ≤ 140737488355328 := by rw [HJ.out]; omega
            have hml : (C.s.map sgnT).length ≤ 1048576 := by rw [List.length_map]; omega
            have HJL := Lib.hid hjl
            have g1' : ¬ 9223372036854775807 < q6.length + 6 := by omega
            have g2' : ¬ 9223372036854775807 < q6.length + 6 + t.length := by omega
            have g3' : ¬ 9223372036854775807 < q6.length + 6 + t.length + 1 := by omega
            clear ht hps hown hvv hje hrow hjl
            go_wp2_with fail
            refine (specJoined _ _ (C.s.map sgnT) ⟨#[44]⟩ HROW.out hml HJL.out).mono ?_
            rintro e w8 ⟨rfl, hB8⟩
            rw [HJ.out]
            go_wp2_with fail
            go_ret
            exact ⟨ret_strX (by rw [HT.out, HP7.out, cat_signs]), bt (bt B02.out hB6') (bt hB hB8)⟩
/-- THE TEXT OF SETTINGS. -/
theorem specConfigText (C : Cfg) (u : Value) (w : World) (h : IntRow w u C.s) :
    Calls Tryz.prog 8 #[.agg #[.int .i64 C.r, .int .i64 C.d, .int .i64 C.b, .int .i64 C.l, .int .i64 C.m, .int .i64 C.n, .int .i64 C.e, u]] w fun e w' => e = .returned (.string ⟨(textC C).toArray⟩) ∧ Below w.heap.size w w' := by
  rcases Bool.eq_false_or_eq_true (okC C) with hk | hk
  · exact specText_ok C u w h (Lib.hid hk)
  · have e : textC C = [] := by rw [textC, if_neg (by rw [hk]; decide)]
    rw [e]
    exact specText_no C u w h (Lib.hid hk)
end Go.Proofs.YtnnbhgnllbjmeaaGreatDoor
