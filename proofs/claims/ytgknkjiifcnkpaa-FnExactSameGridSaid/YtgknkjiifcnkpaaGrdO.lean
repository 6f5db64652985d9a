/-
  Whether a grid is right, by the reference.
-/
import Derived.Test.YtgknkjiifcnkpaaLawH11
import Derived.Test.YtgknkjiifcnkpaaTabO
import Derived.Test.YtgknkjiifcnkpaaSrtU
namespace Go.Proofs.Ytgknkjiifcnkpaa
open Go.RowKit

/-- Whether a column of a grid is right. -/
def colAt (G : Grd) (f : Nat) : Bool := cutsB (G.cs.getD f []) && (decide ((G.bs.getD f []).length = rowsIn G) && (G.bs.getD f []).all (fun x => inZ x 0 ((G.cs.getD f []).length : Int)))
/-- Whether a grid is right. -/
def okGr (G : Grd) : Bool := inZ (G.cs.length : Int) 1 4 && (decide (G.cs.length = G.bs.length) && (inZ (rowsIn G : Int) 1 40 && (List.range G.cs.length).all (colAt G)))
abbrev GkS (W : World) (Q : Nat) (p1 p2 : Value) (A1 A2 : Addr) (v1 v2 : Value) (w' : World) : Prop := w'.cell? ⟨Q, 0, none⟩ = some p1 ∧ w'.cell? ⟨Q, 1, none⟩ = some p2 ∧ w'.cell? A1 = some v1 ∧ w'.cell? A2 = some v2 ∧ Below W.heap.size W w'
theorem GkS.next {W w w' : World} {Q : Nat} {p1 p2 v1 v2 : Value} {A1 A2 : Addr} (h : GkS W Q p1 p2 A1 A2 v1 v2 w) (hB : Below w.heap.size w w') : GkS W Q p1 p2 A1 A2 v1 v2 w' := by
  obtain ⟨h1, h2, h3, h4, h5⟩ := h
  have k : ∀ {p : Addr} {v : Value}, w.cell? p = some v → w'.cell? p = some v := fun h => (hB.cell (World.block_lt_of_cell? w _ h)).trans h
  exact ⟨k h1, k h2, k h3, k h4, bt h5 hB⟩
theorem specIn9q (x lo hi : Int) (w : World) (r : Bool) (hr : inZ x lo hi = r) :
    Calls Try.prog 49 #[.int .i64 x, .int .i64 lo, .int .i64 hi] w fun e w' => e = .returned (.bool r) ∧ ∃ k, w' = w.drewN k :=
  (specIn9 x lo hi w).mono fun e w' ⟨he, hw⟩ => ⟨by rw [he, hr], 0, by rw [← hw]; rfl⟩

set_option maxRecDepth 100000 in
set_option maxHeartbeats 8000000 in
theorem specGridOk : SpecGridOk okGr := by
  intro G u1 u2 w h hs
  have hz := szGr_le hs
  have HZ1 := Lib.hid hz.1.2
  have HZ2 := Lib.hid hz.2.2
  have HG := Lib.hid h
  obtain ⟨p1, p2⟩ := h
  obtain ⟨a1, c1, rfl, hl1, hf1⟩ := iiRow_cells p1
  obtain ⟨a2, c2, rfl, hl2, hf2⟩ := iiRow_cells p2
  obtain ⟨n, hn⟩ : ∃ n : Nat, G.cs.length = n := ⟨_, rfl⟩
  obtain ⟨m, hm⟩ : ∃ n : Nat, G.bs.length = n := ⟨_, rfl⟩
  obtain ⟨q, hq⟩ : ∃ n : Nat, rowsIn G = n := ⟨_, rfl⟩
  have HR : Hid (∀ W, Below w.heap.size w W → Calls Try.prog 40 #[.agg #[.slice a1 n c1, .slice a2 m c2]] W fun e w' => e = .returned (.int .i64 (q : Int)) ∧ Below W.heap.size W w') := Lib.hid (fun W hB => by have := specRowsIn G _ _ W (HG.out.below hB); rwa [hn, hm, hq] at this)
  obtain ⟨r, hr⟩ : ∃ r, okGr G = r := ⟨_, rfl⟩
  obtain ⟨b1, hb1⟩ : ∃ b, inZ (n : Int) 1 4 = b := ⟨_, rfl⟩
  obtain ⟨b3, hb3⟩ : ∃ b, inZ (q : Int) 1 40 = b := ⟨_, rfl⟩
  have HO0 : Hid ((b1 && (decide (n = m) && (b3 && (List.range n).all (colAt G)))) = r) := Lib.hid (by rw [← hr, okGr, hn, hm, hq, hb1, hb3])
  have HN := Lib.hid hn
  have HM := Lib.hid hm
  have HQ := Lib.hid hq
  have HF1 := Lib.hid hf1
  have HF2 := Lib.hid hf2
  have B1 := Lib.hid hb1
  have B3 := Lib.hid hb3
  rw [hr]
  rw [hn] at hl1 ⊢
  rw [hm] at hl2 ⊢
  have hA := bl_al w (.cells #[.slice a1 n c1, .slice a2 m c2] 38)
  have x := alloc_blk w #[.slice a1 n c1, .slice a2 m c2] 38
  have x0 := cell_blk x 0
  have x1 := cell_blk x 1
  have lx := blk_lt x
  have X := Lib.hid x
  have HA := Lib.hid hA
  clear hz hs hn hm hq hr hb1 hb3 hf1 hf2 p1 p2 x hA HG
  go_enter Try.func27, Try.ntmps27
  go_wp2_with fail
  refine (specIn9 _ _ _ _).mono ?_
  rintro e w1 ⟨rfl, rfl⟩
  rw [B1.out]
  cases b1 with
  | false =>
    go_wp2_with fail
    go_ret
    exact ⟨ret_bool9 (HO0.out), HA.out⟩
  | true =>
  by_cases hnm : n = m
  · subst hnm
    have HO1 : Hid ((b3 && (List.range n).all (colAt G)) = r) := Lib.hid (by rw [← HO0.out, decide_eq_true rfl]; simp)
    go_wp2_with fail
    refine (HR.out _ HA.out).mono ?_
    rintro e w2 ⟨rfl, B2⟩
    have HC2 := Lib.hid (bt HA.out B2)
    have Y2 := Lib.hid (blk_next X.out B2)
    clear B2 x0 x1 lx
    have x0 := cell_blk Y2.out 0
    have x1 := cell_blk Y2.out 1
    go_wp2_with fail
    refine (specIn9 _ _ _ _).mono ?_
    rintro e w3 ⟨rfl, rfl⟩
    rw [B3.out]
    cases b3 with
    | false =>
      go_wp2_with fail
      go_ret
      exact ⟨ret_bool9 (HO1.out), HC2.out⟩
    | true =>
    have HO : Hid ((List.range n).all (colAt G) = r) := Lib.hid (by rw [← HO1.out]; simp)
    clear HO1 HO0 B1 B3
    go_wp2_with fail
    go_loopg [3, 4] n (fun g_ i_ _ wr => ∃ j : Nat, j ≤ n ∧ g_ = n - j ∧ i_ = .int .i64 j ∧ (∀ i, i < j → colAt G i = true) ∧ Below w2.heap.size w2 wr)
    case atStart => exact ⟨0, Nat.zero_le _, rfl, rfl, fun i hi => by omega, Below.refl _ _⟩
    case round =>
      clear x0 x1
      obtain ⟨j, hj, rfl, rfl, hcl, hB⟩ := hrel
      have HCL := Lib.hid hcl
      have hCr := bt HC2.out hB
      have yr := blk_next Y2.out hB
      have x0 := cell_blk yr 0
      have x1 := cell_blk yr 1
      have YR := Lib.hid yr
      have HB := Lib.hid hB
      have HC := Lib.hid hCr
      clear hcl hB yr
      by_cases hlt : j < n
      · have hj1 : (j : Int) < n := by omega
        have hj0 : (0 : Int) ≤ j := by omega
        obtain ⟨zs, hzs⟩ : ∃ r, G.cs[j]? = some r := ⟨_, List.getElem?_eq_getElem (by rw [HN.out]; exact hlt)⟩
        obtain ⟨ys, hys⟩ : ∃ r, G.bs[j]? = some r := ⟨_, List.getElem?_eq_getElem (by rw [HM.out]; exact hlt)⟩
        obtain ⟨b1, o1, u3, rfl, hcu, hru⟩ := HF1.out j zs hzs
        obtain ⟨b2, o2, u4, rfl, hcv, hrv⟩ := HF2.out j ys hys
        obtain ⟨a3, c3, rfl, hl3, _⟩ := intRow_form hru
        obtain ⟨a4, c4, rfl, hl4, hf4⟩ := intRow_form hrv
        have hzl := HZ1.out zs (List.mem_of_getElem? hzs)
        have hyl := HZ2.out ys (List.mem_of_getElem? hys)
        obtain ⟨b5, hb5⟩ : ∃ b, cutsB zs = b := ⟨_, rfl⟩
        obtain ⟨l3, hl3n⟩ : ∃ l, zs.length = l := ⟨_, rfl⟩
        obtain ⟨k, hk⟩ : ∃ l, ys.length = l := ⟨_, rfl⟩
        have HCA : Hid (colAt G j = (b5 && (decide (k = q) && ys.all (fun x => inZ x 0 (l3 : Int))))) := Lib.hid (by rw [colAt, getD_at hzs, getD_at hys, hb5, hk, HQ.out, hl3n])
        have KC : Hid (∀ (W : World), IntRow W (.slice a3 zs.length c3) zs → Calls Try.prog 65 #[.slice a3 zs.length c3] W fun e w' => e = .returned (.bool b5) ∧ Below W.heap.size W w') := Lib.hid (fun W hW => by have := specCutsOk zs _ W hW hzl; rwa [hb5] at this)
        rw [hl3n] at hru hl3 KC hcu hzl
        rw [hk] at hl4 hcv hyl hrv
        have g1 := (hCr.cell (p := ⟨b1, o1 + j, none⟩) (World.block_lt_of_cell? w _ hcu)).trans hcu
        have g2 := (hCr.cell (p := ⟨b2, o2 + j, none⟩) (World.block_lt_of_cell? w _ hcv)).trans hcv
        have HCU := Lib.hid hcu
        have HCV := Lib.hid hcv
        have HRU := Lib.hid hru
        have HF4 := Lib.hid hf4
        have HK := Lib.hid hk
        clear hzs hys hcu hru hcv hrv hf4 hb5 hl3n hk hCr
        cases b5 with
        | false =>
          go_wp2_with fail
          have hS0 : (GkS wr w.heap.size (.slice (some ⟨b1, o1, none⟩) n c1) (.slice (some ⟨b2, o2, none⟩) n c2) ⟨b1, o1 + j, none⟩ ⟨b2, o2 + j, none⟩ (.slice a3 l3 c3) (.slice a4 k c4)) wr.drew := ⟨x0, x1, g1, g2, (Below.refl _ _).drew⟩
          clear x0 x1 g1 g2
          refine wp_region_noPanic ?_
          refine wp_region_held_drew (S := (GkS wr w.heap.size (.slice (some ⟨b1, o1, none⟩) n c1) (.slice (some ⟨b2, o2, none⟩) n c2) ⟨b1, o1 + j, none⟩ ⟨b2, o2 + j, none⟩ (.slice a3 l3 c3) (.slice a4 k c4))) (by kernel_rfl) hS0 (fun hHeld => ?_)
          clear hS0
          refine wpAnyH_take (i := 0) (oi := ?o1) (v := ?v1) ?hi1 ?hs1 ?hf1 ?hr1 ?hQ1 ?hy1 ?hS1 ?rest1
          case hi1 => rfl
          case hs1 => kernel_rfl
          case hf1 => kernel_rfl
          case hr1 => kernel_rfl
          case hQ1 => exact fun _ _ _ h => h
          case hS1 => assumption
          case hy1 =>
            refine Or.inl ⟨by kernel_rfl, ?_⟩
            intro w' hSw
            (try dsimp only at hSw)
            go_simp
            (try rfl)
          (try simp only [List.getElem_toArray, List.getElem_cons_zero, Act.put, List.setIfInBounds_toArray, List.set_cons_zero, List.set_cons_succ])
          refine wpAnyH_take (i := 1) (oi := ?o2) (v := ?v2) ?hi2 ?hs2 ?hf2 ?hr2 ?hQ2 ?hy2 ?hS2 ?rest2
          case hi2 => rfl
          case hs2 => kernel_rfl
          case hf2 => kernel_rfl
          case hr2 => kernel_rfl
          case hQ2 => exact fun _ _ _ h => h
          case hS2 => assumption
          case hy2 =>
            refine Or.inl ⟨by kernel_rfl, ?_⟩
            intro w' hSw
            (try dsimp only at hSw)
            go_simp
            (try rfl)
          (try simp only [List.getElem_toArray, List.getElem_cons_succ, List.getElem_cons_zero, Act.put, List.setIfInBounds_toArray, List.set_cons_zero, List.set_cons_succ])
          refine wpAnyH_take (i := 2) (oi := ?o3) (v := ?v3) ?hi3 ?hs3 ?hf3 ?hr3 ?hQ3 ?hy3 ?hS3 ?rest3
          case hi3 => rfl
          case hs3 => kernel_rfl
          case hf3 => kernel_rfl
          case hr3 => kernel_rfl
          case hQ3 => exact fun _ _ _ h => h
          case hS3 => assumption
          case hy3 =>
            refine Or.inl ⟨by kernel_rfl, ?_⟩
            intro w' hSw
            (try dsimp only at hSw)
            go_simp
            (try rfl)
          (try simp only [List.getElem_toArray, List.getElem_cons_succ, List.getElem_cons_zero, Act.put, List.setIfInBounds_toArray, List.set_cons_zero, List.set_cons_succ])
          refine wpAnyH_take (i := 3) (oi := ?o4) (v := ?v4) ?hi4 ?hs4 ?hf4 ?hr4 ?hQ4 ?hy4 ?hS4 ?rest4
          case hi4 => rfl
          case hs4 => kernel_rfl
          case hf4 => kernel_rfl
          case hr4 => kernel_rfl
          case hQ4 => exact fun _ _ _ h => h
          case hS4 => assumption
          case hy4 =>
            refine Or.inl ⟨by kernel_rfl, ?_⟩
            intro w' hSw
            (try dsimp only at hSw)
            go_simp
            (try rfl)
          (try simp only [List.getElem_toArray, List.getElem_cons_succ, List.getElem_cons_zero, Act.put, List.setIfInBounds_toArray, List.set_cons_zero, List.set_cons_succ])
          refine wpAnyH_take (i := 4) (oi := ?o5) (v := ?v5) ?hi5 ?hs5 ?hf5 ?hr5 ?hQ5 ?hy5 ?hS5 ?rest5
          case hi5 => rfl
          case hs5 => kernel_rfl
          case hf5 => kernel_rfl
          case hr5 => kernel_rfl
          case hQ5 => exact fun _ _ _ h => h
          case hS5 => assumption
          case hy5 =>
            refine Or.inl ⟨by kernel_rfl, ?_⟩
            intro w' hSw
            (try dsimp only at hSw)
            go_simp
            (try rfl)
          (try simp only [List.getElem_toArray, List.getElem_cons_succ, List.getElem_cons_zero, Act.put, List.setIfInBounds_toArray, List.set_cons_zero, List.set_cons_succ])
          refine wpAnyH_ready (rs := [5]) (by kernel_rfl) (by simp) ?_
          refine AllReadyH.cons rfl (fun K hK => ?_) AllReadyH.nil
          go_simp
          refine (KC.out _ (HRU.out.below (bt HC.out hHeld.2.2.2.2))).mono ?_
          rintro e w20 ⟨rfl, B20⟩
          refine hK.out _ _ ?_ (fun hHeld => ?_)
          · exact GkS.next hHeld B20
          clear hK K
          (try simp only [List.getElem_toArray, List.getElem_cons_succ, List.getElem_cons_zero, Act.put, List.setIfInBounds_toArray, List.set_cons_zero, List.set_cons_succ])
          refine wpAnyH_take (i := 6) (oi := ?o6) (v := ?v6) ?hi6 ?hs6 ?hf6 ?hr6 ?hQ6 ?hy6 ?hS6 ?rest6
          case hi6 => rfl
          case hs6 => kernel_rfl
          case hf6 => kernel_rfl
          case hr6 => kernel_rfl
          case hQ6 => exact fun _ _ _ h => h
          case hS6 => assumption
          case hy6 =>
            refine Or.inl ⟨by kernel_rfl, ?_⟩
            intro w' hSw
            (try dsimp only at hSw)
            go_simp
            (try rfl)
          (try simp only [List.getElem_toArray, List.getElem_cons_succ, List.getElem_cons_zero, Act.put, List.setIfInBounds_toArray, List.set_cons_zero, List.set_cons_succ])
          refine wpAnyH_take (i := 7) (oi := ?o7) (v := ?v7) ?hi7 ?hs7 ?hf7 ?hr7 ?hQ7 ?hy7 ?hS7 ?rest7
          case hi7 => rfl
          case hs7 => kernel_rfl
          case hf7 => kernel_rfl
          case hr7 => kernel_rfl
          case hQ7 => exact fun _ _ _ h => h
          case hS7 => assumption
          case hy7 =>
            refine Or.inl ⟨by kernel_rfl, ?_⟩
            intro w' hSw
            (try dsimp only at hSw)
            go_simp
            (try rfl)
          (try simp only [List.getElem_toArray, List.getElem_cons_succ, List.getElem_cons_zero, Act.put, List.setIfInBounds_toArray, List.set_cons_zero, List.set_cons_succ])
          refine wpAnyH_take (i := 8) (oi := ?o8) (v := undef) ?hi8 ?hs8 ?hf8 ?hr8 ?hQ8 ?hy8 ?hS8 ?rest8
          case hi8 => rfl
          case hs8 => kernel_rfl
          case hf8 => kernel_rfl
          case hr8 => kernel_rfl
          case hQ8 => exact fun _ _ _ h => h
          case hS8 => assumption
          case hy8 => exact Or.inr ⟨by kernel_rfl, rfl⟩
          (try simp only [List.getElem_toArray, List.getElem_cons_succ, List.getElem_cons_zero, Act.put, List.setIfInBounds_toArray, List.set_cons_zero, List.set_cons_succ])
          refine wpAnyH_take (i := 9) (oi := ?o9) (v := undef) ?hi9 ?hs9 ?hf9 ?hr9 ?hQ9 ?hy9 ?hS9 ?rest9
          case hi9 => rfl
          case hs9 => kernel_rfl
          case hf9 => kernel_rfl
          case hr9 => kernel_rfl
          case hQ9 => exact fun _ _ _ h => h
          case hS9 => assumption
          case hy9 => exact Or.inr ⟨by kernel_rfl, rfl⟩
          (try simp only [List.getElem_toArray, List.getElem_cons_succ, List.getElem_cons_zero, Act.put, List.setIfInBounds_toArray, List.set_cons_zero, List.set_cons_succ])
          refine wpAnyH_take (i := 10) (oi := ?o10) (v := undef) ?hi10 ?hs10 ?hf10 ?hr10 ?hQ10 ?hy10 ?hS10 ?rest10
          case hi10 => rfl
          case hs10 => kernel_rfl
          case hf10 => kernel_rfl
          case hr10 => kernel_rfl
          case hQ10 => exact fun _ _ _ h => h
          case hS10 => assumption
          case hy10 => exact Or.inr ⟨by kernel_rfl, rfl⟩
          (try simp only [List.getElem_toArray, List.getElem_cons_succ, List.getElem_cons_zero, Act.put, List.setIfInBounds_toArray, List.set_cons_zero, List.set_cons_succ])
          refine wpAnyH_take (i := 11) (oi := ?o11) (v := undef) ?hi11 ?hs11 ?hf11 ?hr11 ?hQ11 ?hy11 ?hS11 ?rest11
          case hi11 => rfl
          case hs11 => kernel_rfl
          case hf11 => kernel_rfl
          case hr11 => kernel_rfl
          case hQ11 => exact fun _ _ _ h => h
          case hS11 => assumption
          case hy11 => exact Or.inr ⟨by kernel_rfl, rfl⟩
          (try simp only [List.getElem_toArray, List.getElem_cons_succ, List.getElem_cons_zero, Act.put, List.setIfInBounds_toArray, List.set_cons_zero, List.set_cons_succ])
          refine wpAnyH_take (i := 12) (oi := ?o12) (v := undef) ?hi12 ?hs12 ?hf12 ?hr12 ?hQ12 ?hy12 ?hS12 ?rest12
          case hi12 => rfl
          case hs12 => kernel_rfl
          case hf12 => kernel_rfl
          case hr12 => kernel_rfl
          case hQ12 => exact fun _ _ _ h => h
          case hS12 => assumption
          case hy12 => exact Or.inr ⟨by kernel_rfl, rfl⟩
          (try simp only [List.getElem_toArray, List.getElem_cons_succ, List.getElem_cons_zero, Act.put, List.setIfInBounds_toArray, List.set_cons_zero, List.set_cons_succ])
          refine wpAnyH_take (i := 13) (oi := ?o13) (v := undef) ?hi13 ?hs13 ?hf13 ?hr13 ?hQ13 ?hy13 ?hS13 ?rest13
          case hi13 => rfl
          case hs13 => kernel_rfl
          case hf13 => kernel_rfl
          case hr13 => kernel_rfl
          case hQ13 => exact fun _ _ _ h => h
          case hS13 => assumption
          case hy13 => exact Or.inr ⟨by kernel_rfl, rfl⟩
          (try simp only [List.getElem_toArray, List.getElem_cons_succ, List.getElem_cons_zero, Act.put, List.setIfInBounds_toArray, List.set_cons_zero, List.set_cons_succ])
          refine wpAnyH_take (i := 14) (oi := ?o14) (v := undef) ?hi14 ?hs14 ?hf14 ?hr14 ?hQ14 ?hy14 ?hS14 ?rest14
          case hi14 => rfl
          case hs14 => kernel_rfl
          case hf14 => kernel_rfl
          case hr14 => kernel_rfl
          case hQ14 => exact fun _ _ _ h => h
          case hS14 => assumption
          case hy14 => exact Or.inr ⟨by kernel_rfl, rfl⟩
          (try simp only [List.getElem_toArray, List.getElem_cons_succ, List.getElem_cons_zero, Act.put, List.setIfInBounds_toArray, List.set_cons_zero, List.set_cons_succ])
          refine wpAnyH_take (i := 15) (oi := ?o15) (v := undef) ?hi15 ?hs15 ?hf15 ?hr15 ?hQ15 ?hy15 ?hS15 ?rest15
          case hi15 => rfl
          case hs15 => kernel_rfl
          case hf15 => kernel_rfl
          case hr15 => kernel_rfl
          case hQ15 => exact fun _ _ _ h => h
          case hS15 => assumption
          case hy15 => exact Or.inr ⟨by kernel_rfl, rfl⟩
          (try simp only [List.getElem_toArray, List.getElem_cons_succ, List.getElem_cons_zero, Act.put, List.setIfInBounds_toArray, List.set_cons_zero, List.set_cons_succ])
          refine wpAnyH_take (i := 16) (oi := ?o16) (v := undef) ?hi16 ?hs16 ?hf16 ?hr16 ?hQ16 ?hy16 ?hS16 ?rest16
          case hi16 => rfl
          case hs16 => kernel_rfl
          case hf16 => kernel_rfl
          case hr16 => kernel_rfl
          case hQ16 => exact fun _ _ _ h => h
          case hS16 => assumption
          case hy16 => exact Or.inr ⟨by kernel_rfl, rfl⟩
          (try simp only [List.getElem_toArray, List.getElem_cons_succ, List.getElem_cons_zero, Act.put, List.setIfInBounds_toArray, List.set_cons_zero, List.set_cons_succ])
          refine wpAnyH_take (i := 17) (oi := ?o17) (v := ?v17) ?hi17 ?hs17 ?hf17 ?hr17 ?hQ17 ?hy17 ?hS17 ?rest17
          case hi17 => rfl
          case hs17 => kernel_rfl
          case hf17 => kernel_rfl
          case hr17 => kernel_rfl
          case hQ17 => exact fun _ _ _ h => h
          case hS17 => assumption
          case hy17 =>
            refine Or.inl ⟨by kernel_rfl, ?_⟩
            intro w' hSw
            (try dsimp only at hSw)
            go_simp
            (try rfl)
          (try simp only [List.getElem_toArray, List.getElem_cons_succ, List.getElem_cons_zero, Act.put, List.setIfInBounds_toArray, List.set_cons_zero, List.set_cons_succ])
          refine wpAnyH_done (by kernel_rfl) ?_ _
          refine NoPanic.normal ?_
          go_wp2_with fail
          go_ret
          exact ⟨ret_bool9 (by rw [← HO.out, range_not hlt HCA.out]), bt HC.out (below_dr9 B20)⟩
        | true =>
        by_cases hkq : k = q
        · subst hkq
          go_wp2_with fail
          have hS0 : (GkS wr w.heap.size (.slice (some ⟨b1, o1, none⟩) n c1) (.slice (some ⟨b2, o2, none⟩) n c2) ⟨b1, o1 + j, none⟩ ⟨b2, o2 + j, none⟩ (.slice a3 l3 c3) (.slice a4 k c4)) wr.drew := ⟨x0, x1, g1, g2, (Below.refl _ _).drew⟩
          clear x0 x1 g1 g2
          refine wp_region_noPanic ?_
          refine wp_region_held_drew (S := (GkS wr w.heap.size (.slice (some ⟨b1, o1, none⟩) n c1) (.slice (some ⟨b2, o2, none⟩) n c2) ⟨b1, o1 + j, none⟩ ⟨b2, o2 + j, none⟩ (.slice a3 l3 c3) (.slice a4 k c4))) (by kernel_rfl) hS0 (fun hHeld => ?_)
          clear hS0
          refine wpAnyH_take (i := 0) (oi := ?o18) (v := ?v18) ?hi18 ?hs18 ?hf18 ?hr18 ?hQ18 ?hy18 ?hS18 ?rest18
          case hi18 => rfl
          case hs18 => kernel_rfl
          case hf18 => kernel_rfl
          case hr18 => kernel_rfl
          case hQ18 => exact fun _ _ _ h => h
          case hS18 => assumption
          case hy18 =>
            refine Or.inl ⟨by kernel_rfl, ?_⟩
            intro w' hSw
            (try dsimp only at hSw)
            go_simp
            (try rfl)
          (try simp only [List.getElem_toArray, List.getElem_cons_zero, Act.put, List.setIfInBounds_toArray, List.set_cons_zero, List.set_cons_succ])
          refine wpAnyH_take (i := 1) (oi := ?o19) (v := ?v19) ?hi19 ?hs19 ?hf19 ?hr19 ?hQ19 ?hy19 ?hS19 ?rest19
          case hi19 => rfl
          case hs19 => kernel_rfl
          case hf19 => kernel_rfl
          case hr19 => kernel_rfl
          case hQ19 => exact fun _ _ _ h => h
          case hS19 => assumption
          case hy19 =>
            refine Or.inl ⟨by kernel_rfl, ?_⟩
            intro w' hSw
            (try dsimp only at hSw)
            go_simp
            (try rfl)
          (try simp only [List.getElem_toArray, List.getElem_cons_succ, List.getElem_cons_zero, Act.put, List.setIfInBounds_toArray, List.set_cons_zero, List.set_cons_succ])
          refine wpAnyH_take (i := 2) (oi := ?o20) (v := ?v20) ?hi20 ?hs20 ?hf20 ?hr20 ?hQ20 ?hy20 ?hS20 ?rest20
          case hi20 => rfl
          case hs20 => kernel_rfl
          case hf20 => kernel_rfl
          case hr20 => kernel_rfl
          case hQ20 => exact fun _ _ _ h => h
          case hS20 => assumption
          case hy20 =>
            refine Or.inl ⟨by kernel_rfl, ?_⟩
            intro w' hSw
            (try dsimp only at hSw)
            go_simp
            (try rfl)
          (try simp only [List.getElem_toArray, List.getElem_cons_succ, List.getElem_cons_zero, Act.put, List.setIfInBounds_toArray, List.set_cons_zero, List.set_cons_succ])
          refine wpAnyH_take (i := 3) (oi := ?o21) (v := ?v21) ?hi21 ?hs21 ?hf21 ?hr21 ?hQ21 ?hy21 ?hS21 ?rest21
          case hi21 => rfl
          case hs21 => kernel_rfl
          case hf21 => kernel_rfl
          case hr21 => kernel_rfl
          case hQ21 => exact fun _ _ _ h => h
          case hS21 => assumption
          case hy21 =>
            refine Or.inl ⟨by kernel_rfl, ?_⟩
            intro w' hSw
            (try dsimp only at hSw)
            go_simp
            (try rfl)
          (try simp only [List.getElem_toArray, List.getElem_cons_succ, List.getElem_cons_zero, Act.put, List.setIfInBounds_toArray, List.set_cons_zero, List.set_cons_succ])
          refine wpAnyH_take (i := 4) (oi := ?o22) (v := ?v22) ?hi22 ?hs22 ?hf22 ?hr22 ?hQ22 ?hy22 ?hS22 ?rest22
          case hi22 => rfl
          case hs22 => kernel_rfl
          case hf22 => kernel_rfl
          case hr22 => kernel_rfl
          case hQ22 => exact fun _ _ _ h => h
          case hS22 => assumption
          case hy22 =>
            refine Or.inl ⟨by kernel_rfl, ?_⟩
            intro w' hSw
            (try dsimp only at hSw)
            go_simp
            (try rfl)
          (try simp only [List.getElem_toArray, List.getElem_cons_succ, List.getElem_cons_zero, Act.put, List.setIfInBounds_toArray, List.set_cons_zero, List.set_cons_succ])
          refine wpAnyH_ready (rs := [5]) (by kernel_rfl) (by simp) ?_
          refine AllReadyH.cons rfl (fun K hK => ?_) AllReadyH.nil
          go_simp
          refine (KC.out _ (HRU.out.below (bt HC.out hHeld.2.2.2.2))).mono ?_
          rintro e w20 ⟨rfl, B20⟩
          refine hK.out _ _ ?_ (fun hHeld => ?_)
          · exact GkS.next hHeld B20
          clear hK K
          (try simp only [List.getElem_toArray, List.getElem_cons_succ, List.getElem_cons_zero, Act.put, List.setIfInBounds_toArray, List.set_cons_zero, List.set_cons_succ])
          refine wpAnyH_take (i := 6) (oi := ?o23) (v := ?v23) ?hi23 ?hs23 ?hf23 ?hr23 ?hQ23 ?hy23 ?hS23 ?rest23
          case hi23 => rfl
          case hs23 => kernel_rfl
          case hf23 => kernel_rfl
          case hr23 => kernel_rfl
          case hQ23 => exact fun _ _ _ h => h
          case hS23 => assumption
          case hy23 =>
            refine Or.inl ⟨by kernel_rfl, ?_⟩
            intro w' hSw
            (try dsimp only at hSw)
            go_simp
            (try rfl)
          (try simp only [List.getElem_toArray, List.getElem_cons_succ, List.getElem_cons_zero, Act.put, List.setIfInBounds_toArray, List.set_cons_zero, List.set_cons_succ])
          refine wpAnyH_take (i := 7) (oi := ?o24) (v := ?v24) ?hi24 ?hs24 ?hf24 ?hr24 ?hQ24 ?hy24 ?hS24 ?rest24
          case hi24 => rfl
          case hs24 => kernel_rfl
          case hf24 => kernel_rfl
          case hr24 => kernel_rfl
          case hQ24 => exact fun _ _ _ h => h
          case hS24 => assumption
          case hy24 =>
            refine Or.inl ⟨by kernel_rfl, ?_⟩
            intro w' hSw
            (try dsimp only at hSw)
            go_simp
            (try rfl)
          (try simp only [List.getElem_toArray, List.getElem_cons_succ, List.getElem_cons_zero, Act.put, List.setIfInBounds_toArray, List.set_cons_zero, List.set_cons_succ])
          refine wpAnyH_take (i := 8) (oi := ?o25) (v := ?v25) ?hi25 ?hs25 ?hf25 ?hr25 ?hQ25 ?hy25 ?hS25 ?rest25
          case hi25 => rfl
          case hs25 => kernel_rfl
          case hf25 => kernel_rfl
          case hr25 => kernel_rfl
          case hQ25 => exact fun _ _ _ h => h
          case hS25 => assumption
          case hy25 =>
            refine Or.inl ⟨by kernel_rfl, ?_⟩
            intro w' hSw
            (try dsimp only at hSw)
            go_simp
            (try rfl)
          (try simp only [List.getElem_toArray, List.getElem_cons_succ, List.getElem_cons_zero, Act.put, List.setIfInBounds_toArray, List.set_cons_zero, List.set_cons_succ])
          refine wpAnyH_take (i := 9) (oi := ?o26) (v := ?v26) ?hi26 ?hs26 ?hf26 ?hr26 ?hQ26 ?hy26 ?hS26 ?rest26
          case hi26 => rfl
          case hs26 => kernel_rfl
          case hf26 => kernel_rfl
          case hr26 => kernel_rfl
          case hQ26 => exact fun _ _ _ h => h
          case hS26 => assumption
          case hy26 =>
            refine Or.inl ⟨by kernel_rfl, ?_⟩
            intro w' hSw
            (try dsimp only at hSw)
            go_simp
            (try rfl)
          (try simp only [List.getElem_toArray, List.getElem_cons_succ, List.getElem_cons_zero, Act.put, List.setIfInBounds_toArray, List.set_cons_zero, List.set_cons_succ])
          refine wpAnyH_take (i := 10) (oi := ?o27) (v := ?v27) ?hi27 ?hs27 ?hf27 ?hr27 ?hQ27 ?hy27 ?hS27 ?rest27
          case hi27 => rfl
          case hs27 => kernel_rfl
          case hf27 => kernel_rfl
          case hr27 => kernel_rfl
          case hQ27 => exact fun _ _ _ h => h
          case hS27 => assumption
          case hy27 =>
            refine Or.inl ⟨by kernel_rfl, ?_⟩
            intro w' hSw
            (try dsimp only at hSw)
            go_simp
            (try rfl)
          (try simp only [List.getElem_toArray, List.getElem_cons_succ, List.getElem_cons_zero, Act.put, List.setIfInBounds_toArray, List.set_cons_zero, List.set_cons_succ])
          refine wpAnyH_take (i := 11) (oi := ?o28) (v := ?v28) ?hi28 ?hs28 ?hf28 ?hr28 ?hQ28 ?hy28 ?hS28 ?rest28
          case hi28 => rfl
          case hs28 => kernel_rfl
          case hf28 => kernel_rfl
          case hr28 => kernel_rfl
          case hQ28 => exact fun _ _ _ h => h
          case hS28 => assumption
          case hy28 =>
            refine Or.inl ⟨by kernel_rfl, ?_⟩
            intro w' hSw
            (try dsimp only at hSw)
            go_simp
            (try rfl)
          (try simp only [List.getElem_toArray, List.getElem_cons_succ, List.getElem_cons_zero, Act.put, List.setIfInBounds_toArray, List.set_cons_zero, List.set_cons_succ])
          refine wpAnyH_take (i := 12) (oi := ?o29) (v := ?v29) ?hi29 ?hs29 ?hf29 ?hr29 ?hQ29 ?hy29 ?hS29 ?rest29
          case hi29 => rfl
          case hs29 => kernel_rfl
          case hf29 => kernel_rfl
          case hr29 => kernel_rfl
          case hQ29 => exact fun _ _ _ h => h
          case hS29 => assumption
          case hy29 =>
            refine Or.inl ⟨by kernel_rfl, ?_⟩
            intro w' hSw
            (try dsimp only at hSw)
            go_simp
            (try rfl)
          (try simp only [List.getElem_toArray, List.getElem_cons_succ, List.getElem_cons_zero, Act.put, List.setIfInBounds_toArray, List.set_cons_zero, List.set_cons_succ])
          refine wpAnyH_take (i := 13) (oi := ?o30) (v := ?v30) ?hi30 ?hs30 ?hf30 ?hr30 ?hQ30 ?hy30 ?hS30 ?rest30
          case hi30 => rfl
          case hs30 => kernel_rfl
          case hf30 => kernel_rfl
          case hr30 => kernel_rfl
          case hQ30 => exact fun _ _ _ h => h
          case hS30 => assumption
          case hy30 =>
            refine Or.inl ⟨by kernel_rfl, ?_⟩
            intro w' hSw
            (try dsimp only at hSw)
            go_simp
            (try rfl)
          (try simp only [List.getElem_toArray, List.getElem_cons_succ, List.getElem_cons_zero, Act.put, List.setIfInBounds_toArray, List.set_cons_zero, List.set_cons_succ])
          refine wpAnyH_take (i := 14) (oi := ?o31) (v := ?v31) ?hi31 ?hs31 ?hf31 ?hr31 ?hQ31 ?hy31 ?hS31 ?rest31
          case hi31 => rfl
          case hs31 => kernel_rfl
          case hf31 => kernel_rfl
          case hr31 => kernel_rfl
          case hQ31 => exact fun _ _ _ h => h
          case hS31 => assumption
          case hy31 =>
            refine Or.inl ⟨by kernel_rfl, ?_⟩
            intro w' hSw
            (try dsimp only at hSw)
            go_simp
            (try rfl)
          (try simp only [List.getElem_toArray, List.getElem_cons_succ, List.getElem_cons_zero, Act.put, List.setIfInBounds_toArray, List.set_cons_zero, List.set_cons_succ])
          refine wpAnyH_ready (rs := [15]) (by kernel_rfl) (by simp) ?_
          refine AllReadyH.cons rfl (fun K hK => ?_) AllReadyH.nil
          go_simp
          refine (HR.out _ (bt HC.out hHeld.2.2.2.2)).mono ?_
          rintro e w21 ⟨rfl, B21⟩
          refine hK.out _ _ ?_ (fun hHeld => ?_)
          · exact GkS.next hHeld B21
          clear hK K
          (try simp only [List.getElem_toArray, List.getElem_cons_succ, List.getElem_cons_zero, Act.put, List.setIfInBounds_toArray, List.set_cons_zero, List.set_cons_succ])
          refine wpAnyH_take (i := 16) (oi := ?o32) (v := ?v32) ?hi32 ?hs32 ?hf32 ?hr32 ?hQ32 ?hy32 ?hS32 ?rest32
          case hi32 => rfl
          case hs32 => kernel_rfl
          case hf32 => kernel_rfl
          case hr32 => kernel_rfl
          case hQ32 => exact fun _ _ _ h => h
          case hS32 => assumption
          case hy32 =>
            refine Or.inl ⟨by kernel_rfl, ?_⟩
            intro w' hSw
            (try dsimp only at hSw)
            go_simp
            (try rfl)
          (try simp only [List.getElem_toArray, List.getElem_cons_succ, List.getElem_cons_zero, Act.put, List.setIfInBounds_toArray, List.set_cons_zero, List.set_cons_succ])
          refine wpAnyH_take (i := 17) (oi := ?o33) (v := ?v33) ?hi33 ?hs33 ?hf33 ?hr33 ?hQ33 ?hy33 ?hS33 ?rest33
          case hi33 => rfl
          case hs33 => kernel_rfl
          case hf33 => kernel_rfl
          case hr33 => kernel_rfl
          case hQ33 => exact fun _ _ _ h => h
          case hS33 => assumption
          case hy33 =>
            refine Or.inl ⟨by kernel_rfl, ?_⟩
            intro w' hSw
            (try dsimp only at hSw)
            go_simp
            (try rfl)
          (try simp only [List.getElem_toArray, List.getElem_cons_succ, List.getElem_cons_zero, Act.put, List.setIfInBounds_toArray, List.set_cons_zero, List.set_cons_succ])
          refine wpAnyH_done (by kernel_rfl) ?_ _
          refine NoPanic.normal ?_
          obtain ⟨wB, hwB⟩ : ∃ x, x = w21 := ⟨_, rfl⟩
          subst hwB
          have Y := Lib.hid (blk_next YR.out (below_dr9 (bt B20 B21)))
          have HCB := Lib.hid (bt HC.out (below_dr9 (bt B20 B21)))
          have HBB := Lib.hid (bt HB.out (below_dr9 (bt B20 B21)))
          clear B20 B21 hHeld
          obtain ⟨wo, hwo⟩ : ∃ x, x = wr := ⟨_, rfl⟩
          subst hwo
          have x1 := cell_blk Y.out 1
          go_wp2_with fail
          go_loopg [4] k (fun g_ i_ wr => ∃ t : Nat, t ≤ k ∧ g_ = k - t ∧ i_ = .int .i64 t ∧ (ys.take t).all (fun x => inZ x 0 (l3 : Int)) = true ∧ Below wB.heap.size wB wr)
          case atStart => exact ⟨0, Nat.zero_le _, rfl, rfl, rfl, Below.refl _ _⟩
          case round =>
            clear x1
            obtain ⟨t, ht, rfl, rfl, hav, hBi⟩ := hrel
            have HAV := Lib.hid hav
            have HCi := bt HCB.out hBi
            have yi := blk_next Y.out hBi
            have x0 := cell_blk yi 0
            have x1 := cell_blk yi 1
            have g1 := (HCi.cell (p := ⟨b1, o1 + j, none⟩) (World.block_lt_of_cell? w _ HCU.out)).trans HCU.out
            have g2 := (HCi.cell (p := ⟨b2, o2 + j, none⟩) (World.block_lt_of_cell? w _ HCV.out)).trans HCV.out
            have HBi := Lib.hid hBi
            clear hav yi hBi
            by_cases htk : t < k
            · have ht1 : (t : Int) < k := by omega
              have ht0 : (0 : Int) ≤ t := by omega
              obtain ⟨z, hz⟩ : ∃ z, ys[t]? = some z := ⟨_, List.getElem?_eq_getElem (by rw [HK.out]; exact htk)⟩
              obtain ⟨b4, o4, hal, hcz⟩ := HF4.out t z hz
              subst hal
              have g3 := (HCi.cell (p := ⟨b4, o4 + t, none⟩) (World.block_lt_of_cell? w _ hcz)).trans hcz
              obtain ⟨b8, hb8⟩ : ∃ b, inZ z 0 (l3 : Int) = b := ⟨_, rfl⟩
              have HZ := Lib.hid hz
              have HB8 := Lib.hid hb8
              have HCI := Lib.hid HCi
              clear hz hcz hb8 HCi
              have KI : ∀ y, Hid (Calls Try.prog 49 #[.int .i64 z, .int .i64 0, .int .i64 (l3 : Int)] (wr.drewN y) fun e w' => e = .returned (.bool b8) ∧ ∃ k, w' = (wr.drewN y).drewN k) := fun y => specIn9q _ _ _ _ _ HB8.out
              cases b8 with
              | false =>
                go_wp2_with fail
                go_quiet (first | (go_at_call 49; with_reducible exact Calls.quiet_of (KI _).out))
                go_wp2_with fail
                go_ret
                exact ⟨ret_bool9 (by rw [← HO.out, range_not hlt (by rw [HCA.out, zall_not HZ.out HB8.out]; simp)]), below_drewN2 HCI.out _⟩
              | true =>
                go_wp2_with fail
                go_quiet (first | (go_at_call 49; with_reducible exact Calls.quiet_of (KI _).out))
                go_wp2_with fail
                go_roundg (k - (t + 1))
                case measure => omega
                case rel => exact ⟨t + 1, by omega, rfl, by go_num, by rw [zall_succ HZ.out, HAV.out, HB8.out]; rfl, below_drewN2 HBi.out _⟩
            · have ht1 : ¬ (t : Int) < k := by omega
              have HALL : Hid (ys.all (fun x => inZ x 0 (l3 : Int)) = true) := Lib.hid (by
                have h := HAV.out
                rw [List.take_of_length_le (by rw [HK.out]; omega)] at h
                exact h)
              clear HCi
              go_wp2_with fail
              go_roundg (n - (j + 1))
              case measure => omega
              case rel => exact ⟨j + 1, by omega, rfl, by go_num, lt_succ_all HCL.out (by rw [HCA.out, HALL.out]; simp), bt HBB.out HBi.out⟩
        · have hkq1 : ¬ (k : Int) = q := by omega
          have hkq2 : (k == q) = false := beq_eq_false_iff_ne.2 hkq
          have hkq3 : ((k : Int) == (q : Int)) = false := beq_eq_false_iff_ne.2 hkq1
          have HKQ := Lib.hid hkq
          clear hkq
          go_wp2_with fail
          have hS0 : (GkS wr w.heap.size (.slice (some ⟨b1, o1, none⟩) n c1) (.slice (some ⟨b2, o2, none⟩) n c2) ⟨b1, o1 + j, none⟩ ⟨b2, o2 + j, none⟩ (.slice a3 l3 c3) (.slice a4 k c4)) wr.drew := ⟨x0, x1, g1, g2, (Below.refl _ _).drew⟩
          clear x0 x1 g1 g2
          refine wp_region_noPanic ?_
          refine wp_region_held_drew (S := (GkS wr w.heap.size (.slice (some ⟨b1, o1, none⟩) n c1) (.slice (some ⟨b2, o2, none⟩) n c2) ⟨b1, o1 + j, none⟩ ⟨b2, o2 + j, none⟩ (.slice a3 l3 c3) (.slice a4 k c4))) (by kernel_rfl) hS0 (fun hHeld => ?_)
          clear hS0
          refine wpAnyH_take (i := 0) (oi := ?o34) (v := ?v34) ?hi34 ?hs34 ?hf34 ?hr34 ?hQ34 ?hy34 ?hS34 ?rest34
          case hi34 => rfl
          case hs34 => kernel_rfl
          case hf34 => kernel_rfl
          case hr34 => kernel_rfl
          case hQ34 => exact fun _ _ _ h => h
          case hS34 => assumption
          case hy34 =>
            refine Or.inl ⟨by kernel_rfl, ?_⟩
            intro w' hSw
            (try dsimp only at hSw)
            go_simp
            (try rfl)
          (try simp only [List.getElem_toArray, List.getElem_cons_zero, Act.put, List.setIfInBounds_toArray, List.set_cons_zero, List.set_cons_succ])
          refine wpAnyH_take (i := 1) (oi := ?o35) (v := ?v35) ?hi35 ?hs35 ?hf35 ?hr35 ?hQ35 ?hy35 ?hS35 ?rest35
          case hi35 => rfl
          case hs35 => kernel_rfl
          case hf35 => kernel_rfl
          case hr35 => kernel_rfl
          case hQ35 => exact fun _ _ _ h => h
          case hS35 => assumption
          case hy35 =>
            refine Or.inl ⟨by kernel_rfl, ?_⟩
            intro w' hSw
            (try dsimp only at hSw)
            go_simp
            (try rfl)
          (try simp only [List.getElem_toArray, List.getElem_cons_succ, List.getElem_cons_zero, Act.put, List.setIfInBounds_toArray, List.set_cons_zero, List.set_cons_succ])
          refine wpAnyH_take (i := 2) (oi := ?o36) (v := ?v36) ?hi36 ?hs36 ?hf36 ?hr36 ?hQ36 ?hy36 ?hS36 ?rest36
          case hi36 => rfl
          case hs36 => kernel_rfl
          case hf36 => kernel_rfl
          case hr36 => kernel_rfl
          case hQ36 => exact fun _ _ _ h => h
          case hS36 => assumption
          case hy36 =>
            refine Or.inl ⟨by kernel_rfl, ?_⟩
            intro w' hSw
            (try dsimp only at hSw)
            go_simp
            (try rfl)
          (try simp only [List.getElem_toArray, List.getElem_cons_succ, List.getElem_cons_zero, Act.put, List.setIfInBounds_toArray, List.set_cons_zero, List.set_cons_succ])
          refine wpAnyH_take (i := 3) (oi := ?o37) (v := ?v37) ?hi37 ?hs37 ?hf37 ?hr37 ?hQ37 ?hy37 ?hS37 ?rest37
          case hi37 => rfl
          case hs37 => kernel_rfl
          case hf37 => kernel_rfl
          case hr37 => kernel_rfl
          case hQ37 => exact fun _ _ _ h => h
          case hS37 => assumption
          case hy37 =>
            refine Or.inl ⟨by kernel_rfl, ?_⟩
            intro w' hSw
            (try dsimp only at hSw)
            go_simp
            (try rfl)
          (try simp only [List.getElem_toArray, List.getElem_cons_succ, List.getElem_cons_zero, Act.put, List.setIfInBounds_toArray, List.set_cons_zero, List.set_cons_succ])
          refine wpAnyH_take (i := 4) (oi := ?o38) (v := ?v38) ?hi38 ?hs38 ?hf38 ?hr38 ?hQ38 ?hy38 ?hS38 ?rest38
          case hi38 => rfl
          case hs38 => kernel_rfl
          case hf38 => kernel_rfl
          case hr38 => kernel_rfl
          case hQ38 => exact fun _ _ _ h => h
          case hS38 => assumption
          case hy38 =>
            refine Or.inl ⟨by kernel_rfl, ?_⟩
            intro w' hSw
            (try dsimp only at hSw)
            go_simp
            (try rfl)
          (try simp only [List.getElem_toArray, List.getElem_cons_succ, List.getElem_cons_zero, Act.put, List.setIfInBounds_toArray, List.set_cons_zero, List.set_cons_succ])
          refine wpAnyH_ready (rs := [5]) (by kernel_rfl) (by simp) ?_
          refine AllReadyH.cons rfl (fun K hK => ?_) AllReadyH.nil
          go_simp
          refine (KC.out _ (HRU.out.below (bt HC.out hHeld.2.2.2.2))).mono ?_
          rintro e w20 ⟨rfl, B20⟩
          refine hK.out _ _ ?_ (fun hHeld => ?_)
          · exact GkS.next hHeld B20
          clear hK K
          (try simp only [List.getElem_toArray, List.getElem_cons_succ, List.getElem_cons_zero, Act.put, List.setIfInBounds_toArray, List.set_cons_zero, List.set_cons_succ])
          refine wpAnyH_take (i := 6) (oi := ?o39) (v := ?v39) ?hi39 ?hs39 ?hf39 ?hr39 ?hQ39 ?hy39 ?hS39 ?rest39
          case hi39 => rfl
          case hs39 => kernel_rfl
          case hf39 => kernel_rfl
          case hr39 => kernel_rfl
          case hQ39 => exact fun _ _ _ h => h
          case hS39 => assumption
          case hy39 =>
            refine Or.inl ⟨by kernel_rfl, ?_⟩
            intro w' hSw
            (try dsimp only at hSw)
            go_simp
            (try rfl)
          (try simp only [List.getElem_toArray, List.getElem_cons_succ, List.getElem_cons_zero, Act.put, List.setIfInBounds_toArray, List.set_cons_zero, List.set_cons_succ])
          refine wpAnyH_take (i := 7) (oi := ?o40) (v := ?v40) ?hi40 ?hs40 ?hf40 ?hr40 ?hQ40 ?hy40 ?hS40 ?rest40
          case hi40 => rfl
          case hs40 => kernel_rfl
          case hf40 => kernel_rfl
          case hr40 => kernel_rfl
          case hQ40 => exact fun _ _ _ h => h
          case hS40 => assumption
          case hy40 =>
            refine Or.inl ⟨by kernel_rfl, ?_⟩
            intro w' hSw
            (try dsimp only at hSw)
            go_simp
            (try rfl)
          (try simp only [List.getElem_toArray, List.getElem_cons_succ, List.getElem_cons_zero, Act.put, List.setIfInBounds_toArray, List.set_cons_zero, List.set_cons_succ])
          refine wpAnyH_take (i := 8) (oi := ?o41) (v := ?v41) ?hi41 ?hs41 ?hf41 ?hr41 ?hQ41 ?hy41 ?hS41 ?rest41
          case hi41 => rfl
          case hs41 => kernel_rfl
          case hf41 => kernel_rfl
          case hr41 => kernel_rfl
          case hQ41 => exact fun _ _ _ h => h
          case hS41 => assumption
          case hy41 =>
            refine Or.inl ⟨by kernel_rfl, ?_⟩
            intro w' hSw
            (try dsimp only at hSw)
            go_simp
            (try rfl)
          (try simp only [List.getElem_toArray, List.getElem_cons_succ, List.getElem_cons_zero, Act.put, List.setIfInBounds_toArray, List.set_cons_zero, List.set_cons_succ])
          refine wpAnyH_take (i := 9) (oi := ?o42) (v := ?v42) ?hi42 ?hs42 ?hf42 ?hr42 ?hQ42 ?hy42 ?hS42 ?rest42
          case hi42 => rfl
          case hs42 => kernel_rfl
          case hf42 => kernel_rfl
          case hr42 => kernel_rfl
          case hQ42 => exact fun _ _ _ h => h
          case hS42 => assumption
          case hy42 =>
            refine Or.inl ⟨by kernel_rfl, ?_⟩
            intro w' hSw
            (try dsimp only at hSw)
            go_simp
            (try rfl)
          (try simp only [List.getElem_toArray, List.getElem_cons_succ, List.getElem_cons_zero, Act.put, List.setIfInBounds_toArray, List.set_cons_zero, List.set_cons_succ])
          refine wpAnyH_take (i := 10) (oi := ?o43) (v := ?v43) ?hi43 ?hs43 ?hf43 ?hr43 ?hQ43 ?hy43 ?hS43 ?rest43
          case hi43 => rfl
          case hs43 => kernel_rfl
          case hf43 => kernel_rfl
          case hr43 => kernel_rfl
          case hQ43 => exact fun _ _ _ h => h
          case hS43 => assumption
          case hy43 =>
            refine Or.inl ⟨by kernel_rfl, ?_⟩
            intro w' hSw
            (try dsimp only at hSw)
            go_simp
            (try rfl)
          (try simp only [List.getElem_toArray, List.getElem_cons_succ, List.getElem_cons_zero, Act.put, List.setIfInBounds_toArray, List.set_cons_zero, List.set_cons_succ])
          refine wpAnyH_take (i := 11) (oi := ?o44) (v := ?v44) ?hi44 ?hs44 ?hf44 ?hr44 ?hQ44 ?hy44 ?hS44 ?rest44
          case hi44 => rfl
          case hs44 => kernel_rfl
          case hf44 => kernel_rfl
          case hr44 => kernel_rfl
          case hQ44 => exact fun _ _ _ h => h
          case hS44 => assumption
          case hy44 =>
            refine Or.inl ⟨by kernel_rfl, ?_⟩
            intro w' hSw
            (try dsimp only at hSw)
            go_simp
            (try rfl)
          (try simp only [List.getElem_toArray, List.getElem_cons_succ, List.getElem_cons_zero, Act.put, List.setIfInBounds_toArray, List.set_cons_zero, List.set_cons_succ])
          refine wpAnyH_take (i := 12) (oi := ?o45) (v := ?v45) ?hi45 ?hs45 ?hf45 ?hr45 ?hQ45 ?hy45 ?hS45 ?rest45
          case hi45 => rfl
          case hs45 => kernel_rfl
          case hf45 => kernel_rfl
          case hr45 => kernel_rfl
          case hQ45 => exact fun _ _ _ h => h
          case hS45 => assumption
          case hy45 =>
            refine Or.inl ⟨by kernel_rfl, ?_⟩
            intro w' hSw
            (try dsimp only at hSw)
            go_simp
            (try rfl)
          (try simp only [List.getElem_toArray, List.getElem_cons_succ, List.getElem_cons_zero, Act.put, List.setIfInBounds_toArray, List.set_cons_zero, List.set_cons_succ])
          refine wpAnyH_take (i := 13) (oi := ?o46) (v := ?v46) ?hi46 ?hs46 ?hf46 ?hr46 ?hQ46 ?hy46 ?hS46 ?rest46
          case hi46 => rfl
          case hs46 => kernel_rfl
          case hf46 => kernel_rfl
          case hr46 => kernel_rfl
          case hQ46 => exact fun _ _ _ h => h
          case hS46 => assumption
          case hy46 =>
            refine Or.inl ⟨by kernel_rfl, ?_⟩
            intro w' hSw
            (try dsimp only at hSw)
            go_simp
            (try rfl)
          (try simp only [List.getElem_toArray, List.getElem_cons_succ, List.getElem_cons_zero, Act.put, List.setIfInBounds_toArray, List.set_cons_zero, List.set_cons_succ])
          refine wpAnyH_take (i := 14) (oi := ?o47) (v := ?v47) ?hi47 ?hs47 ?hf47 ?hr47 ?hQ47 ?hy47 ?hS47 ?rest47
          case hi47 => rfl
          case hs47 => kernel_rfl
          case hf47 => kernel_rfl
          case hr47 => kernel_rfl
          case hQ47 => exact fun _ _ _ h => h
          case hS47 => assumption
          case hy47 =>
            refine Or.inl ⟨by kernel_rfl, ?_⟩
            intro w' hSw
            (try dsimp only at hSw)
            go_simp
            (try rfl)
          (try simp only [List.getElem_toArray, List.getElem_cons_succ, List.getElem_cons_zero, Act.put, List.setIfInBounds_toArray, List.set_cons_zero, List.set_cons_succ])
          refine wpAnyH_ready (rs := [15]) (by kernel_rfl) (by simp) ?_
          refine AllReadyH.cons rfl (fun K hK => ?_) AllReadyH.nil
          go_simp
          refine (HR.out _ (bt HC.out hHeld.2.2.2.2)).mono ?_
          rintro e w21 ⟨rfl, B21⟩
          refine hK.out _ _ ?_ (fun hHeld => ?_)
          · exact GkS.next hHeld B21
          clear hK K
          (try simp only [List.getElem_toArray, List.getElem_cons_succ, List.getElem_cons_zero, Act.put, List.setIfInBounds_toArray, List.set_cons_zero, List.set_cons_succ])
          refine wpAnyH_take (i := 16) (oi := ?o48) (v := ?v48) ?hi48 ?hs48 ?hf48 ?hr48 ?hQ48 ?hy48 ?hS48 ?rest48
          case hi48 => rfl
          case hs48 => kernel_rfl
          case hf48 => kernel_rfl
          case hr48 => kernel_rfl
          case hQ48 => exact fun _ _ _ h => h
          case hS48 => assumption
          case hy48 =>
            refine Or.inl ⟨by kernel_rfl, ?_⟩
            intro w' hSw
            (try dsimp only at hSw)
            go_simp
            (try rfl)
          (try simp only [List.getElem_toArray, List.getElem_cons_succ, List.getElem_cons_zero, Act.put, List.setIfInBounds_toArray, List.set_cons_zero, List.set_cons_succ])
          refine wpAnyH_take (i := 17) (oi := ?o49) (v := ?v49) ?hi49 ?hs49 ?hf49 ?hr49 ?hQ49 ?hy49 ?hS49 ?rest49
          case hi49 => rfl
          case hs49 => kernel_rfl
          case hf49 => kernel_rfl
          case hr49 => kernel_rfl
          case hQ49 => exact fun _ _ _ h => h
          case hS49 => assumption
          case hy49 =>
            refine Or.inl ⟨by kernel_rfl, ?_⟩
            intro w' hSw
            (try dsimp only at hSw)
            go_simp
            (try rfl)
          (try simp only [List.getElem_toArray, List.getElem_cons_succ, List.getElem_cons_zero, Act.put, List.setIfInBounds_toArray, List.set_cons_zero, List.set_cons_succ])
          refine wpAnyH_done (by kernel_rfl) ?_ _
          refine NoPanic.normal ?_
          go_wp2_with fail
          go_ret
          exact ⟨ret_bool9 (by rw [← HO.out, range_not hlt (by rw [HCA.out, decide_eq_false HKQ.out]; rfl)]), bt HC.out (below_dr9 (bt B20 B21))⟩
      · have hj1 : ¬ (j : Int) < n := by omega
        have e : (List.range n).all (colAt G) = true := range_all (fun i hi => HCL.out i (by omega))
        have HE := Lib.hid (HO.out.symm.trans e)
        clear e hCr
        go_wp2_with fail
        go_ret
        exact ⟨ret_bool9 (by rw [HE.out]), HC.out⟩
  · have hnm1 : ¬ (m : Int) = n := by omega
    have hnm2 : (m == n) = false := beq_eq_false_iff_ne.2 (by omega)
    have hnm3 : ((m : Int) == (n : Int)) = false := beq_eq_false_iff_ne.2 hnm1
    have HNM := Lib.hid hnm
    clear hnm
    go_wp2_with fail
    go_ret
    exact ⟨ret_bool9 (by rw [← HO0.out, decide_eq_false HNM.out]; rfl), HA.out⟩
end Go.Proofs.Ytgknkjiifcnkpaa
