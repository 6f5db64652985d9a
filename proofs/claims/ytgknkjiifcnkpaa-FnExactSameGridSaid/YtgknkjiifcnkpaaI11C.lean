/-
  Grids: their rows, whether two are the same, whether one is right: the program's way.
-/
import Derived.Test.YtgknkjiifcnkpaaPk5
import Derived.Test.YtgknkjiifcnkpaaI11E
import Derived.Test.YtgknkjiifcnkpaaPk6
import Derived.Test.YtgknkjiifcnkpaaLawI11
import Derived.Test.YtgknkjiifcnkpaaGrdO
namespace Go.Proofs.Ytgknkjiifcnkpaa
open Go.RowKit

theorem eqGridB (w : World) (v1 v2 : Value) (L1 L2 : List (List Int)) (h1 : IIRow w v1 L1) (h2 : IIRow w v2 L2) :
    Calls Try.prog 58 #[v1, v2, .func (.func 59) #[] #[]] w fun e w' => e = .returned (.bool (sameG9 L1 L2)) ∧ Below w.heap.size w w' :=
  (eqGrid9 w v1 v2 L1 L2 h1 h2).mono fun _ _ ⟨he, _, hw⟩ => ⟨he, below_of_drew hw⟩
set_option maxRecDepth 100000 in
theorem implRowsIn9 (G : Grd) (u1 u2 : Value) (w : World) (h : GrdRow w G u1 u2) :
    Calls Try.prog 28 #[.agg #[u1, u2]] w fun e w' => e = .returned (.int .i64 (rowsIn G : Int)) ∧ Below w.heap.size w w' := by
  obtain ⟨h1, h2⟩ := h
  obtain ⟨a1, c1, rfl, _⟩ := iiRow_form h1
  unfold rowsIn
  clear h1
  by_cases h0 : G.bs = []
  · obtain ⟨a2, c2, rfl, _⟩ := iiRow_form h2
    rw [h0]
    have hA := bl_al w (.cells #[.slice a1 G.cs.length c1, .slice a2 ([] : List (List Int)).length c2] 38)
    have hx := alloc_blk w #[.slice a1 G.cs.length c1, .slice a2 ([] : List (List Int)).length c2] 38
    have p0 := cell_blk hx 0
    have p1 := cell_blk hx 1
    have lp := blk_lt hx
    clear hx h2 h0
    go_enter Try.func28, Try.ntmps28
    go_wp2_with fail
    go_ret
    exact ⟨rfl, hA⟩
  · obtain ⟨L0, L, hg⟩ : ∃ L0 L, G.bs = L0 :: L := by
      cases e : G.bs with
      | nil => exact absurd e h0
      | cons a l => exact ⟨a, l, rfl⟩
    rcases h2 with ⟨e, _⟩ | ⟨b, off, c, rfl, hl1, hl2, hc⟩
    · exact absurd e h0
    obtain ⟨u, hu, hru⟩ := hc 0 L0 (by rw [hg]; rfl)
    obtain ⟨a8, c8, rfl, _⟩ := intRow_form hru
    rw [show (G.bs.headD []).length = L0.length by rw [hg]; rfl]
    have hn : 0 < G.bs.length := by rw [hg]; simp
    generalize G.bs.length = n at *
    have hgt : (0 : Int) < (n : Int) := by omega
    have hgb : ((n : Int) == 0) = false := beq_eq_false_iff_ne.2 (by omega)
    have hA := bl_al w (.cells #[.slice a1 G.cs.length c1, .slice (some ⟨b, off, none⟩) n c] 38)
    have hx := alloc_blk w #[.slice a1 G.cs.length c1, .slice (some ⟨b, off, none⟩) n c] 38
    have hu1 := (hA.cell (World.block_lt_of_cell? w _ hu)).trans hu
    simp only [Nat.add_zero] at hu1
    have p0 := cell_blk hx 0
    have p1 := cell_blk hx 1
    have lp := blk_lt hx
    clear hx hc hru hg hu h0 hl1 hl2
    go_enter Try.func28, Try.ntmps28
    go_wp2_with fail
    go_ret
    exact ⟨rfl, hA⟩
set_option maxRecDepth 100000 in
theorem implSameGrid9 (A B : Grd) (u1 u2 v1 v2 : Value) (w : World) (ha : GrdRow w A u1 u2) (hb : GrdRow w B v1 v2) :
    Calls Try.prog 24 #[.agg #[u1, u2], .agg #[v1, v2]] w fun e w' => e = .returned (.bool (sameGr A B)) ∧ Below w.heap.size w w' := by
  obtain ⟨h1, h2⟩ := ha
  obtain ⟨k1, k2⟩ := hb
  obtain ⟨a1, c1, rfl, _⟩ := iiRow_form h1
  obtain ⟨a2, c2, rfl, _⟩ := iiRow_form h2
  obtain ⟨b1, g1, rfl, _⟩ := iiRow_form k1
  obtain ⟨b2, g2, rfl, _⟩ := iiRow_form k2
  have hA := bt (bl_al w (.cells #[.slice a1 A.cs.length c1, .slice a2 A.bs.length c2] 38)) (bl_al _ (.cells #[.slice b1 B.cs.length g1, .slice b2 B.bs.length g2] 38))
  have xa := blk_al (alloc_blk w #[.slice a1 A.cs.length c1, .slice a2 A.bs.length c2] 38) (.cells #[.slice b1 B.cs.length g1, .slice b2 B.bs.length g2] 38)
  have xb := alloc_blk (w.alloc (.cells #[.slice a1 A.cs.length c1, .slice a2 A.bs.length c2] 38)) #[.slice b1 B.cs.length g1, .slice b2 B.bs.length g2] 38
  rw [sz_alloc] at xb
  have p0 := cell_blk xa 0
  have p1 := cell_blk xa 1
  have q0 := cell_blk xb 0
  have q1 := cell_blk xb 1
  have lp := blk_lt xa
  have lq := blk_lt xb
  by_cases e1 : sameG9 A.cs B.cs = true
  · have e1 : sameG9 A.cs B.cs = true := by simpa using e1
    have K1 := Lib.hid (fun w => e1 ▸ eqGridB w (.slice a1 A.cs.length c1) (.slice b1 B.cs.length g1) A.cs B.cs)
    rw [show sameGr A B = sameG9 A.bs B.bs by unfold sameGr; rw [e1]; rfl]
    clear e1
    go_enter Try.func24, Try.ntmps24
    go_wp2_with fail
    refine (K1.out _ (h1.below hA) (k1.below hA)).mono ?_
    rintro e w1 ⟨rfl, hB1⟩
    have X1 := blk_next xa hB1
    have X2 := blk_next xb hB1
    have hA2 := bt hA hB1
    clear p0 p1 q0 q1 lp lq xa xb
    have p0 := cell_blk X1 0
    have p1 := cell_blk X1 1
    have q0 := cell_blk X2 0
    have q1 := cell_blk X2 1
    have lp := blk_lt X1
    have lq := blk_lt X2
    have h3 := Lib.hid (h2.below hA2)
    have k3 := Lib.hid (k2.below hA2)
    have HA2 := Lib.hid hA2
    clear X1 X2 hB1 hA hA2 h1 k1 h2 k2
    go_wp2_with fail
    refine (eqGridB _ _ _ A.bs B.bs h3.out k3.out).mono ?_
    rintro e w2 ⟨rfl, hB2⟩
    go_wp2_with fail
    go_ret
    exact ⟨rfl, bt HA2.out hB2⟩
  · have e1 : sameG9 A.cs B.cs = false := by simpa using e1
    have K1 := Lib.hid (fun w => e1 ▸ eqGridB w (.slice a1 A.cs.length c1) (.slice b1 B.cs.length g1) A.cs B.cs)
    rw [show sameGr A B = false by unfold sameGr; rw [e1]; rfl]
    clear e1
    go_enter Try.func24, Try.ntmps24
    go_wp2_with fail
    refine (K1.out _ (h1.below hA) (k1.below hA)).mono ?_
    rintro e w1 ⟨rfl, hB1⟩
    have X1 := blk_next xa hB1
    have X2 := blk_next xb hB1
    have hA2 := bt hA hB1
    clear p0 p1 q0 q1 lp lq xa xb
    have p0 := cell_blk X1 0
    have p1 := cell_blk X1 1
    have q0 := cell_blk X2 0
    have q1 := cell_blk X2 1
    have lp := blk_lt X1
    have lq := blk_lt X2
    have h3 := Lib.hid (h2.below hA2)
    have k3 := Lib.hid (k2.below hA2)
    have HA2 := Lib.hid hA2
    clear X1 X2 hB1 hA hA2 h1 k1 h2 k2
    go_wp2_with fail
    go_ret
    exact ⟨rfl, HA2.out⟩

theorem implRowsIn : ImplRowsIn := fun G u1 u2 w h _ => implRowsIn9 G u1 u2 w h
theorem implSameGr : ImplSameGrid := fun A B u1 u2 v1 v2 w ha hb _ _ => implSameGrid9 A B u1 u2 v1 v2 w ha hb
set_option maxRecDepth 100000 in
set_option maxHeartbeats 4000000 in
/-- WHETHER A GRID IS RIGHT. -/
theorem implGridOk : ImplGridOk okGr := by
  intro G u1 u2 w h hs
  have hz := szGr_le hs
  have HZ1 := Lib.hid hz.1.2
  have HZ2 := Lib.hid hz.2.2
  have HG := Lib.hid h
  obtain ⟨p1, p2⟩ := h
  obtain ⟨a1, c1, rfl, hl1, hf1⟩ := iiRow_cells p1
  obtain ⟨a2, c2, rfl, hl2, hf2⟩ := iiRow_cells p2
  obtain ⟨n, hn⟩ : ∃ n : Nat, G.cs.length = n := ⟨_, rfl⟩
  obtain ⟨m, hm⟩ : ∃ n : Nat, G.bs.length = n := ⟨_, rfl⟩
  obtain ⟨q, hq⟩ : ∃ n : Nat, rowsIn G = n := ⟨_, rfl⟩
  have HR : Hid (∀ W, Below w.heap.size w W → Calls Try.prog 28 #[.agg #[.slice a1 n c1, .slice a2 m c2]] W fun e w' => e = .returned (.int .i64 (q : Int)) ∧ Below W.heap.size W w') := Lib.hid (fun W hB => by have := implRowsIn9 G _ _ W (HG.out.below hB); rwa [hn, hm, hq] at this)
  obtain ⟨r, hr⟩ : ∃ r, okGr G = r := ⟨_, rfl⟩
  obtain ⟨b1, hb1⟩ : ∃ b, inZ (n : Int) 1 4 = b := ⟨_, rfl⟩
  obtain ⟨b3, hb3⟩ : ∃ b, inZ (q : Int) 1 40 = b := ⟨_, rfl⟩
  have HO0 : Hid ((b1 && (decide (n = m) && (b3 && (List.range n).all (colAt G)))) = r) := Lib.hid (by rw [← hr, okGr, hn, hm, hq, hb1, hb3])
  have HN := Lib.hid hn
  have HM := Lib.hid hm
  have HQ := Lib.hid hq
  have HF1 := Lib.hid hf1
  have HF2 := Lib.hid hf2
  have B1 := Lib.hid hb1
  have B3 := Lib.hid hb3
  rw [hr]
  rw [hn] at hl1 ⊢
  rw [hm] at hl2 ⊢
  have hA := bl_al w (.cells #[.slice a1 n c1, .slice a2 m c2] 38)
  have x := alloc_blk w #[.slice a1 n c1, .slice a2 m c2] 38
  have x0 := cell_blk x 0
  have x1 := cell_blk x 1
  have lx := blk_lt x
  have X := Lib.hid x
  have HA := Lib.hid hA
  clear hz hs hn hm hq hr hb1 hb3 hf1 hf2 p1 p2 x hA HG
  go_enter Try.func26, Try.ntmps26
  go_wp2_with fail
  refine (HR.out _ HA.out).mono ?_
  rintro e w2 ⟨rfl, B2⟩
  have HC2 := Lib.hid (bt HA.out B2)
  have Y2 := Lib.hid (blk_next X.out B2)
  clear B2 x0 x1 lx HR
  have x0 := cell_blk Y2.out 0
  have x1 := cell_blk Y2.out 1
  have lx := blk_lt Y2.out
  go_wp2_with fail
  refine (inRange9 _ _ _ _).mono ?_
  rintro e w1 ⟨rfl, rfl⟩
  rw [B1.out]
  cases b1 with
  | false =>
    go_wp2_with fail
    go_ret
    exact ⟨ret_bool9 (HO0.out), HC2.out⟩
  | true =>
  by_cases hnm : n = m
  · subst hnm
    have HO1 : Hid ((b3 && (List.range n).all (colAt G)) = r) := Lib.hid (by rw [← HO0.out, decide_eq_true rfl]; simp)
    go_wp2_with fail
    refine (inRange9 _ _ _ _).mono ?_
    rintro e w3 ⟨rfl, rfl⟩
    rw [B3.out]
    cases b3 with
    | false =>
      go_wp2_with fail
      go_ret
      exact ⟨ret_bool9 (HO1.out), HC2.out⟩
    | true =>
    have HO : Hid ((List.range n).all (colAt G) = r) := Lib.hid (by rw [← HO1.out]; simp)
    clear HO1 HO0 B1 B3
    go_wp2_with fail
    go_loopg [4, 5, 30] n (fun g_ _ _ i_ wr => ∃ j : Nat, j ≤ n ∧ g_ = n - j ∧ i_ = .int .i64 j ∧ (∀ i, i < j → colAt G i = true) ∧ Below w2.heap.size w2 wr)
    case atStart => exact ⟨0, Nat.zero_le _, rfl, rfl, fun i hi => by omega, Below.refl _ _⟩
    case round =>
      clear x0 x1 lx
      obtain ⟨j, hj, rfl, rfl, hcl, hB⟩ := hrel
      have HCL := Lib.hid hcl
      have hCr := bt HC2.out hB
      have yr := blk_next Y2.out hB
      have x0 := cell_blk yr 0
      have x1 := cell_blk yr 1
      have lx := blk_lt yr
      have YR := Lib.hid yr
      have HB := Lib.hid hB
      have HC := Lib.hid hCr
      clear hcl hB yr
      by_cases hlt : j < n
      · have hj1 : (j : Int) < n := by omega
        have hj0 : (0 : Int) ≤ j := by omega
        obtain ⟨zs, hzs⟩ : ∃ r, G.cs[j]? = some r := ⟨_, List.getElem?_eq_getElem (by rw [HN.out]; exact hlt)⟩
        obtain ⟨ys, hys⟩ : ∃ r, G.bs[j]? = some r := ⟨_, List.getElem?_eq_getElem (by rw [HM.out]; exact hlt)⟩
        obtain ⟨b1, o1, u3, rfl, hcu, hru⟩ := HF1.out j zs hzs
        obtain ⟨b2, o2, u4, rfl, hcv, hrv⟩ := HF2.out j ys hys
        obtain ⟨a3, c3, rfl, hl3, _⟩ := intRow_form hru
        obtain ⟨a4, c4, rfl, hl4, _⟩ := intRow_form hrv
        have hzl := HZ1.out zs (List.mem_of_getElem? hzs)
        have hyl := HZ2.out ys (List.mem_of_getElem? hys)
        obtain ⟨b5, hb5⟩ : ∃ b, cutsB zs = b := ⟨_, rfl⟩
        obtain ⟨l3, hl3n⟩ : ∃ l, zs.length = l := ⟨_, rfl⟩
        obtain ⟨k, hk⟩ : ∃ l, ys.length = l := ⟨_, rfl⟩
        obtain ⟨b6, hb6⟩ : ∃ b, (decide (ys.length = q) && ys.all (fun x => inZ x 0 (l3 : Int))) = b := ⟨_, rfl⟩
        have HCA : Hid (colAt G j = (b5 && b6)) := Lib.hid (by rw [colAt, getD_at hzs, getD_at hys, hb5, HQ.out, hl3n, hb6])
        have KC : Hid (∀ (W : World), IntRow W (.slice a3 zs.length c3) zs → Calls Try.prog 63 #[.slice a3 zs.length c3] W fun e w' => e = .returned (.bool b5) ∧ Below W.heap.size W w') := Lib.hid (fun W hW => by have := implCutsOk9 zs _ W hW hzl; rwa [hb5] at this)
        have KB : Hid (∀ (W : World), IntRow W (.slice a4 ys.length c4) ys → Calls Try.prog 64 #[.slice a4 ys.length c4, .int .i64 q, .int .i64 l3] W fun e w' => e = .returned (.bool b6) ∧ Below W.heap.size W w') := Lib.hid (fun W hW => by have := areBins9 W _ ys q l3 hW; rwa [hb6] at this)
        rw [hl3n] at hru hl3 KC hcu hzl
        rw [hk] at hl4 hcv hyl hrv KB
        have g1 := (hCr.cell (p := ⟨b1, o1 + j, none⟩) (World.block_lt_of_cell? w _ hcu)).trans hcu
        have HCV := Lib.hid hcv
        have HRU := Lib.hid hru
        have HRV := Lib.hid hrv
        clear hzs hys hcu hru hcv hrv hb5 hb6 hl3n hk hCr
        cases b5 with
        | false =>
          have HF : Hid ((List.range n).all (colAt G) = false) := Lib.hid (List.all_eq_false.2 ⟨j, List.mem_range.2 hlt, by rw [HCA.out]; simp⟩)
          go_wp2_with fail
          refine (KC.out _ (HRU.out.below HC.out)).mono ?_
          rintro e w4 ⟨rfl, B4⟩
          go_wp2_with fail
          go_ret
          exact ⟨ret_bool9 (by rw [← HO.out, HF.out]), bt HC.out B4⟩
        | true =>
          go_wp2_with fail
          refine (KC.out _ (HRU.out.below HC.out)).mono ?_
          rintro e w4 ⟨rfl, B4⟩
          have HC4 := Lib.hid (bt HC.out B4)
          have HB4 := Lib.hid (bt HB.out B4)
          have y4 := blk_next YR.out B4
          clear x0 x1 lx g1 B4
          have x0 := cell_blk y4 0
          have x1 := cell_blk y4 1
          have lx := blk_lt y4
          have g2 := (HC4.out.cell (p := ⟨b2, o2 + j, none⟩) (World.block_lt_of_cell? w _ HCV.out)).trans HCV.out
          clear y4
          go_wp2_with fail
          refine (KB.out _ (HRV.out.below HC4.out)).mono ?_
          rintro e w5 ⟨rfl, B5⟩
          cases b6 with
          | false =>
            have HF : Hid ((List.range n).all (colAt G) = false) := Lib.hid (List.all_eq_false.2 ⟨j, List.mem_range.2 hlt, by rw [HCA.out]; simp⟩)
            go_wp2_with fail
            go_ret
            exact ⟨ret_bool9 (by rw [← HO.out, HF.out]), bt HC4.out B5⟩
          | true =>
            have HC5 := Lib.hid (bt HB4.out B5)
            have HJ : Hid (colAt G j = true) := Lib.hid (by rw [HCA.out]; rfl)
            clear x0 x1 lx g2 B5
            go_wp2_with fail
            go_roundg (n - (j + 1))
            case measure => omega
            case rel =>
              refine ⟨j + 1, by omega, rfl, by go_num, fun i hi => ?_, HC5.out⟩
              by_cases e : i < j
              · exact HCL.out i e
              · obtain rfl : i = j := by omega
                exact HJ.out
      · have hj1 : ¬ (j : Int) < n := by omega
        have HT : Hid ((List.range n).all (colAt G) = true) := Lib.hid (List.all_eq_true.2 fun i hi => HCL.out i (by have := List.mem_range.1 hi; omega))
        go_wp2_with fail
        go_ret
        exact ⟨ret_bool9 (by rw [← HO.out, HT.out]), HC.out⟩
  · have hnm1 : ¬ (m : Int) = n := by omega
    have HF : Hid (false = r) := Lib.hid (by rw [← HO0.out, decide_eq_false hnm]; rfl)
    clear hnm
    go_wp2_with fail
    go_ret
    exact ⟨ret_bool9 HF.out, HC2.out⟩
end Go.Proofs.Ytgknkjiifcnkpaa
