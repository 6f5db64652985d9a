/-
  The reference's grid of a table.
-/
import Derived.Test.YtgknkjiifcnkpaaPk7
namespace Go.Proofs.Ytgknkjiifcnkpaa
open Go.RowKit

def csU (T : Tab) (b : Int) (j : Nat) : List (List Int) := (List.range j).map (fun f => cutsZ (colT T (f : Nat)) b)
def bsU (T : Tab) (b : Int) (j : Nat) : List (List Int) := (List.range j).map (fun f => binsZ (cutsZ (colT T (f : Nat)) b) (colT T (f : Nat)))
theorem csU_succ (T : Tab) (b : Int) (j : Nat) : csU T b (j + 1) = csU T b j ++ [cutsZ (colT T (j : Nat)) b] := by simp [csU, List.range_succ]
theorem bsU_succ (T : Tab) (b : Int) (j : Nat) : bsU T b (j + 1) = bsU T b j ++ [binsZ (cutsZ (colT T (j : Nat)) b) (colT T (j : Nat))] := by simp [bsU, List.range_succ]
theorem binsZ_succ {C L : List Int} {k : Nat} {z : Int} (h : L[k]? = some z) : binsZ C (L.take (k + 1)) = binsZ C (L.take k) ++ [((binZ C z : Nat) : Int)] := by
  unfold binsZ
  rw [List.take_add_one, h, List.map_append]
  rfl
set_option maxRecDepth 100000 in
set_option maxHeartbeats 8000000 in
theorem specGridOf_ok (T : Tab) (b : Int) (u1 u2 u3 : Value) (w : World) (h : TabRow w T u1 u2 u3) (hyl : T.y.length ≤ 9223372036854775807) (hnl : ∀ p ∈ T.ns, p.length ≤ 9223372036854775807) (ho : okT T = true) (hb : inZ b 2 8 = true) :
    Calls Try.prog 23 #[.agg #[u1, .string ⟨T.y.toArray⟩, u2, u3], .int .i64 b] w fun e w' => (∃ v1 v2, e = .returned (.agg #[v1, v2]) ∧ GrdOwn w' w.heap.size (gridZ T b) v1 v2) ∧ Below w.heap.size w w' := by
  obtain ⟨iI, hi, hz0, hz1, hz2⟩ := info_parts infoInt
  obtain ⟨iL, gi, gz0, gz1, gz2⟩ := info_parts infoSlI
  have hgz : gridZ T b = ⟨csU T b T.ns.length, bsU T b T.ns.length⟩ := if_pos ⟨ho, hb⟩
  rw [hgz]
  clear hgz
  obtain ⟨a1, c1, a2, c2, a3, c3, rfl, rfl, rfl⟩ := h.form
  have hA := bt (bt (bl_al w (.cells #[.slice a1 T.ns.length c1, .string ⟨T.y.toArray⟩, .slice a2 T.rs.length c2, .slice a3 T.ys.length c3] 34)) (bl_al (w.alloc (.cells #[.slice a1 T.ns.length c1, .string ⟨T.y.toArray⟩, .slice a2 T.rs.length c2, .slice a3 T.ys.length c3] 34)) (.cells #[.slice none 0 0, .slice none 0 0] 38))) (bl_al ((w.alloc (.cells #[.slice a1 T.ns.length c1, .string ⟨T.y.toArray⟩, .slice a2 T.rs.length c2, .slice a3 T.ys.length c3] 34)).alloc (.cells #[.slice none 0 0, .slice none 0 0] 38)) (.cells #[.slice none 0 0, .slice none 0 0] 38))
  have x1 := blk_al (blk_al (alloc_blk w #[.slice a1 T.ns.length c1, .string ⟨T.y.toArray⟩, .slice a2 T.rs.length c2, .slice a3 T.ys.length c3] 34) (.cells #[.slice none 0 0, .slice none 0 0] 38)) (.cells #[.slice none 0 0, .slice none 0 0] 38)
  have H1 := h.below hA
  have p0 := cell_blk x1 0
  have pf0 := free_blk x1 0
  have p1 := cell_blk x1 1
  have pf1 := free_blk x1 1
  have p2 := cell_blk x1 2
  have pf2 := free_blk x1 2
  have p3 := cell_blk x1 3
  have pf3 := free_blk x1 3
  have lp := blk_lt x1
  clear x1
  have KT := Lib.hid (fun W (hW : TabRow W T (.slice a1 T.ns.length c1) (.slice a2 T.rs.length c2) (.slice a3 T.ys.length c3)) => specTableOk T _ _ _ W hW hyl hnl true ho)
  go_enter Try.func23, Try.ntmps23
  go_wp2_with fail
  refine (KT.out _ H1).mono ?_
  rintro e w1 ⟨rfl, B1⟩
  obtain ⟨WB, HGS, X1, X2, HAB, hob⟩ : ∃ WB : World, Hid (GrS WB w1 (w.heap.size + 1 + 1) #[.slice none 0 0, .slice none 0 0] ⟨csU T b 0, bsU T b 0⟩ [] [] (.slice none 0 0) (.slice none 0 0)) ∧ Hid (WB.heap[w.heap.size]? = some (.cells #[.slice a1 T.ns.length c1, .string ⟨T.y.toArray⟩, .slice a2 T.rs.length c2, .slice a3 T.ys.length c3] 34 (0, 0))) ∧ Hid (WB.heap[w.heap.size + 1]? = some (.cells #[.slice none 0 0, .slice none 0 0] 38 (0, 0))) ∧ Hid (Below w.heap.size w WB) ∧ WB.heap.size = (w.heap.size + 1 + 1) := by
    have x3 := alloc_blk ((w.alloc (.cells #[.slice a1 T.ns.length c1, .string ⟨T.y.toArray⟩, .slice a2 T.rs.length c2, .slice a3 T.ys.length c3] 34)).alloc (.cells #[.slice none 0 0, .slice none 0 0] 38)) #[.slice none 0 0, .slice none 0 0] 38
    rw [sz_alloc, sz_alloc] at x3
    have x2 := alloc_blk (w.alloc (.cells #[.slice a1 T.ns.length c1, .string ⟨T.y.toArray⟩, .slice a2 T.rs.length c2, .slice a3 T.ys.length c3] 34)) #[.slice none 0 0, .slice none 0 0] 38
    rw [sz_alloc] at x2
    refine ⟨((w.alloc (.cells #[.slice a1 T.ns.length c1, .string ⟨T.y.toArray⟩, .slice a2 T.rs.length c2, .slice a3 T.ys.length c3] 34)).alloc (.cells #[.slice none 0 0, .slice none 0 0] 38)), Lib.hid ⟨bt (bl_al _ _) B1, blk_next x3 B1, World.ownsRow_nil _ _ _ _, RowsOwn.nil _ _ _, World.ownsRow_nil _ _ _ _, RowsOwn.nil _ _ _, (by intro g hg; cases hg), by simp⟩, Lib.hid (blk_al (alloc_blk w _ _) _), Lib.hid x2, Lib.hid (bt (bl_al w _) (bl_al _ _)), by simp⟩
  have hp := okT_parts ho
  have HOK := Lib.hid ho
  have h := Lib.hid h
  clear B1 KT H1 hA p0 p1 p2 p3 pf0 pf1 pf2 pf3 lp ho
  obtain ⟨n, hn⟩ : ∃ n, T.ns.length = n := ⟨_, rfl⟩
  obtain ⟨m, hm⟩ : ∃ n, T.rs.length = n := ⟨_, rfl⟩
  have HRL : Hid (T.rs.length ≤ 1048576) := Lib.hid (by omega)
  have HN := Lib.hid hn
  have HM := Lib.hid hm
  have hmb : m ≤ 40 := by omega
  have hn4 : n ≤ 4 := by omega
  have HOB := Lib.hid hob
  rw [hn] at X1 h ⊢
  clear hn hm hp hob
  have p0 := cell_blk (blk_next X1.out HGS.out.bel) 0
  have pf0 := free_blk (blk_next X1.out HGS.out.bel) 0
  have p1 := cell_blk (blk_next X1.out HGS.out.bel) 1
  have pf1 := free_blk (blk_next X1.out HGS.out.bel) 1
  have p2 := cell_blk (blk_next X1.out HGS.out.bel) 2
  have pf2 := free_blk (blk_next X1.out HGS.out.bel) 2
  have p3 := cell_blk (blk_next X1.out HGS.out.bel) 3
  have pf3 := free_blk (blk_next X1.out HGS.out.bel) 3
  have lp := blk_lt (blk_next X1.out HGS.out.bel)
  go_wp2_with fail
  refine (specIn9 _ _ _ _).mono ?_
  rintro e w2 ⟨rfl, rfl⟩
  rw [hb]
  go_wp2_with fail
  go_loopg [6, 7, 8, 9, 10] n (fun g_ f_ _ _ _ _ wr => ∃ (j : Nat) (vs1 vs2 : List Value) (v1 v2 : Value), j ≤ n ∧ g_ = n - j ∧ f_ = .int .i64 j ∧ GrS WB wr (w.heap.size + 1 + 1) #[v1, v2] ⟨csU T b j, bsU T b j⟩ vs1 vs2 v1 v2)
  case atStart => exact ⟨0, [], [], _, _, Nat.zero_le _, rfl, rfl, HGS.out⟩
  case round =>
    clear p0 p1 p2 p3 pf0 pf1 pf2 pf3 lp
    obtain ⟨j, vs1, vs2, v1, v2, hj, rfl, rfl, hst⟩ := hrel
    have st := Lib.hid hst
    have y1 := blk_next X1.out hst.bel
    have HC := Lib.hid (bt HAB.out hst.bel)
    have p0 := cell_blk y1 0
    have pf0 := free_blk y1 0
    have p1 := cell_blk y1 1
    have pf1 := free_blk y1 1
    have p2 := cell_blk y1 2
    have pf2 := free_blk y1 2
    have p3 := cell_blk y1 3
    have pf3 := free_blk y1 3
    have lp := blk_lt y1
    clear y1 hst
    by_cases hlt : j < n
    · have hj1 : (j : Int) < n := by omega
      have hj0 : (0 : Int) ≤ j := by omega
      have hcv := colT_val HOK.out (f := j) (by rw [HN.out]; exact hlt)
      have KC := Lib.hid (fun W hW => specColumn T (.slice a1 n c1) (.slice a2 T.rs.length c2) (.slice a3 T.ys.length c3) (j : Int) W hW HRL.out)
      have HCS := Lib.hid (csU_succ T b j)
      have HBS := Lib.hid (bsU_succ T b j)
      generalize colT T (j : Int) = L at hcv KC HCS HBS
      have HLM : Hid (L.length = m) := Lib.hid (by rw [hcv.1, HM.out])
      clear hcv
      obtain ⟨wo, hwo⟩ : ∃ x, x = wr := ⟨_, rfl⟩
      subst hwo
      go_wp2_with fail
      refine (KC.out _ (h.out.below HC.out)).mono ?_
      rintro e w3 ⟨⟨vL, rfl, hoL⟩, B3⟩
      rw [HLM.out] at hoL
      obtain ⟨aL, cL, rfl⟩ := owns_form hoL
      have RL := Lib.hid (intRow_of_owns (by rw [HLM.out]; exact hoL) (by rw [HLM.out]; omega))
      obtain ⟨a9, c9, e9, _, hfl⟩ := intRow_form RL.out
      rw [HLM.out] at e9
      injection e9 with e91 e92 e93
      subst e91
      have HFL := Lib.hid hfl
      have HB3 := Lib.hid B3
      have KU := Lib.hid (fun u W hW => specCutsOf L b u W hW (by rw [HLM.out]; omega))
      have hcl := cutsZ_len L b
      generalize cutsZ L b = C at KU HCS HBS hcl
      clear hoL B3 hfl KC p0 p1 p2 p3 pf0 pf1 pf2 pf3 lp e92 e93
      go_wp2_with fail
      refine (KU.out _ _ RL.out).mono ?_
      rintro e w4 ⟨⟨vC, rfl, ho4⟩, B4⟩
      obtain ⟨aC, cC, rfl⟩ := owns_form ho4
      have RC := Lib.hid (intRow_of_owns ho4 (by omega))
      have hoC := Lib.hid ho4
      have HB4 := Lib.hid B4
      clear ho4 B4 KU
      have hO0 := World.ownsRow_made (e := 3) (size := 1) w4 #[] 0 (Nat.le_refl _) (by unfold maxLen; omega) (by simp)
      go_wp2_with fail
      go_loopg [9, 10] m (fun g_ r_ i_ wr => ∃ (k : Nat) (S : List Int), k ≤ m ∧ g_ = m - k ∧ i_ = .int .i64 k ∧ S = binsZ C (L.take k) ∧ wr.ownsRow w4.heap.size 3 1 r_ S.length (intCells S) ∧ Below w4.heap.size w4 wr)
      case atStart => exact ⟨0, [], Nat.zero_le _, rfl, rfl, rfl, hO0, bl_al _ _⟩
      case round =>
        clear hO0
        obtain ⟨k, S, hk, rfl, rfl, hS, hown, hB⟩ := hrel
        have HS := Lib.hid hS
        have hSl : S.length = k := by rw [hS, binsZ, List.length_map, List.length_take, HLM.out]; omega
        clear hS
        by_cases hkm : k < m
        · have hk1 : (k : Int) < m := by omega
          have hk0 : (0 : Int) ≤ k := by omega
          obtain ⟨z, hz⟩ : ∃ z, L[k]? = some z := ⟨_, List.getElem?_eq_getElem (by rw [HLM.out]; exact hkm)⟩
          obtain ⟨b9, o9, hal, hcz⟩ := HFL.out k z hz
          subst hal
          have hc1 := ((bt HB4.out hB).cell (p := ⟨b9, o9 + k, none⟩) (World.block_lt_of_cell? w3 _ hcz)).trans hcz
          have HZ := Lib.hid (binsZ_succ (C := C) hz)
          clear hz hcz
          go_wp2_with fail
          refine (specBinOf C z _ _ (RC.out.below hB)).mono ?_
          rintro e w5 ⟨rfl, B5⟩
          have hown5 := owns_bl hown B5
          have hB5 := bt hB B5
          generalize ((binZ C z : Nat) : Int) = bz at HZ ⊢
          go_wp2_with (at_builtin; refine wpList_append_own _ rfl _ _ 24 rfl w4.heap.size 3 iI (.int .i64 0) 1 8 Try.underlying24 hi hz0 hz1 hz2 rfl (by decide) _ _ _ rfl (hown5.alloc (.cells #[.int .i64 bz] 3)) ⟨w5.heap.size, 0, none⟩ 1 1 [.int .i64 bz] rfl rfl news_one (by intro y hy; simp at hy; subst hy; rfl) ?a1 ?b1 ?c1 ?_)
          case a1 => unfold maxLen; omega
          case b1 => omega
          case c1 => have := hB5.size; simp; omega
          intro v' w7 hown1 hg1 _
          have hR := Lib.hid (int_row9 (s := S) (z := bz) (by rw [hSl]; exact hown1))
          have hBB := Lib.hid ((hB5.alloc hB5.size (.cells #[.int .i64 bz] 3)).grown hg1 (by have := hB5.size; simp; omega) (fun q hq => (hown5.lt q hq).1))
          clear hown1 hg1 hown hown5 hB hB5 B5
          go_wp2_with fail
          go_roundg (m - (k + 1))
          case measure => omega
          case rel => exact ⟨k + 1, S ++ [bz], by omega, rfl, by go_num, by rw [HZ.out, HS.out], hR.out, hBB.out⟩
        · have hk1 : ¬ (k : Int) < m := by omega
          rw [hSl] at hown
          obtain ⟨aS, cS, rfl⟩ := owns_form hown
          have HSS : Hid (S = binsZ C L) := Lib.hid (by rw [HS.out, List.take_of_length_le (by rw [HLM.out]; omega)])
          have hBo := bt HB3.out (bt HB4.out hB)
          have sx := st.out.next hBo
          have hoC2 := owns_bl hoC.out hB
          have d0 := cell_blk sx.box 0
          have d1 := cell_blk sx.box 1
          have f0 := free_blk sx.box 0
          have f1 := free_blk sx.box 1
          have ld := blk_lt sx.box
          have HJ1 : Hid ((csU T b j).length = j) := Lib.hid (by simp [csU])
          have HJ2 : Hid ((bsU T b j).length = j) := Lib.hid (by simp [bsU])
          have S1 := Lib.hid (sx.next (bl_al wr (.cells #[.slice aC C.length cC] 24)))
          have hW3 : WB.heap.size ≤ w3.heap.size := Nat.le_trans st.out.bel.size HB3.out.size
          have hW4 : WB.heap.size ≤ w4.heap.size := Nat.le_trans hW3 HB4.out.size
          have hwo : wo.heap.size ≤ w4.heap.size := Nat.le_trans HB3.out.size HB4.out.size
          have hvC := Lib.hid ((World.ownsRow.mono hoC2 hW3).alloc (.cells #[.slice aC C.length cC] 24))
          have hvS := Lib.hid ((World.ownsRow.mono hown hW4).alloc (.cells #[.slice aC C.length cC] 24))
          have hSg : ∀ g, (Value.slice aS k cS).ownBlock = some g → wo.heap.size ≤ g := fun g hg => Nat.le_trans hwo (hown.lt g hg).1
          have hCg : ∀ g, (Value.slice aC C.length cC).ownBlock = some g → wo.heap.size ≤ g := fun g hg => Nat.le_trans HB3.out.size (hoC.out.lt g hg).1
          have HSG := Lib.hid hSg
          have HCG := Lib.hid hCg
          have hsz := hBo.size
          have hszs := st.out.bel.size
          clear hoC2 hown hB hBo sx hSg hCg
          go_wp2_with (at_builtin; refine wpList_append_own_at _ rfl _ _ 32 rfl WB.heap.size 24 iL (.slice none 0 0) 1 24 Try.underlying32 gi gz0 gz1 gz2 rfl (by decide) _ (csU T b j).length _ rfl S1.out.o1 ⟨wr.heap.size, 0, none⟩ 1 1 [.slice aC C.length cC] rfl rfl news_one (by intro y hy; simp at hy; subst hy; rfl) ?a4 ?b4 ?c4 ?_)
          case a4 => have := HJ1.out; unfold maxLen; omega
          case b4 => have := HJ1.out; omega
          case c4 => first | omega | (simp; omega)
          intro v6 w6 hown6 hg6 _ hat6
          have P6 := Lib.hid (S1.out.pushC (lo := wo.heap.size) (r := C) hvC.out (fun jj x g hx hg => (st.out.r1.lt hx hg).2) HCG.out hg6 hown6 (hat6.imp id (fun e g hg => by rw [e] at hg; injection hg with hg; first | exact Nat.le_of_eq hg | (subst hg; simp))))
          have S6 := Lib.hid (owns_keep hvS.out S1.out.o1 (by decide) hg6)
          obtain ⟨a6, c6, rfl⟩ := owns_form hown6
          clear hown6 hg6 hat6 d0 d1 f0 f1 ld hvC hvS
          have d0 := cell_blk P6.out.box 0
          have d1 := cell_blk P6.out.box 1
          have f0 := free_blk P6.out.box 0
          have f1 := free_blk P6.out.box 1
          have ld := blk_lt P6.out.box
          have P7 := Lib.hid (P6.out.set 0 (.slice a6 ((csU T b j).length + 1) c6))
          have S7 := Lib.hid (ownsRow_setCell_other (a := ⟨w.heap.size + 1 + 1, 0, none⟩) S6.out (own_ne_blk S6.out P6.out.box (by decide)) (.slice a6 ((csU T b j).length + 1) c6))
          have P8 := Lib.hid (P7.out.next (bl_al _ (.cells #[.slice aS k cS] 24)))
          have hnew := @news_one (w6.setCell ⟨w.heap.size + 1 + 1, 0, none⟩ (.slice a6 ((csU T b j).length + 1) c6)) 24 (.slice aS k cS)
          rw [show (w6.setCell ⟨w.heap.size + 1 + 1, 0, none⟩ (.slice a6 ((csU T b j).length + 1) c6)).heap.size = w6.heap.size by simp] at hnew
          have HNEW := Lib.hid hnew
          clear hnew
          have S8 := Lib.hid (S7.out.alloc (.cells #[.slice aS k cS] 24))
          go_wp2_with (at_builtin; refine wpList_append_own_at _ rfl _ _ 32 rfl WB.heap.size 24 iL (.slice none 0 0) 1 24 Try.underlying32 gi gz0 gz1 gz2 rfl (by decide) _ (bsU T b j).length _ rfl P8.out.o2 ⟨w6.heap.size, 0, none⟩ 1 1 [.slice aS k cS] rfl rfl HNEW.out (by intro y hy; simp at hy; subst hy; rfl) ?a5 ?b5 ?c5 ?_)
          case a5 => have := HJ2.out; unfold maxLen; omega
          case b5 => have := HJ2.out; omega
          case c5 => have := P8.out.bel.size; simpa using this
          intro v8 w8 hown8 hg8 _ hat8
          have P9 := Lib.hid (P8.out.pushB (lo := wo.heap.size) (r := S) (by rw [hSl]; exact S8.out) (fun jj x g hx hg => (st.out.r2.lt hx hg).2) HSG.out hg8 hown8 (hat8.imp id (fun e g hg => by rw [e] at hg; injection hg with hg; first | exact Nat.le_of_eq hg | (subst hg; simp))))
          obtain ⟨a8, c8, rfl⟩ := owns_form hown8
          clear hown8 hg8 hat8 d0 d1 f0 f1 ld
          have d0 := cell_blk P9.out.box 0
          have d1 := cell_blk P9.out.box 1
          have f0 := free_blk P9.out.box 0
          have f1 := free_blk P9.out.box 1
          have ld := blk_lt P9.out.box
          have P10 := Lib.hid (P9.out.set 1 (.slice a8 ((bsU T b j).length + 1) c8))
          go_wp2_with fail
          go_roundg (n - (j + 1))
          case measure => omega
          case rel => exact ⟨j + 1, _, _, _, _, by omega, rfl, by go_num, by rw [HCS.out, HBS.out, ← HSS.out]; exact P10.out⟩
    · have hj1 : ¬ (j : Int) < n := by omega
      obtain ⟨x1, z1, e1⟩ := owns_form st.out.o1
      obtain ⟨x2, z2, e2⟩ := owns_form st.out.o2
      subst e1
      subst e2
      have hje : j = n := by omega
      have y2 := blk_next X2.out st.out.bel
      have d0 := cell_blk st.out.box 0
      have d1 := cell_blk st.out.box 1
      have ld := blk_lt st.out.box
      have r0 := cell_blk y2 0
      have r1 := cell_blk y2 1
      have g0 := free_blk y2 0
      have g1 := free_blk y2 1
      have lr := blk_lt y2
      have t0 := heap_setCell_same _ _ 0 _ _ (.slice x1 (csU T b j).length z1) y2
      have Z1 := Lib.hid (((st.out.own.1.low HAB.out.size).setBox y2 (by decide) (by decide) 0 (.slice x1 (csU T b j).length z1)).setBox t0 (by decide) (by decide) 1 (.slice x2 (bsU T b j).length z2))
      have Z2 := Lib.hid (((st.out.own.2.low HAB.out.size).setBox y2 (by decide) (by decide) 0 (.slice x1 (csU T b j).length z1)).setBox t0 (by decide) (by decide) 1 (.slice x2 (bsU T b j).length z2))
      have HC6 := Lib.hid ((HC.out.setCell (p := ⟨w.heap.size + 1, 0, none⟩) (by simp) (.slice x1 (csU T b j).length z1)).setCell (p := ⟨w.heap.size + 1, 1, none⟩) (by simp) (.slice x2 (bsU T b j).length z2))
      have HNN : Hid (csU T b T.ns.length = csU T b j ∧ bsU T b T.ns.length = bsU T b j) := Lib.hid (by rw [HN.out, hje]; exact ⟨rfl, rfl⟩)
      clear y2 t0 hje
      go_wp2_with fail
      refine bodyPost_ret (v := .agg #[.slice x1 (csU T b j).length z1, .slice x2 (bsU T b j).length z2]) ?_ rfl ⟨⟨_, _, rfl, by rw [HNN.out.1, HNN.out.2]; exact ⟨Z1.out, Z2.out⟩⟩, HC6.out⟩
      rw [res_one rfl]
      go_simp
end Go.Proofs.Ytgknkjiifcnkpaa
