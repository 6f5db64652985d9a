/-
  The grid of a table, the program's way.
-/
import Derived.Test.YtgknkjiifcnkpaaI11D
import Derived.Test.YtgknkjiifcnkpaaPk1
import Derived.Test.YtgknkjiifcnkpaaLawJ11
namespace Go.Proofs.Ytgknkjiifcnkpaa
open Go.RowKit

set_option maxRecDepth 100000 in
set_option maxHeartbeats 8000000 in
/-- THE GRID OF A TABLE. -/
theorem implGridOf_ok (T : Tab) (b : Int) (u1 u2 u3 : Value) (w : World) (h : TabRow w T u1 u2 u3) (hpre : PreTb T) (ho : okT T = true) (hb : inZ b 2 8 = true) :
    Calls Try.prog 21 #[.agg #[u1, .string ⟨T.y.toArray⟩, u2, u3], .int .i64 b] w fun e w' => (∃ v1 v2, e = .returned (.agg #[v1, v2]) ∧ OwnGr (Iv w.heap.size w'.heap.size) w' v1 v2 (gridZ T b)) ∧ Below w.heap.size w w' := by
  obtain ⟨iL, gi, gz0, gz1, gz2⟩ := info_parts infoSlI
  have hgz : gridZ T b = ⟨csU T b T.ns.length, bsU T b T.ns.length⟩ := if_pos ⟨ho, hb⟩
  rw [hgz]
  clear hgz
  obtain ⟨a1, c1, a2, c2, a3, c3, rfl, rfl, rfl⟩ := h.form
  have hA := bt (bl_al w (.cells #[.slice a1 T.ns.length c1, .string ⟨T.y.toArray⟩, .slice a2 T.rs.length c2, .slice a3 T.ys.length c3] 34)) (bl_al (w.alloc (.cells #[.slice a1 T.ns.length c1, .string ⟨T.y.toArray⟩, .slice a2 T.rs.length c2, .slice a3 T.ys.length c3] 34)) (.cells #[.slice none 0 0, .slice none 0 0] 38))
  have x1 := blk_al (alloc_blk w #[.slice a1 T.ns.length c1, .string ⟨T.y.toArray⟩, .slice a2 T.rs.length c2, .slice a3 T.ys.length c3] 34) (.cells #[.slice none 0 0, .slice none 0 0] 38)
  have x2 := alloc_blk (w.alloc (.cells #[.slice a1 T.ns.length c1, .string ⟨T.y.toArray⟩, .slice a2 T.rs.length c2, .slice a3 T.ys.length c3] 34)) #[.slice none 0 0, .slice none 0 0] 38
  rw [sz_alloc] at x2
  have H1 := h.below hA
  have X1 := Lib.hid x1
  have X2 := Lib.hid x2
  have HA := Lib.hid hA
  have p0 := cell_blk x1 0
  have pf0 := free_blk x1 0
  have p1 := cell_blk x1 1
  have pf1 := free_blk x1 1
  have p2 := cell_blk x1 2
  have pf2 := free_blk x1 2
  have p3 := cell_blk x1 3
  have pf3 := free_blk x1 3
  have lp := blk_lt x1
  clear x1 x2 hA
  have KT := Lib.hid (fun W (hW : TabRow W T (.slice a1 T.ns.length c1) (.slice a2 T.rs.length c2) (.slice a3 T.ys.length c3)) => by have := implTabOk9 T _ _ _ W hW hpre.1 hpre.2.2.2.2.1 hpre.2.2.2.2.2; rwa [ho] at this)
  go_enter Try.func21, Try.ntmps21
  go_wp2_with fail
  refine (KT.out _ H1).mono ?_
  rintro e w1 ⟨rfl, B1⟩
  have y1 := blk_next X1.out B1
  have Y2 := Lib.hid (blk_next X2.out B1)
  have HC1 := Lib.hid (bt HA.out B1)
  clear p0 p1 p2 p3 pf0 pf1 pf2 pf3 lp H1 B1 X1 X2 HA KT
  have p0 := cell_blk y1 0
  have pf0 := free_blk y1 0
  have p1 := cell_blk y1 1
  have pf1 := free_blk y1 1
  have p2 := cell_blk y1 2
  have pf2 := free_blk y1 2
  have p3 := cell_blk y1 3
  have pf3 := free_blk y1 3
  have lp := blk_lt y1
  have Y1 := Lib.hid y1
  clear y1
  have hp := okT_parts ho
  have HOK := Lib.hid ho
  have h0 := Lib.hid h
  obtain ⟨n, hn⟩ : ∃ n, T.ns.length = n := ⟨_, rfl⟩
  obtain ⟨m, hm⟩ : ∃ n, T.rs.length = n := ⟨_, rfl⟩
  have HRL : Hid (T.rs.length ≤ 1048576) := Lib.hid (by omega)
  have HN := Lib.hid hn
  have HM := Lib.hid hm
  have hmb : m ≤ 40 := by omega
  have hn4 : n ≤ 4 := by omega
  rw [hn] at p0 Y1 h0 ⊢
  clear hn hm hp h ho hpre
  have HG0 : Hid (GrS w1 (w1.alloc (.cells #[.slice none 0 0, .slice none 0 0] 38)) w1.heap.size #[.slice none 0 0, .slice none 0 0] ⟨csU T b 0, bsU T b 0⟩ [] [] (.slice none 0 0) (.slice none 0 0)) :=
    Lib.hid ⟨bl_al _ _, alloc_blk _ _ _, World.ownsRow_nil _ _ _ _, RowsOwn.nil _ _ _, World.ownsRow_nil _ _ _ _, RowsOwn.nil _ _ _, (by intro g hg; cases hg), Nat.le_refl _⟩
  go_wp2_with fail
  refine (inRange9 _ _ _ _).mono ?_
  rintro e w2 ⟨rfl, rfl⟩
  rw [hb]
  go_wp2_with fail
  obtain ⟨WB, hWB⟩ : ∃ x, x = w1 := ⟨_, rfl⟩
  obtain ⟨ob, hob⟩ : ∃ x, x = w1.heap.size := ⟨_, rfl⟩
  rw [← hob]
  rw [← hob] at HG0
  rw [← hWB] at HG0 Y1 Y2 HC1
  have HWB := Lib.hid hWB
  clear hWB hob
  go_loopg [6, 7, 8, 22] n (fun g_ _ _ _ f_ wr => ∃ (j : Nat) (vs1 vs2 : List Value) (v1 v2 : Value), j ≤ n ∧ g_ = n - j ∧ f_ = .int .i64 j ∧ ApR vs1 vs2 ∧ GrS WB wr ob #[v1, v2] ⟨csU T b j, bsU T b j⟩ vs1 vs2 v1 v2)
  case atStart => exact ⟨0, [], [], _, _, Nat.zero_le _, rfl, rfl, (by intro x hx; cases hx), by rw [← HWB.out]; exact HG0.out⟩
  case round =>
    clear p0 p1 p2 p3 pf0 pf1 pf2 pf3 lp HG0
    obtain ⟨j, vs1, vs2, v1, v2, hj, rfl, rfl, hap, hst⟩ := hrel
    have HAP := Lib.hid hap
    have st := Lib.hid hst
    have y1 := blk_next Y1.out hst.bel
    have HC := Lib.hid (bt HC1.out hst.bel)
    have p0 := cell_blk y1 0
    have pf0 := free_blk y1 0
    have p1 := cell_blk y1 1
    have pf1 := free_blk y1 1
    have p2 := cell_blk y1 2
    have pf2 := free_blk y1 2
    have p3 := cell_blk y1 3
    have pf3 := free_blk y1 3
    have lp := blk_lt y1
    clear y1 hst hap
    have HJ1 : Hid ((csU T b j).length = j) := Lib.hid (by simp [csU])
    have HJ2 : Hid ((bsU T b j).length = j) := Lib.hid (by simp [bsU])
    obtain ⟨x1, z1, e1⟩ := owns_form st.out.o1
    obtain ⟨x2, z2, e2⟩ := owns_form st.out.o2
    have hl1 : (⟨csU T b j, bsU T b j⟩ : Grd).cs.length = j := HJ1.out
    have hl2 : (⟨csU T b j, bsU T b j⟩ : Grd).bs.length = j := HJ2.out
    rw [hl1] at e1
    rw [hl2] at e2
    subst e1
    subst e2
    clear hl1 hl2
    by_cases hlt : j < n
    · have hj1 : (j : Int) < n := by omega
      have hj0 : (0 : Int) ≤ j := by omega
      have hcv := colT_val HOK.out (f := j) (by rw [HN.out]; exact hlt)
      have KC := Lib.hid (fun W hW => implColumn T (.slice a1 n c1) (.slice a2 T.rs.length c2) (.slice a3 T.ys.length c3) (j : Int) W hW HRL.out)
      have HCS := Lib.hid (csU_succ T b j)
      have HBS := Lib.hid (bsU_succ T b j)
      generalize colT T (j : Int) = L at hcv KC HCS HBS
      obtain ⟨lL, hlL⟩ : ∃ l, L.length = l := ⟨_, rfl⟩
      have hlLm : lL ≤ 40 := by have := hcv.1; have := HM.out; omega
      have HLL := Lib.hid hlL
      have KU := Lib.hid (fun u W hW => implCutsOf L b u W hW (by rw [HLL.out]; omega))
      have hcl := cutsZ_len L b
      generalize cutsZ L b = C at KU HCS HBS hcl
      obtain ⟨lC, hlC⟩ : ∃ l, C.length = l := ⟨_, rfl⟩
      have HCL := Lib.hid hlC
      rw [hlC] at hcl
      clear hcv hlL hlC
      obtain ⟨wo, hwo⟩ : ∃ x, x = wr := ⟨_, rfl⟩
      subst hwo
      go_wp2_with fail
      refine (KC.out _ (h0.out.below HC.out)).mono ?_
      rintro e w3 ⟨⟨vL, rfl, hoL⟩, B3⟩
      rw [HLL.out] at hoL
      obtain ⟨aL, cL, rfl⟩ := owns_form hoL
      have RL := Lib.hid (intRow_of_owns (by rw [HLL.out]; exact hoL) (by rw [HLL.out]; omega))
      have OL := Lib.hid hoL
      have HB3 := Lib.hid B3
      clear hoL B3 KC p0 p1 p2 p3 pf0 pf1 pf2 pf3 lp
      go_wp2_with fail
      refine (KU.out _ _ RL.out).mono ?_
      rintro e w4 ⟨⟨vC, rfl, ho4⟩, B4⟩
      rw [HCL.out] at ho4
      obtain ⟨aC, cC, rfl⟩ := owns_form ho4
      have hW3 : WB.heap.size ≤ w3.heap.size := Nat.le_trans st.out.bel.size HB3.out.size
      have hwo3 : wo.heap.size ≤ w3.heap.size := HB3.out.size
      have hWo : WB.heap.size ≤ wo.heap.size := st.out.bel.size
      have BD := (bt HB3.out B4).drew
      have SD := Lib.hid (st.out.next BD)
      have hdz : w4.drew.heap.size = w4.heap.size := rfl
      have HCG : Hid (∀ g, (Value.slice aC lC cC).ownBlock = some g → wo.heap.size ≤ g ∧ g < w4.drew.heap.size) := Lib.hid (fun g hg => ⟨Nat.le_trans hwo3 (ho4.lt g hg).1, (ho4.lt g hg).2⟩)
      have CD := Lib.hid (owns_bl (World.ownsRow.mono ho4 hW3) ((Below.refl w4.heap.size w4).drew))
      have LD := Lib.hid (owns_bl (World.ownsRow.mono OL.out hWo) (B4.drew))
      have hszd : wo.heap.size ≤ w4.drew.heap.size := BD.size
      have HD : Hid ((fun w' : World => w'.cell? ⟨ob, 0, none⟩ = some (Value.slice x1 j z1) ∧ w'.cell? ⟨ob, 1, none⟩ = some (Value.slice x2 j z2)) w4.drew) := Lib.hid ⟨cell_blk SD.out.box 0, cell_blk SD.out.box 1⟩
      have H1L : Hid (∀ (jj : Nat) x g, vs1[jj]? = some x → x.ownBlock = some g → g < wo.heap.size) := Lib.hid (fun _ _ _ hx hg => (st.out.r1.lt hx hg).2)
      have H2L : Hid (∀ (jj : Nat) x g, vs2[jj]? = some x → x.ownBlock = some g → g < wo.heap.size) := Lib.hid (fun _ _ _ hx hg => (st.out.r2.lt hx hg).2)
      clear ho4 B4 KU BD hdz OL RL
      go_wp2_with fail
      refine wp_region_noPanic ?_
      refine wp_region_C (C := (fun w' : World => w'.cell? ⟨ob, 0, none⟩ = some (Value.slice x1 j z1) ∧ w'.cell? ⟨ob, 1, none⟩ = some (Value.slice x2 j z2))) (st := 13) (by kernel_rfl) HD.out (fun hHeld => ?_)
      generalize w4.drew = wd at *
      refine wpAnyC_takeU (i := 0) (oi := ?o1) (v := ?v1) ?hi1 ?hs1 ?hf1 ?hr1 ?hQ1 ?hne1 ?hy1 ?hC1 ?rest1
      case hi1 => rfl
      case hs1 => kernel_rfl
      case hf1 => kernel_rfl
      case hr1 => kernel_rfl
      case hQ1 => exact fun _ _ _ h => h
      case hne1 => rfl
      case hC1 => exact fun _ => by assumption
      case hy1 =>
        refine Or.inl ⟨by kernel_rfl, ?_⟩
        intro w' _
        go_simp
        (try rfl)
      (try simp only [List.getElem_toArray, List.getElem_cons_zero, Act.put, List.setIfInBounds_toArray, List.set_cons_zero, List.set_cons_succ])
      refine wpAnyC_takeU (i := 2) (oi := ?o2) (v := ?v2) ?hi2 ?hs2 ?hf2 ?hr2 ?hQ2 ?hne2 ?hy2 ?hC2 ?rest2
      case hi2 => rfl
      case hs2 => kernel_rfl
      case hf2 => kernel_rfl
      case hr2 => kernel_rfl
      case hQ2 => exact fun _ _ _ h => h
      case hne2 => rfl
      case hC2 => exact fun _ => by assumption
      case hy2 =>
        refine Or.inl ⟨by kernel_rfl, ?_⟩
        intro w' _
        go_simp
        (try rfl)
      (try simp only [List.getElem_toArray, List.getElem_cons_succ, List.getElem_cons_zero, Act.put, List.setIfInBounds_toArray, List.set_cons_zero, List.set_cons_succ])
      refine wpAnyC_takeU (i := 5) (oi := ?o3) (v := ?v3) ?hi3 ?hs3 ?hf3 ?hr3 ?hQ3 ?hne3 ?hy3 ?hC3 ?rest3
      case hi3 => rfl
      case hs3 => kernel_rfl
      case hf3 => kernel_rfl
      case hr3 => kernel_rfl
      case hQ3 => exact fun _ _ _ h => h
      case hne3 => rfl
      case hC3 => exact fun _ => by assumption
      case hy3 =>
        refine Or.inl ⟨by kernel_rfl, ?_⟩
        intro w' _
        go_simp
        (try rfl)
      (try simp only [List.getElem_toArray, List.getElem_cons_succ, List.getElem_cons_zero, Act.put, List.setIfInBounds_toArray, List.set_cons_zero, List.set_cons_succ])
      refine wpAnyC_takeU (i := 7) (oi := ?o4) (v := ?v4) ?hi4 ?hs4 ?hf4 ?hr4 ?hQ4 ?hne4 ?hy4 ?hC4 ?rest4
      case hi4 => rfl
      case hs4 => kernel_rfl
      case hf4 => kernel_rfl
      case hr4 => kernel_rfl
      case hQ4 => exact fun _ _ _ h => h
      case hne4 => rfl
      case hC4 => exact fun _ => by assumption
      case hy4 =>
        refine Or.inl ⟨by kernel_rfl, ?_⟩
        intro w' _
        go_simp
        (try rfl)
      (try simp only [List.getElem_toArray, List.getElem_cons_succ, List.getElem_cons_zero, Act.put, List.setIfInBounds_toArray, List.set_cons_zero, List.set_cons_succ])
      refine wpAnyC_takeU (i := 8) (oi := ?o5) (v := ?v5) ?hi5 ?hs5 ?hf5 ?hr5 ?hQ5 ?hne5 ?hy5 ?hC5 ?rest5
      case hi5 => rfl
      case hs5 => kernel_rfl
      case hf5 => kernel_rfl
      case hr5 => kernel_rfl
      case hQ5 => exact fun _ _ _ h => h
      case hne5 => rfl
      case hC5 => exact fun _ => by assumption
      case hy5 =>
        refine Or.inl ⟨by kernel_rfl, ?_⟩
        intro w' _
        go_simp
        (try rfl)
      (try simp only [List.getElem_toArray, List.getElem_cons_succ, List.getElem_cons_zero, Act.put, List.setIfInBounds_toArray, List.set_cons_zero, List.set_cons_succ])
      refine wpAnyC_take (i := 1) (oi := ?o6) (v := ?v6) ?hi6 ?hs6 ?hf6 ?hr6 ?hQ6 ?hne6 ?hun6 ?hst6 ?hy6 ?hC6 ?rest6
      case hi6 => rfl
      case hs6 => kernel_rfl
      case hf6 => kernel_rfl
      case hr6 => kernel_rfl
      case hQ6 => exact fun _ _ _ h => h
      case hne6 => rfl
      case hun6 => kernel_rfl
      case hst6 => kernel_rfl
      case hC6 => assumption
      case hy6 =>
        refine Or.inl ⟨by kernel_rfl, ?_⟩
        intro w' hSw
        (try dsimp only at hSw)
        go_simp
        (try rfl)
      (try simp only [List.getElem_toArray, List.getElem_cons_succ, List.getElem_cons_zero, Act.put, List.setIfInBounds_toArray, List.set_cons_zero, List.set_cons_succ])
      refine wpAnyC_take (i := 6) (oi := ?o7) (v := ?v7) ?hi7 ?hs7 ?hf7 ?hr7 ?hQ7 ?hne7 ?hun7 ?hst7 ?hy7 ?hC7 ?rest7
      case hi7 => rfl
      case hs7 => kernel_rfl
      case hf7 => kernel_rfl
      case hr7 => kernel_rfl
      case hQ7 => exact fun _ _ _ h => h
      case hne7 => rfl
      case hun7 => kernel_rfl
      case hst7 => kernel_rfl
      case hC7 => assumption
      case hy7 =>
        refine Or.inl ⟨by kernel_rfl, ?_⟩
        intro w' hSw
        (try dsimp only at hSw)
        go_simp
        (try rfl)
      (try simp only [List.getElem_toArray, List.getElem_cons_succ, List.getElem_cons_zero, Act.put, List.setIfInBounds_toArray, List.set_cons_zero, List.set_cons_succ])
      have S5 := Lib.hid (SD.out.next (bl_al wd (.cells #[.slice aC lC cC] 24)))
      have C5 := Lib.hid (CD.out.alloc (.cells #[.slice aC lC cC] 24))
      have L5 := Lib.hid (LD.out.alloc (.cells #[.slice aC lC cC] 24))
      have hsz5 : (wd.alloc (.cells #[.slice aC lC cC] 24)).heap.size = wd.heap.size + 1 := sz_alloc _ _
      have hW5 : WB.heap.size ≤ wd.heap.size := SD.out.bel.size
      refine wpAnyC_step (i := 3) (by kernel_rfl) rfl (fun K hK => ?_)
      go_simp
      have hHeld' : (fun w' : World => w'.cell? ⟨ob, 0, none⟩ = some (Value.slice x1 j z1) ∧ w'.cell? ⟨ob, 1, none⟩ = some (Value.slice x2 j z2)) _ := ⟨cell_blk S5.out.box 0, cell_blk S5.out.box 1⟩
      refine hK.out _ _ (fun _ => hHeld') ?_
      clear hK K hHeld
      have hHeld := hHeld'
      clear hHeld'
      (try simp only [List.getElem_toArray, List.getElem_cons_succ, List.getElem_cons_zero, Act.put, List.setIfInBounds_toArray, List.set_cons_zero, List.set_cons_succ])
      refine wpAnyC_step (i := 4) (by kernel_rfl) rfl (fun K hK => ?_)
      refine step_append_at rfl (.tmp 32) (.tmp 34) 32 rfl WB.heap.size 24 iL (.slice none 0 0) 1 24 Try.underlying32 gi gz0 gz1 gz2 rfl (by decide) (.slice x1 j z1) (csU T b j).length vs1 (by simp [Act.eval]) S5.out.o1 ⟨wd.heap.size, 0, none⟩ 1 1 [.slice aC lC cC] (by simp [Act.eval]) rfl news_one (by intro y hy; simp at hy; subst hy; rfl) (by rw [HJ1.out]; unfold maxLen; omega) (by rw [HJ1.out]; omega) (by rw [hsz5]; omega) ?_
      intro v6 w6 hown6 hg6 hat6
      have P6 := Lib.hid (S5.out.pushC (lo := wo.heap.size) (r := C) (by rw [HCL.out]; exact C5.out) H1L.out (fun g hg => (HCG.out g hg).1) hg6 hown6 (hat6.imp id (fun e g hg => by rw [e] at hg; injection hg with hg; exact Nat.le_of_eq hg)))
      have C6 := Lib.hid (owns_keep C5.out S5.out.o1 (by decide) hg6)
      have L6 := Lib.hid (owns_keep L5.out S5.out.o1 (by decide) hg6)
      have hsz6 : wd.heap.size + 1 ≤ w6.heap.size := by have := hg6.size; rw [hsz5] at this; exact this
      obtain ⟨a6, c6, rfl⟩ := owns_form hown6
      clear hown6 hg6 hat6
      have hHeld' : (fun w' : World => w'.cell? ⟨ob, 0, none⟩ = some (Value.slice x1 j z1) ∧ w'.cell? ⟨ob, 1, none⟩ = some (Value.slice x2 j z2)) _ := ⟨cell_blk P6.out.box 0, cell_blk P6.out.box 1⟩
      refine hK.out _ _ (fun _ => hHeld') ?_
      clear hK K hHeld
      have hHeld := hHeld'
      clear hHeld'
      (try simp only [List.getElem_toArray, List.getElem_cons_succ, List.getElem_cons_zero, Act.put, List.setIfInBounds_toArray, List.set_cons_zero, List.set_cons_succ])
      refine wpAnyC_takeU (i := 12) (oi := ?o8) (v := ?v8) ?hi8 ?hs8 ?hf8 ?hr8 ?hQ8 ?hne8 ?hy8 ?hC8 ?rest8
      case hi8 => rfl
      case hs8 => kernel_rfl
      case hf8 => kernel_rfl
      case hr8 => kernel_rfl
      case hQ8 => exact fun _ _ _ h => h
      case hne8 => rfl
      case hC8 => exact fun _ => by assumption
      case hy8 =>
        refine Or.inl ⟨by kernel_rfl, ?_⟩
        intro w' _
        go_simp
        (try rfl)
      (try simp only [List.getElem_toArray, List.getElem_cons_succ, List.getElem_cons_zero, Act.put, List.setIfInBounds_toArray, List.set_cons_zero, List.set_cons_succ])
      refine wpAnyC_step (i := 9) (by kernel_rfl) rfl (fun K hK => ?_)
      go_simp
      refine (binsOf9 C L (.slice aC lC cC) (.slice aL lL cL) w6 (by rw [← HCL.out]; exact intRow_of_owns (by rw [HCL.out]; exact C6.out) (by rw [HCL.out]; omega)) (by rw [← HLL.out]; exact intRow_of_owns (by rw [HLL.out]; exact L6.out) (by rw [HLL.out]; omega)) (by rw [HCL.out]; omega) (by rw [HLL.out]; omega)).mono ?_
      rintro e w7 ⟨⟨vS, rfl, hoS⟩, B7⟩
      obtain ⟨aS, cS, rfl⟩ := owns_form hoS
      have P7 := Lib.hid (P6.out.next B7)
      have hSg : ∀ g, (Value.slice aS (binsZ C L).length cS).ownBlock = some g → w6.heap.size ≤ g := fun g hg => (hoS.lt g hg).1
      have HSG := Lib.hid hSg
      have O7 := Lib.hid (World.ownsRow.mono hoS (show WB.heap.size ≤ w6.heap.size by omega))
      clear hoS B7 hSg
      have hHeld' : (fun w' : World => w'.cell? ⟨ob, 0, none⟩ = some (Value.slice x1 j z1) ∧ w'.cell? ⟨ob, 1, none⟩ = some (Value.slice x2 j z2)) _ := ⟨cell_blk P7.out.box 0, cell_blk P7.out.box 1⟩
      refine hK.out _ _ (fun _ => hHeld') ?_
      clear hK K hHeld
      have hHeld := hHeld'
      clear hHeld'
      (try simp only [List.getElem_toArray, List.getElem_cons_succ, List.getElem_cons_zero, Act.put, List.setIfInBounds_toArray, List.set_cons_zero, List.set_cons_succ])
      have P8 := Lib.hid (P7.out.next (bl_al w7 (.cells #[.slice aS (binsZ C L).length cS] 24)))
      have O8 := Lib.hid (O7.out.alloc (.cells #[.slice aS (binsZ C L).length cS] 24))
      refine wpAnyC_step (i := 10) (by kernel_rfl) rfl (fun K hK => ?_)
      go_simp
      have hHeld' : (fun w' : World => w'.cell? ⟨ob, 0, none⟩ = some (Value.slice x1 j z1) ∧ w'.cell? ⟨ob, 1, none⟩ = some (Value.slice x2 j z2)) _ := ⟨cell_blk P8.out.box 0, cell_blk P8.out.box 1⟩
      refine hK.out _ _ (fun _ => hHeld') ?_
      clear hK K hHeld
      have hHeld := hHeld'
      clear hHeld'
      (try simp only [List.getElem_toArray, List.getElem_cons_succ, List.getElem_cons_zero, Act.put, List.setIfInBounds_toArray, List.set_cons_zero, List.set_cons_succ])
      refine wpAnyC_step (i := 11) (by kernel_rfl) rfl (fun K hK => ?_)
      refine step_append_at rfl (.tmp 37) (.tmp 41) 32 rfl WB.heap.size 24 iL (.slice none 0 0) 1 24 Try.underlying32 gi gz0 gz1 gz2 rfl (by decide) (.slice x2 j z2) (bsU T b j).length vs2 (by simp [Act.eval]) P8.out.o2 ⟨w7.heap.size, 0, none⟩ 1 1 [.slice aS (binsZ C L).length cS] (by simp [Act.eval]) rfl news_one (by intro y hy; simp at hy; subst hy; rfl) (by rw [HJ2.out]; unfold maxLen; omega) (by rw [HJ2.out]; omega) (P8.out.bel.size) ?_
      intro v9 w9 hown9 hg9 hat9
      have P9 := Lib.hid (P8.out.pushB (lo := wo.heap.size) (r := binsZ C L) O8.out H2L.out (fun g hg => by have := HSG.out g hg; omega) hg9 hown9 (hat9.imp id (fun e g hg => by rw [e] at hg; injection hg with hg; exact Nat.le_of_eq hg)))
      have AP9 := Lib.hid (HAP.out.push (mid := wd.heap.size) H1L.out H2L.out HCG.out (fun g hg => by have := HSG.out g hg; omega))
      obtain ⟨a9, c9, rfl⟩ := owns_form hown9
      clear hown9 hg9 hat9
      have hHeld' : (fun w' : World => w'.cell? ⟨ob, 0, none⟩ = some (Value.slice x1 j z1) ∧ w'.cell? ⟨ob, 1, none⟩ = some (Value.slice x2 j z2)) _ := ⟨cell_blk P9.out.box 0, cell_blk P9.out.box 1⟩
      refine hK.out _ _ (fun _ => hHeld') ?_
      clear hK K hHeld
      have hHeld := hHeld'
      clear hHeld'
      (try simp only [List.getElem_toArray, List.getElem_cons_succ, List.getElem_cons_zero, Act.put, List.setIfInBounds_toArray, List.set_cons_zero, List.set_cons_succ])
      have d0 := cell_blk P9.out.box 0
      have d1 := cell_blk P9.out.box 1
      have f0 := free_blk P9.out.box 0
      have f1 := free_blk P9.out.box 1
      have ld := blk_lt P9.out.box
      have P10 := Lib.hid (P9.out.set 0 (.slice a6 ((csU T b j).length + 1) c6))
      refine wpAnyC_step (i := 13) (by kernel_rfl) rfl (fun K hK => ?_)
      go_simp
      refine hK.out _ _ (fun h => absurd h (by simp)) ?_
      clear hK K
      (try simp only [List.getElem_toArray, List.getElem_cons_succ, List.getElem_cons_zero, Act.put, List.setIfInBounds_toArray, List.set_cons_zero, List.set_cons_succ])
      refine wpAnyC_step (i := 14) (by kernel_rfl) rfl (fun K hK => ?_)
      go_simp
      refine hK.out _ _ (fun h => absurd h (by simp)) ?_
      clear hK K
      (try simp only [List.getElem_toArray, List.getElem_cons_succ, List.getElem_cons_zero, Act.put, List.setIfInBounds_toArray, List.set_cons_zero, List.set_cons_succ])
      clear d0 d1 f0 f1 ld
      have d0 := cell_blk P10.out.box 0
      have d1 := cell_blk P10.out.box 1
      have f0 := free_blk P10.out.box 0
      have f1 := free_blk P10.out.box 1
      have ld := blk_lt P10.out.box
      have P11 := Lib.hid (P10.out.set 1 (.slice a9 ((bsU T b j).length + 1) c9))
      refine wpAnyC_step (i := 15) (by kernel_rfl) rfl (fun K hK => ?_)
      go_simp
      refine hK.out _ _ (fun h => absurd h (by simp)) ?_
      clear hK K
      (try simp only [List.getElem_toArray, List.getElem_cons_succ, List.getElem_cons_zero, Act.put, List.setIfInBounds_toArray, List.set_cons_zero, List.set_cons_succ])
      refine wpAnyC_done (by kernel_rfl) ?_ _
      refine NoPanic.normal ?_
      go_wp2_with fail
      go_roundg (n - (j + 1))
      case measure => omega
      case rel => exact ⟨j + 1, _, _, _, _, by omega, rfl, by go_num, AP9.out, by rw [HCS.out, HBS.out]; exact P11.out⟩
    · have hj1 : ¬ (j : Int) < n := by omega
      have hje : j = n := by omega
      have y2 := blk_next Y2.out st.out.bel
      have d0 := cell_blk st.out.box 0
      have d1 := cell_blk st.out.box 1
      have ld := blk_lt st.out.box
      have r0 := cell_blk y2 0
      have r1 := cell_blk y2 1
      have g0 := free_blk y2 0
      have g1 := free_blk y2 1
      have lr := blk_lt y2
      have t0 := heap_setCell_same _ _ 0 _ _ (.slice x1 j z1) y2
      have Z1 := Lib.hid (((st.out.gr HAP.out HC1.out.size).setBox9 y2 0 (.slice x1 j z1)).setBox9 t0 1 (.slice x2 j z2))
      have HC6 := Lib.hid ((HC.out.setCell (p := ⟨w.heap.size + 1, 0, none⟩) (by simp) (.slice x1 j z1)).setCell (p := ⟨w.heap.size + 1, 1, none⟩) (by simp) (.slice x2 j z2))
      have HNN : Hid (csU T b T.ns.length = csU T b j ∧ bsU T b T.ns.length = bsU T b j) := Lib.hid (by rw [HN.out, hje]; exact ⟨rfl, rfl⟩)
      clear y2 t0 hje
      go_wp2_with fail
      refine bodyPost_ret (v := .agg #[.slice x1 j z1, .slice x2 j z2]) ?_ rfl ⟨⟨_, _, rfl, by rw [HNN.out.1, HNN.out.2]; simpa using Z1.out⟩, HC6.out⟩
      rw [res_one rfl]
      go_simp
theorem implGridOf : ImplGridOf := fun T b u1 u2 u3 w h hp => by
  by_cases hy : okT T = true ∧ inZ b 2 8 = true
  · exact implGridOf_ok T b u1 u2 u3 w h hp hy.1 hy.2
  · rw [gridZ_no hy]
    exact (implGridOf_no T b u1 u2 u3 w h hp hy).mono fun e w' ⟨he, hB⟩ => ⟨⟨_, _, he, ownGr_nil _ _⟩, hB⟩
end Go.Proofs.Ytgknkjiifcnkpaa
