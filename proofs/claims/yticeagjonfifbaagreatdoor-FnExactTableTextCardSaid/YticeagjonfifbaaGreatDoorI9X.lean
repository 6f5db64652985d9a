/-
  The text of a table, the program's way.
-/
import Derived.Test.YticeagjonfifbaaGreatDoorTabX
import Derived.Test.YticeagjonfifbaaGreatDoorI9T
import Derived.Test.YticeagjonfifbaaGreatDoorPk6
import Derived.Test.YticeagjonfifbaaGreatDoorPk5
namespace Go.Proofs.YticeagjonfifbaaGreatDoor
open Go.RowKit

set_option maxRecDepth 100000 in
set_option maxHeartbeats 1000000 in
theorem implTabText_no (T : Tab) (a1 a2 a3 : Option Addr) (c1 c2 c3 : Nat) (w : World) (h : TabRow w T (.slice a1 T.ns.length c1) (.slice a2 T.rs.length c2) (.slice a3 T.ys.length c3)) (hl : T.ns.length ≤ 1048576) (hyl : T.y.length ≤ 9223372036854775807) (hnl : ∀ p ∈ T.ns, p.length ≤ 9223372036854775807) (hk : Hid (okT T = false)) :
    Calls Tryz.prog 8 #[.agg #[.slice a1 T.ns.length c1, .string ⟨T.y.toArray⟩, .slice a2 T.rs.length c2, .slice a3 T.ys.length c3]] w fun e w' => e = .returned (.string ⟨#[]⟩) ∧ Below w.heap.size w w' := by
  have HO := Lib.hid ((implTabOk9 T _ _ _ _ (h.below (bl_al w (.cells #[.slice a1 T.ns.length c1, .string ⟨T.y.toArray⟩, .slice a2 T.rs.length c2, .slice a3 T.ys.length c3] 28))) hl hnl hyl).mono (R' := fun e w' => e = .returned (.bool false) ∧ Below (w.alloc (.cells #[.slice a1 T.ns.length c1, .string ⟨T.y.toArray⟩, .slice a2 T.rs.length c2, .slice a3 T.ys.length c3] 28)).heap.size (w.alloc (.cells #[.slice a1 T.ns.length c1, .string ⟨T.y.toArray⟩, .slice a2 T.rs.length c2, .slice a3 T.ys.length c3] 28)) w') (fun e w' ⟨he, hB⟩ => ⟨by rw [he, hk.out], hB⟩))
  clear h hyl hnl hl
  go_enter Tryz.func8, Tryz.ntmps8
  go_wp2_with fail
  refine HO.out.mono ?_
  rintro e w1 ⟨rfl, hB⟩
  go_wp2_with fail
  go_ret
  exact ⟨rfl, bt (bl_al w _) hB⟩
set_option maxRecDepth 100000 in
set_option maxHeartbeats 4000000 in
theorem implTabText_ok (T : Tab) (a1 a2 a3 : Option Addr) (c1 c2 c3 : Nat) (w : World) (m : Int) (hm : w.cell? ⟨4, 0, none⟩ = some (.int .i64 m)) (hL : Lib.TabIs Tryz.prog w "internal/strconv.uint64pow10" .u64 Lib.pow10Tab ∧ 1 < w.heap.size) (h : TabRow w T (.slice a1 T.ns.length c1) (.slice a2 T.rs.length c2) (.slice a3 T.ys.length c3)) (hl : T.ns.length ≤ 1048576) (hyl : T.y.length ≤ 9223372036854775807) (hnl : ∀ p ∈ T.ns, p.length ≤ 9223372036854775807) (hk : Hid (okT T = true)) :
    Calls Tryz.prog 8 #[.agg #[.slice a1 T.ns.length c1, .string ⟨T.y.toArray⟩, .slice a2 T.rs.length c2, .slice a3 T.ys.length c3]] w fun e w' => e = .returned (.string ⟨(csvT (rowsTx T T.rs.length)).toArray⟩) ∧ Below w.heap.size w w' := by
  obtain ⟨iS, hi, hz0, hz1, hz2⟩ := info_parts infoStr
  obtain ⟨iL, hj, hy0, hy1, hy2⟩ := info_parts infoSlS
  have HO := Lib.hid ((implTabOk9 T _ _ _ _ (h.below (bl_al w (.cells #[.slice a1 T.ns.length c1, .string ⟨T.y.toArray⟩, .slice a2 T.rs.length c2, .slice a3 T.ys.length c3] 28))) hl hnl hyl).mono (R' := fun e w' => e = .returned (.bool true) ∧ Below (w.alloc (.cells #[.slice a1 T.ns.length c1, .string ⟨T.y.toArray⟩, .slice a2 T.rs.length c2, .slice a3 T.ys.length c3] 28)).heap.size (w.alloc (.cells #[.slice a1 T.ns.length c1, .string ⟨T.y.toArray⟩, .slice a2 T.rs.length c2, .slice a3 T.ys.length c3] 28)) w') (fun e w' ⟨he, hB⟩ => ⟨by rw [he, hk.out], hB⟩))
  have ho := okT_head hk.out
  have hx0 := alloc_blk w #[.slice a1 T.ns.length c1, .string ⟨T.y.toArray⟩, .slice a2 T.rs.length c2, .slice a3 T.ys.length c3] 28
  have HX := Lib.hid hx0
  have HH := Lib.hid h
  have hn4 := ho.1
  have hr40 := ho.2.2.1
  have HOK := Lib.hid ho
  have HOK2 := Lib.hid hk.out
  have HF : Hid (∀ wz, Below w.heap.size w wz → ∀ x : Int, -9223372036854775808 ≤ x → x ≤ 9223372036854775807 → Calls Tryz.prog 26 #[.int .i64 x] wz fun e w' => e = .returned (.string ⟨(fixT x).toArray⟩) ∧ Below wz.heap.size wz w') := Lib.hid (fun wz hB x h0 h1 => fixTextB w hL.1 hL.2 wz hB x h0 h1)
  have HCT : Hid (ImplText w) := Lib.hid (implText w m hm)
  clear h hyl hnl ho hx0 hL hm
  go_enter Tryz.func8, Tryz.ntmps8
  go_wp2_with fail
  refine HO.out.mono ?_
  rintro e w1 ⟨rfl, hB⟩
  have X1 := Lib.hid (blk_next HX.out hB)
  have B1 := Lib.hid (bt (bl_al w _) hB)
  have HHD := Lib.hid (header9 T _ _ _ w1 (HH.out.below B1.out) (by omega))
  clear hB HX HO
  have ca0 := cell_blk X1.out 0
  have ca1 := cell_blk X1.out 1
  have ca2 := cell_blk X1.out 2
  have ca3 := cell_blk X1.out 3
  have la := blk_lt X1.out
  go_wp2_with fail
  refine HHD.out.mono ?_
  rintro e w2 ⟨⟨v2, rfl, hO2⟩, hB2⟩
  rw [strCells_app9] at hO2
  clear ca0 ca1 ca2 ca3 la
  have hrT : (rowsTx T 0).length = 1 := rfl
  have HS : Hid (OutT w (w2.alloc (.cells #[v2] 24)) #[.slice a1 T.ns.length c1, .string ⟨T.y.toArray⟩, .slice a2 T.rs.length c2, .slice a3 T.ys.length c3] (.slice (some ⟨w2.heap.size, 0, none⟩) 1 1) (rowsTx T 0)) := Lib.hid ⟨bt (bt B1.out hB2) (bl_al _ _), blk_al (blk_next X1.out hB2) _, (headOut (T := T) hB2 (by simpa [strCells] using hO2) B1.out.size).1⟩
  have hO3 := hO2
  clear hO2 hB2
  obtain ⟨va, vc, rfl⟩ := owns_form hO3
  clear hO3
  obtain ⟨wz, hwz⟩ : ∃ wz, w2.alloc (.cells #[.slice va (T.ns ++ [T.y]).length vc] 24) = wz := ⟨_, rfl⟩
  obtain ⟨zb, hzb⟩ : ∃ zb, w2.heap.size = zb := ⟨_, rfl⟩
  have hln : (T.ns ++ [T.y]).length = T.ns.length + 1 := by simp
  rw [hln] at hwz HS ⊢
  rw [hwz, hzb] at HS
  have HII := Lib.hid HH.out.2.1
  have HIY := Lib.hid HH.out.2.2
  have ca2 := cell_blk HS.out.cell 2
  have ca3 := cell_blk HS.out.cell 3
  have la := blk_lt HS.out.cell
  go_wp2_with fail
  go_loopg [3, 4, 5, 6, 8, 18] T.rs.length (fun g v_ _ _ _ _ i_ wr => ∃ (i : Nat) (vo : Value), i ≤ T.rs.length ∧ g = T.rs.length - i ∧ i_ = .int .i64 i ∧ vo = v_ ∧ OutT w wr #[.slice a1 T.ns.length c1, .string ⟨T.y.toArray⟩, .slice a2 T.rs.length c2, .slice a3 T.ys.length c3] vo (rowsTx T i))
  case atStart => exact ⟨0, _, Nat.zero_le _, rfl, rfl, rfl, HS.out⟩
  case round =>
    clear HS
    obtain ⟨i, vo, hii, rfl, rfl, rfl, hO⟩ := hrel
    have HO := Lib.hid hO
    clear hO
    have ca2 := cell_blk HO.out.cell 2
    have la := blk_lt HO.out.cell
    by_cases hlt : i < T.rs.length
    · have hi1 : (i : Int) < T.rs.length := by omega
      have hi0 : (0 : Int) ≤ i := by omega
      obtain ⟨r, hr⟩ : ∃ r, T.rs[i]? = some r := ⟨_, List.getElem?_eq_getElem hlt⟩
      obtain ⟨y, hy⟩ : ∃ y, T.ys[i]? = some y := ⟨_, List.getElem?_eq_getElem (by rw [HOK.out.2.2.2.1]; exact hlt)⟩
      have hrow := HOK.out.2.2.2.2.2.2 i hlt
      rw [getD_at hr, getD_at hy] at hrow
      have HRW := Lib.hid hrow
      clear hrow
      have hm4 : r.length ≤ 4 := by rw [HRW.out.1]; exact hn4.2
      have hm1 : 1 ≤ r.length := by rw [HRW.out.1]; exact hn4.1
      obtain ⟨ag, cg, he2, _, hfg⟩ := iiRow_cells HII.out
      injection he2 with he21 _ he23
      subst he21
      subst he23
      obtain ⟨b2, o2, u, rfl, hcu0, hur0⟩ := hfg i r hr
      obtain ⟨ar, cr, rfl, _, hfr⟩ := intRow_form hur0
      obtain ⟨b4, o4, har4, _⟩ := hfr 0 _ (List.getElem?_eq_getElem (show 0 < r.length by omega))
      subst har4
      obtain ⟨a9, c9, he3, _, hfy⟩ := intRow_form HIY.out
      injection he3 with he31 _ he33
      subst he31
      subst he33
      obtain ⟨b3, o3, rfl, hcy0⟩ := hfy i y hy
      have HFR := Lib.hid hfr
      have HCU := Lib.hid hcu0
      have HYV := Lib.hid hcy0
      have HRS := Lib.hid (show rowsTx T (i + 1) = rowsTx T i ++ [rowTx r y] by rw [rowsTx_succ, getD_at hr, getD_at hy])
      have hcu := (HO.out.below.cell (p := ⟨b2, o2 + i, none⟩) (World.block_lt_of_cell? w _ hcu0)).trans hcu0
      have hlu := World.block_lt_of_cell? wr _ hcu
      obtain ⟨ao, co, hvo⟩ : ∃ a c, vo = .slice a (rowsTx T i).length c := by
        obtain ⟨vs, ho, _⟩ := HO.out.out
        exact owns_form ho
      subst hvo
      have hrl := rowsTx_length T i
      obtain ⟨lo0, hC0⟩ : ∃ lo0, TtSt w (wr.alloc (.cells #[] 9)) #[.slice a1 T.ns.length c1, .string ⟨T.y.toArray⟩, .slice (some ⟨b2, o2, none⟩) T.rs.length c2, .slice (some ⟨b3, o3, none⟩) T.ys.length c3] lo0 (.slice ao (rowsTx T i).length co) (.slice (some ⟨wr.heap.size, 0, none⟩) 0 0) (rowsTx T i) [] := ⟨_, HO.out.start⟩
      have HC0 := Lib.hid hC0
      clear hC0 HO hcu0 hur0 hfr hfy hfg hr hy hcy0
      go_wp2_with fail
      go_loopg [6, 8, 26] r.length (fun g v_ _ k_ wi => ∃ (k : Nat) (vr : Value), k ≤ r.length ∧ g = r.length - k ∧ k_ = .int .i64 k ∧ vr = v_ ∧ TtSt w wi #[.slice a1 T.ns.length c1, .string ⟨T.y.toArray⟩, .slice (some ⟨b2, o2, none⟩) T.rs.length c2, .slice (some ⟨b3, o3, none⟩) T.ys.length c3] lo0 (.slice ao (rowsTx T i).length co) vr (rowsTx T i) ((r.map fixT).take k))
      case atStart => exact ⟨0, _, Nat.zero_le _, rfl, rfl, rfl, HC0.out⟩
      case round =>
        clear HC0
        obtain ⟨k, vr, hkr, rfl, rfl, rfl, hC⟩ := hrel
        have HCC := Lib.hid hC
        clear hC
        have ca2 := cell_blk HCC.out.cell 2
        have ca3 := cell_blk HCC.out.cell 3
        have la := blk_lt HCC.out.cell
        have hcu := (HCC.out.below.cell (p := ⟨b2, o2 + i, none⟩) (World.block_lt_of_cell? w _ HCU.out)).trans HCU.out
        have hlu := World.block_lt_of_cell? wr _ hcu
        by_cases hk1 : k < r.length
        · have hk1i : (k : Int) < r.length := by omega
          have hk0i : (0 : Int) ≤ k := by omega
          obtain ⟨x, hx⟩ : ∃ x, r[k]? = some x := ⟨_, List.getElem?_eq_getElem hk1⟩
          have hxb := valB_iff.1 (List.all_eq_true.1 HRW.out.2.2 x (List.mem_of_getElem? hx))
          obtain ⟨bq, oq, hbq, hcx0⟩ := HFR.out k x hx
          injection hbq with hbq
          injection hbq with hbq1 hbq2 _
          subst hbq1
          subst hbq2
          have hcx := (HCC.out.below.cell (p := ⟨b4, o4 + k, none⟩) (World.block_lt_of_cell? w _ hcx0)).trans hcx0
          have hlx := World.block_lt_of_cell? wr _ hcx
          have HTK := Lib.hid (show (r.map fixT).take (k + 1) = (r.map fixT).take k ++ [fixT x] by rw [List.take_add_one]; simp [hx])
          have htl : ((r.map fixT).take k).length = k := by simp; omega
          clear hcx0 hx
          go_wp2_with fail
          refine (HF.out _ HCC.out.below x (by omega) (by omega)).mono ?_
          rintro e w2 ⟨rfl, hB2⟩
          have HCN := Lib.hid (HCC.out.next hB2)
          have hcu2 := (hB2.cell (p := ⟨b2, o2 + i, none⟩) hlu).trans hcu
          clear hB2 HCC hcu hcx ca2 ca3
          go_wp2_with (at_builtin; refine wpList_append_own _ rfl _ _ 24 rfl lo0 9 iS (.string ByteArray.empty) 1 16 Tryz.underlying24 hi hz0 hz1 hz2 rfl (by decide) _ _ _ rfl (HCN.out.row.alloc _) ⟨w2.heap.size, 0, none⟩ 1 1 [.string ⟨(fixT x).toArray⟩] rfl rfl ?p1 ?q1 ?r1 ?s1 ?t1 ?_)
          try (case p1 => exact news_one)
          case q1 => first | (intro u hu; simp at hu; subst hu; rfl) | rfl
          case r1 => unfold maxLen; omega
          case s1 => omega
          case t1 => have := HCN.out.hi; simp; omega
          intro v3 w3 hown3 hg3 _
          have HC3 := Lib.hid ((HCN.out.next ((Below.refl _ _).alloc (Nat.le_refl _) (.cells #[.string ⟨(fixT x).toArray⟩] 9))).app (f := fixT x) hg3 (by rw [htl]; exact hown3))
          clear hown3 hg3 HCN
          go_wp2_with fail
          go_roundg (r.length - (k + 1))
          case measure => omega
          case rel => exact ⟨k + 1, v3, by omega, rfl, rfl, rfl, by rw [HTK.out]; exact HC3.out⟩
        · have hk2 : ¬ (k : Int) < r.length := by omega
          have HTK := Lib.hid (show (r.map fixT).take k = r.map fixT by rw [List.take_of_length_le]; simp; omega)
          have HEN := Lib.hid (show TtSt w wr #[.slice a1 T.ns.length c1, .string ⟨T.y.toArray⟩, .slice (some ⟨b2, o2, none⟩) T.rs.length c2, .slice (some ⟨b3, o3, none⟩) T.ys.length c3] lo0 (.slice ao (rowsTx T i).length co) vr (rowsTx T i) (r.map fixT) by rw [← HTK.out]; exact HCC.out)
          have hyb := valB_iff.1 HRW.out.2.1
          have hml : (r.map fixT).length = r.length := List.length_map _
          have hcy := (HEN.out.below.cell (p := ⟨b3, o3 + i, none⟩) (World.block_lt_of_cell? w _ HYV.out)).trans HYV.out
          have hly := World.block_lt_of_cell? wr _ hcy
          have hyi : i < T.ys.length := by rw [HOK.out.2.2.2.1]; exact hlt
          have hyi1 : (i : Int) < T.ys.length := by omega
          clear HTK HCC
          go_wp2_with fail
          refine (HF.out _ HEN.out.below y (by omega) (by omega)).mono ?_
          rintro e w2 ⟨rfl, hB2⟩
          have HCN := Lib.hid (HEN.out.next hB2)
          clear hB2 HEN hcu hcy ca2 ca3
          go_wp2_with (at_builtin; refine wpList_append_own _ rfl _ _ 24 rfl lo0 9 iS (.string ByteArray.empty) 1 16 Tryz.underlying24 hi hz0 hz1 hz2 rfl (by decide) _ _ _ rfl (HCN.out.row.alloc _) ⟨w2.heap.size, 0, none⟩ 1 1 [.string ⟨(fixT y).toArray⟩] rfl rfl ?p2 ?q2 ?r2 ?s2 ?t2 ?_)
          try (case p2 => exact news_one)
          case q2 => first | (intro u hu; simp at hu; subst hu; rfl) | rfl
          case r2 => unfold maxLen; omega
          case s2 => omega
          case t2 => have := HCN.out.hi; simp; omega
          intro v3 w3 hown3 hg3 _
          have HC3 := Lib.hid ((HCN.out.next ((Below.refl _ _).alloc (Nat.le_refl _) (.cells #[.string ⟨(fixT y).toArray⟩] 9))).app (f := fixT y) hg3 (by rw [hml]; exact hown3))
          clear hown3 hg3 HCN
          obtain ⟨av, cv, hv3⟩ := owns_form HC3.out.row
          rw [show (r.map fixT ++ [fixT y]).length = r.length + 1 by simp] at hv3
          subst hv3
          obtain ⟨vs, hvo, hvr, hvl⟩ := HC3.out.out
          have hvo1 := hvo
          rw [hrl] at hvo1
          go_wp2_with (at_builtin; refine wpList_append_own _ rfl _ _ 49 rfl w.heap.size 24 iL (.slice none 0 0) 1 24 Tryz.underlying49 hj hy0 hy1 hy2 rfl (by decide) _ _ _ rfl (hvo1.alloc _) ⟨w3.heap.size, 0, none⟩ 1 1 [.slice av (r.length + 1) cv] rfl rfl ?p3 ?q3 ?r3 ?s3 ?t3 ?_)
          try (case p3 => exact news_one)
          case q3 => first | (intro u hu; simp at hu; subst hu; rfl) | rfl
          case r3 => unfold maxLen; omega
          case s3 => omega
          case t3 => have := HC3.out.below.size; simp; omega
          intro v4 w4 hown4 hg4 _
          have hAl : Below w3.heap.size w3 (w3.alloc (.cells #[.slice av (r.length + 1) cv] 24)) := (Below.refl _ _).alloc (Nat.le_refl _) _
          have HO := Lib.hid ((HC3.out.next hAl).push (hvo.alloc _) (hvr.below hAl) hvl (by rw [hrl]; exact hg4) (by rw [hrl]; exact hown4))
          clear hown4 hg4 hAl HC3 hvo hvo1 hvr hvl
          go_wp2_with fail
          go_roundg (T.rs.length - (i + 1))
          case measure => omega
          case rel => exact ⟨i + 1, v4, by omega, rfl, rfl, rfl, by rw [HRS.out]; exact HO.out⟩
    · have hin : i = T.rs.length := by omega
      subst hin
      have hlt2 : ¬ ((T.rs.length : Int) < T.rs.length) := by omega
      have hall := rowsTx_all HOK2.out (Nat.le_refl _)
      have hlen := tabT_len HOK2.out
      have hrl := rowsTx_length T T.rs.length
      have HCR := Lib.hid (HO.out.out.row (by omega) (fun row hrw => by have := (hall row hrw).1; omega))
      have HAL : Hid (∀ r ∈ rowsTx T T.rs.length, r.length ≤ 16777216 ∧ ∀ p ∈ r, p.length ≤ 16777216) := Lib.hid (fun r hr => ⟨by have := (hall r hr).1; omega, fun p hp => by have := (hall r hr).2 p hp; omega⟩)
      clear hall
      go_wp2_with fail
      refine (HCT.out wr vo (rowsTx T T.rs.length) HO.out.below HCR.out (by omega) (by omega) HAL.out).mono ?_
      rintro e w2 ⟨rfl, hB2⟩
      go_wp2_with fail
      go_ret
      exact ⟨rfl, HO.out.below.trans (hB2.mono HO.out.below.size)⟩
/-- WHAT impl.TableText ANSWERS. -/
theorem implTabText9 (W : World) (m : Int) (hm : W.cell? ⟨4, 0, none⟩ = some (.int .i64 m)) (hL : Lib.TabIs Tryz.prog W "internal/strconv.uint64pow10" .u64 Lib.pow10Tab ∧ 1 < W.heap.size) (w : World) (hB : Below W.heap.size W w) (T : Tab) (u1 u2 u3 : Value) (h : TabRow w T u1 u2 u3) (hl : T.ns.length ≤ 1048576) (hyl : T.y.length ≤ 9223372036854775807) (hnl : ∀ p ∈ T.ns, p.length ≤ 9223372036854775807) :
    Calls Tryz.prog 8 #[.agg #[u1, .string ⟨T.y.toArray⟩, u2, u3]] w fun e w' => e = .returned (.string ⟨(tabT T).toArray⟩) ∧ Below w.heap.size w w' := by
  have h0 := h
  obtain ⟨p1, p2, p3⟩ := h0
  obtain ⟨a1, c1, rfl, _, _⟩ := sRow_cells p1
  obtain ⟨a2, c2, rfl, _, _⟩ := iiRow_cells p2
  obtain ⟨a3, c3, rfl, _, _⟩ := intRow_form p3
  unfold tabT
  by_cases hk : okT T = true
  · rw [if_pos hk]
    exact implTabText_ok T a1 a2 a3 c1 c2 c3 w m (maxLen_keep hm hB) ⟨tabIs_below hL.1 hB gPow hL.2, Nat.lt_of_lt_of_le hL.2 hB.size⟩ h hl hyl hnl (Lib.hid hk)
  · rw [if_neg hk]
    exact implTabText_no T a1 a2 a3 c1 c2 c3 w h hl hyl hnl (Lib.hid (by simpa using hk))
end Go.Proofs.YticeagjonfifbaaGreatDoor
