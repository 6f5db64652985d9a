/-
  The reading of a table, the program's way: the table and the fault.
-/
import Derived.Test.YticeagjonfifbaaGreatDoorI9Z
namespace Go.Proofs.YticeagjonfifbaaGreatDoor
open Go.RowKit

theorem readTable9 (W w : World) (hBW : Below W.heap.size W w) (m : Int) (hm : W.cell? ⟨4, 0, none⟩ = some (.int .i64 m)) (hL : Lib6 W) (s : ByteArray) (hs : s.size ≤ 1048576) (T : Tab) (c i k : Nat) (hr : readT s.data.toList = (T, c, i, k)) :
    Calls Tryz.prog 35 #[.string s] w fun e w' => RdT T c i k w.heap.size e w' ∧ Below w.heap.size w w' := by
  obtain ⟨L, c1, i1, k1, hq⟩ : ∃ L c i k, csvQ s.data.toList = (L, c, i, k) := ⟨_, _, _, _, rfl⟩
  have hR := implRead W m hm
  by_cases hc : c1 = 0
  · subst hc
    obtain ⟨rfl, rfl⟩ := csvQ_zero hq
    cases L with
    | nil => exact readTable9_empty s hs W w hBW hR T c i k hr hq
    | cons N t =>
      have hb := csvQ_bound hq
      have hnl := text_mem9 hb.2.1
      by_cases hh : (headF N).1 = 0
      · cases hi : inZ (t.length : Int) 1 40 with
        | true => exact readTable9_main s hs W w hBW hR T c i k hr hL hq hnl hh hi
        | false => exact readTable9_many s hs W w hBW hR T c i k hr hq hnl hh hi
      · exact readTable9_head s hs W w hBW hR T c i k hr hq hnl hh
  · exact readTable9_csv s hs W w hBW hR T c i k hr hq hc
abbrev S4 (b : Nat) (x0 x1 x2 x3 : Value) (w' : World) : Prop := w'.cell? ⟨b, 0, none⟩ = some x0 ∧ w'.cell? ⟨b, 1, none⟩ = some x1 ∧ w'.cell? ⟨b, 2, none⟩ = some x2 ∧ w'.cell? ⟨b, 3, none⟩ = some x3
theorem readT_zero {l : List UInt8} {T : Tab} {c i k : Nat} (h : readT l = (T, c, i, k)) (hc : c = 0) : i = 0 ∧ k = 0 := by
  subst hc
  unfold readT at h
  by_cases hd : (csvQ l).2.1 = 0
  · rw [if_pos hd] at h
    cases hL : (csvQ l).1 with
    | nil =>
      rw [hL, tabV] at h
      simp at h
    | cons N t =>
      rw [hL, tabV] at h
      by_cases hh : (headF N).1 = 0
      · rw [if_pos hh] at h
        by_cases hi : inZ (t.length : Int) 1 40 = true
        · rw [if_pos hi] at h
          cases hr : rowsG (N.length - 1) t 1 [] [] with
          | inr q =>
            rw [hr] at h
            have hq : (rowsG (N.length - 1) t 1 [] []) = .inr q := hr
            simp only [Prod.mk.injEq] at h
            have := rowsG_code hq
            omega
          | inl q =>
            rw [hr] at h
            simp only [Prod.mk.injEq] at h
            omega
        · rw [if_neg hi] at h
          simp at h
      · rw [if_neg hh] at h
        simp only [Prod.mk.injEq] at h
        exact absurd h.2.1 hh
  · rw [if_neg hd] at h
    simp only [Prod.mk.injEq] at h
    exact absurd h.2.1 hd
set_option maxRecDepth 100000 in
set_option maxHeartbeats 4000000 in
theorem implReadTable9 (W : World) (m : Int) (hm : W.cell? ⟨4, 0, none⟩ = some (.int .i64 m)) (hL : Lib6 W) (hg : HandleAt W) : ImplReadT W := fun w hBW s T c i k hs hr => by
  have h0 := Lib.hid (readT_zero hr)
  have HR := Lib.hid (fun wz hB => readTable9 W wz hB m hm hL s hs T c i k hr)
  have HG : Hid (∀ wz, Below W.heap.size W wz → HandleAt wz) := Lib.hid (fun wz hB => hg.below hB)
  have hsm := readT_small hr
  have HM : Hid (T.ns.length ≤ 9223372036854775807 ∧ T.rs.length ≤ 9223372036854775807 ∧ (∀ r ∈ T.rs, r.length ≤ 9223372036854775807) ∧ T.ys.length ≤ 9223372036854775807) := Lib.hid ⟨by omega, by omega, fun r hr => by have := hsm.2.2.1 r hr; omega, by omega⟩
  have HBW := Lib.hid hBW
  have x0 := blk_al (alloc_blk w #[.slice none 0 0, .string ⟨#[]⟩, .slice none 0 0, .slice none 0 0] 28) (.cells #[.int .i64 0, .int .i64 0, .int .i64 0] 33)
  have x1 := alloc_blk (w.alloc (.cells #[.slice none 0 0, .string ⟨#[]⟩, .slice none 0 0, .slice none 0 0] 28)) #[.int .i64 0, .int .i64 0, .int .i64 0] 33
  rw [sz_alloc] at x1
  have hA := bt (bl_al w (.cells #[.slice none 0 0, .string ⟨#[]⟩, .slice none 0 0, .slice none 0 0] 28)) (bl_al _ (.cells #[.int .i64 0, .int .i64 0, .int .i64 0] 33))
  clear hm hL hg hsm hr hBW
  go_enter Tryz.func11, Tryz.ntmps11
  go_wp2_with fail
  refine (HR.out _ (bt HBW.out hA)).mono ?_
  rintro e w1 ⟨⟨vs, u1, u2, u3, rfl, ho⟩, hB⟩
  obtain ⟨a1, c1, a2, c2, a3, c3, rfl, rfl, rfl⟩ := (ho.row HM.out.1 HM.out.2.1 HM.out.2.2.1 HM.out.2.2.2).form
  have X0 := Lib.hid (blk_next x0 hB)
  have X1 := Lib.hid (blk_next x1 hB)
  have B01 := Lib.hid (bt hA hB)
  have HO := Lib.hid ho
  have l1 := hB.size
  simp only [sz_alloc] at l1
  clear x0 x1 hA hB ho HR
  go_upto_region 2 with fail
  have hA4 := bl_al w1 (.cells #[.slice a1 T.ns.length c1, .string ⟨T.y.toArray⟩, .slice a2 T.rs.length c2, .slice a3 T.ys.length c3] 28)
  have hbx := alloc_blk w1 #[.slice a1 T.ns.length c1, .string ⟨T.y.toArray⟩, .slice a2 T.rs.length c2, .slice a3 T.ys.length c3] 28
  have hS0 : S4 w1.heap.size (.slice a1 T.ns.length c1) (.string ⟨T.y.toArray⟩) (.slice a2 T.rs.length c2) (.slice a3 T.ys.length c3) (w1.alloc (.cells #[.slice a1 T.ns.length c1, .string ⟨T.y.toArray⟩, .slice a2 T.rs.length c2, .slice a3 T.ys.length c3] 28)).drew ∧ True := ⟨⟨cell_blk hbx 0, cell_blk hbx 1, cell_blk hbx 2, cell_blk hbx 3⟩, trivial⟩
  refine wp_region_noPanic ?_
  refine wp_region_K (S := (S4 w1.heap.size (.slice a1 T.ns.length c1) (.string ⟨T.y.toArray⟩) (.slice a2 T.rs.length c2) (.slice a3 T.ys.length c3))) (H := (fun _ => True)) (k := 3) (by kernel_rfl) hS0 (fun hHeld => ?_)
  clear hS0
  refine anyK_take (i := 0) (oi := ?o1) (v := ?v1) ?hi1 ?hs1 ?hf1 ?hr1 ?hQ1 ?hw1 ?hy1 ?hS1 ?rest1
  case hi1 => rfl
  case hs1 => kernel_rfl
  case hf1 => kernel_rfl
  case hr1 => kernel_rfl
  case hQ1 => exact fun _ _ _ h => h
  case hw1 => kernel_rfl
  case hS1 => assumption
  case hy1 =>
    refine Or.inl ⟨by kernel_rfl, ?_⟩
    intro w' hSw
    (try dsimp only at hSw)
    go_simp
    (try rfl)
  (try simp only [List.getElem_toArray, List.getElem_cons_zero, Act.put, List.setIfInBounds_toArray, List.set_cons_zero, List.set_cons_succ])
  refine anyK_takeH (i := 1) (oi := ?o2) (v := ?v2) ?hi2 ?hs2 ?hf2 ?hr2 ?hQ2 ?hw2 ?hy2 ?hS2 ?rest2
  case hi2 => rfl
  case hs2 => kernel_rfl
  case hf2 => kernel_rfl
  case hr2 => kernel_rfl
  case hQ2 => exact fun _ _ _ h => h
  case hw2 => kernel_rfl
  case hS2 => assumption
  case hy2 =>
    refine Or.inl ⟨by kernel_rfl, ?_⟩
    intro w' hSw
    (try dsimp only at hSw)
    go_simp
    (try rfl)
  (try simp only [List.getElem_toArray, List.getElem_cons_succ, List.getElem_cons_zero, Act.put, List.setIfInBounds_toArray, List.set_cons_zero, List.set_cons_succ])
  refine anyK_ready (rs := [2]) (by kernel_rfl) (by simp) ?_
  refine allK_cons rfl (fun K hK => ?_) allK_nil
  go_simp
  refine (faultOf9 c i k h0.out _ (HG.out _ (bt HBW.out (bt B01.out hA4.drew)))).mono ?_
  rintro e w5 ⟨rfl, hB5⟩
  have hbx5 := blk_next (w := (w1.alloc (.cells #[.slice a1 T.ns.length c1, .string ⟨T.y.toArray⟩, .slice a2 T.rs.length c2, .slice a3 T.ys.length c3] 28)).drew) hbx hB5
  refine hK.out _ _ (⟨⟨cell_blk hbx5 0, cell_blk hbx5 1, cell_blk hbx5 2, cell_blk hbx5 3⟩, trivial⟩) (fun hHeld => ?_)
  clear hK K
  (try simp only [List.getElem_toArray, List.getElem_cons_succ, List.getElem_cons_zero, Act.put, List.setIfInBounds_toArray, List.set_cons_zero, List.set_cons_succ])
  have hB15 := bt hA4.drew hB5
  have HO5 := Lib.hid (HO.out.below hB15)
  have Y0 := blk_next X0.out hB15
  have Y1 := blk_next X1.out hB15
  have N0 := Lib.hid (HO5.out.ne Y0 (by decide) (by decide) (by decide))
  have N1 := Lib.hid (HO5.out.ne Y1 (by decide) (by decide) (by decide))
  have B5 := Lib.hid (bt B01.out hB15)
  have p0 := cell_blk Y0 0
  have p1 := cell_blk Y0 1
  have p2 := cell_blk Y0 2
  have p3 := cell_blk Y0 3
  have fp0 := free_blk Y0 0
  have fp1 := free_blk Y0 1
  have fp2 := free_blk Y0 2
  have fp3 := free_blk Y0 3
  have q0 := cell_blk Y1 0
  have q1 := cell_blk Y1 1
  have q2 := cell_blk Y1 2
  have fq0 := free_blk Y1 0
  have fq1 := free_blk Y1 1
  have fq2 := free_blk Y1 2
  have lq := blk_lt Y1
  have lp := blk_lt Y0
  clear hHeld hbx hbx5 hA4 hB5 hB15 X0 X1 Y0 Y1 HO B01
  refine anyK_ready (rs := [3]) (by kernel_rfl) (by simp) ?_
  refine allK_past rfl (by kernel_rfl) (fun K hK => ?_)
  go_simp
  refine hK.out _ _ (trivial) (fun hHeld => ?_)
  clear hK K
  (try simp only [List.getElem_toArray, List.getElem_cons_succ, List.getElem_cons_zero, Act.put, List.setIfInBounds_toArray, List.set_cons_zero, List.set_cons_succ])
  refine anyK_ready (rs := [4]) (by kernel_rfl) (by simp) ?_
  refine allK_past rfl (by kernel_rfl) (fun K hK => ?_)
  go_simp
  refine hK.out _ _ (trivial) (fun hHeld => ?_)
  clear hK K
  (try simp only [List.getElem_toArray, List.getElem_cons_succ, List.getElem_cons_zero, Act.put, List.setIfInBounds_toArray, List.set_cons_zero, List.set_cons_succ])
  refine anyK_done (by kernel_rfl) ?_ _
  refine NoPanic.normal ?_
  go_wp2_with fail
  refine bodyPost_ret (v := .tuple #[.agg #[.slice a1 T.ns.length c1, .string ⟨T.y.toArray⟩, .slice a2 T.rs.length c2, .slice a3 T.ys.length c3], .agg #[.int .i64 (c : Nat), .int .i64 (i : Nat), .int .i64 (k : Nat)]]) ?_ rfl ⟨⟨vs, _, _, _, rfl, ?_⟩, ?_⟩
  · rw [results_twoT rfl]
    go_simp
  · have h := ((((((HO5.out.setN N0.out 0 (.slice a1 T.ns.length c1)).setN N0.out 1 (.string ⟨T.y.toArray⟩)).setN N0.out 2 (.slice a2 T.rs.length c2)).setN N0.out 3 (.slice a3 T.ys.length c3)).setN N1.out 0 (.int .i64 (c : Nat))).setN N1.out 1 (.int .i64 (i : Nat))).setN N1.out 2 (.int .i64 (k : Nat))
    have hb : w.heap.size ≤ ((w.alloc (.cells #[.slice none 0 0, .string ⟨#[]⟩, .slice none 0 0, .slice none 0 0] 28)).alloc (.cells #[.int .i64 0, .int .i64 0, .int .i64 0] 33)).heap.size := by simp only [sz_alloc]; omega
    exact ⟨World.ownsRow.mono h.1 hb, World.ownsRow.mono h.2.1 hb, h.2.2.1.mono hb, World.ownsRow.mono h.2.2.2.1 hb, h.2.2.2.2⟩
  · have hb : w.heap.size ≤ w.heap.size + 1 := Nat.le_succ _
    exact (((below4z B5.out _ _ _ _).setCell hb _).setCell hb _).setCell hb _
end Go.Proofs.YticeagjonfifbaaGreatDoor
