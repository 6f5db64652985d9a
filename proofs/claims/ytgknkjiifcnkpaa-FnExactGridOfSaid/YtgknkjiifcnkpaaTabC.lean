/-
  What the reference answers for a column.
-/
import Derived.Test.YtgknkjiifcnkpaaTabQ
namespace Go.Proofs.Ytgknkjiifcnkpaa
open Go.RowKit

/-- A column of a table. -/
def colT (T : Tab) (f : Int) : List Int := if 0 ≤ f ∧ f ≤ (T.ns.length : Int) - 1 then T.rs.map (fun r => r.getD f.toNat 0) else []
theorem intCells_snoc9 (s : List Int) (z : Int) : intCells (s ++ [z]) = intCells s ++ [.int .i64 z] := by unfold intCells; simp
theorem int_row9 {w : World} {base : Nat} {v : Value} {s : List Int} {z : Int} (h : w.ownsRow base 3 1 v (s.length + 1) (intCells s ++ [.int .i64 z])) : w.ownsRow base 3 1 v (s ++ [z]).length (intCells (s ++ [z])) := by
  rw [intCells_snoc9, List.length_append]
  exact h
theorem take_map_succ {L : List (List Int)} {j q : Nat} {r : List Int} (h : L[j]? = some r) : (L.take (j + 1)).map (fun r => r.getD q 0) = (L.take j).map (fun r => r.getD q 0) ++ [r.getD q 0] := by
  rw [List.take_add_one, h, List.map_append]
  rfl

set_option maxRecDepth 100000 in
set_option maxHeartbeats 4000000 in
theorem specColumn_in (T : Tab) (u1 u2 u3 : Value) (q : Nat) (w : World) (h : TabRow w T u1 u2 u3) (hq : (q : Int) ≤ (T.ns.length : Int) - 1) (hrl : T.rs.length ≤ 1048576) (L : List Int) (hL : Hid (T.rs.map (fun r => r.getD q 0) = L)) :
    Calls Try.prog 57 #[.agg #[u1, .string ⟨T.y.toArray⟩, u2, u3], .int .i64 q] w fun e w' => (∃ v, e = .returned v ∧ w'.ownsRow w.heap.size 3 1 v L.length (intCells L)) ∧ Below w.heap.size w w' := by
  obtain ⟨iI, hi, hz0, hz1, hz2⟩ := info_parts infoInt
  obtain ⟨p1, p2, p3⟩ := h
  obtain ⟨a1, c1, rfl, hnl⟩ := sRow_form p1
  obtain ⟨a2, c2, rfl, _, hcc⟩ := iiRow_cells p2
  obtain ⟨a3, c3, rfl, _⟩ := intRow_form p3
  obtain ⟨n, hn⟩ : ∃ n : Nat, T.rs.length = n := ⟨_, rfl⟩
  have hin : inZ (q : Int) 0 ((T.ns.length : Int) - 1) = true := inZ_iff.2 ⟨by omega, hq⟩
  have HE := Lib.hid hn
  rw [hn] at hrl ⊢
  have HC := Lib.hid hcc
  have hx0 := alloc_blk w #[.slice a1 T.ns.length c1, .string ⟨T.y.toArray⟩, .slice a2 n c2, .slice a3 T.ys.length c3] 34
  have hA := bl_al w (.cells #[.slice a1 T.ns.length c1, .string ⟨T.y.toArray⟩, .slice a2 n c2, .slice a3 T.ys.length c3] 34)
  have hA2 := bt hA (bl_al _ (.cells #[] 3))
  have hx1 := blk_al hx0 (.cells #[] 3)
  have hO0 := World.ownsRow.mono (World.ownsRow_made (e := 3) (size := 1) (w.alloc (.cells #[.slice a1 T.ns.length c1, .string ⟨T.y.toArray⟩, .slice a2 n c2, .slice a3 T.ys.length c3] 34)) #[] 0 (Nat.le_refl _) (by unfold maxLen; omega) (by simp)) hA.size
  rw [sz_alloc] at hO0
  clear hn hcc p1 p2 p3 hx0 hA
  go_enter Try.func57, Try.ntmps57
  go_wp2_with fail
  go_loopw [5, 6] (fun v i wr => ∃ (j : Nat) (zs : List Int), j ≤ n ∧ i = .int .i64 j ∧ zs.length = j ∧ zs = (T.rs.take j).map (fun r => r.getD q 0) ∧ wr.ownsRow w.heap.size 3 1 v zs.length (intCells zs) ∧ wr.heap[w.heap.size]? = some (.cells #[.slice a1 T.ns.length c1, .string ⟨T.y.toArray⟩, .slice a2 n c2, .slice a3 T.ys.length c3] 34 (0, 0)) ∧ Below w.heap.size w wr) (fun _ i _ => n - (intOf i).toNat)
  case atStart => exact ⟨0, [], Nat.zero_le _, rfl, rfl, rfl, hO0, hx1, hA2⟩
  case round =>
    clear hO0 hx1 hA2
    obtain ⟨j, zs, hj, rfl, hzl, hzs, hown, hbx, hB⟩ := hrel
    have HZS := Lib.hid hzs
    have HZL := Lib.hid hzl
    have hz12 : zs.length ≤ 1048576 := by omega
    clear hzs hzl
    have x0 := cell_blk hbx 0
    have x2 := cell_blk hbx 2
    by_cases hlt : j < n
    · have hj1 : (j : Int) < n := by omega
      have hj0 : (0 : Int) ≤ j := by omega
      obtain ⟨r, hr⟩ : ∃ r, T.rs[j]? = some r := ⟨_, List.getElem?_eq_getElem (by rw [HE.out]; exact hlt)⟩
      obtain ⟨b, off, u, rfl, hcu, hru⟩ := HC.out j r hr
      have hcj := (hB.cell (p := ⟨b, off + j, none⟩) (World.block_lt_of_cell? w _ hcu)).trans hcu
      obtain ⟨a, c, rfl, hml, hf⟩ := intRow_form (hru.below hB)
      have HTS := Lib.hid (take_map_succ (q := q) hr)
      obtain ⟨m, hm⟩ : ∃ m : Nat, r.length = m := ⟨_, rfl⟩
      have HM := Lib.hid hm
      rw [hm] at hml hcj
      clear hr hcu hru hm
      by_cases hqm : q < m
      · have hqm1 : (q : Int) < m := by omega
        have hq0 : (0 : Int) ≤ q := by omega
        obtain ⟨z, hz⟩ : ∃ z, r[q]? = some z := ⟨_, List.getElem?_eq_getElem (by rw [HM.out]; exact hqm)⟩
        obtain ⟨b9, o9, rfl, hcz⟩ := hf q z hz
        have HG : Hid (r.getD q 0 = z) := Lib.hid (by rw [List.getD_eq_getElem?_getD, hz]; rfl)
        clear hf hz
        go_wp2_with fail
        refine (specIn9 _ _ _ _).mono ?_
        rintro e w1 ⟨rfl, rfl⟩
        rw [hin]
        go_wp2_with (at_builtin; refine wpList_append_own _ rfl _ _ 24 rfl w.heap.size 3 iI (.int .i64 0) 1 8 Try.underlying24 hi hz0 hz1 hz2 rfl (by decide) _ _ _ rfl (hown.alloc (.cells #[.int .i64 z] 3)) ⟨wr.heap.size, 0, none⟩ 1 1 [.int .i64 z] rfl rfl news_one (by intro y hy; simp at hy; subst hy; rfl) ?a3 ?a4 ?a5 ?_)
        case a3 => unfold maxLen; omega
        case a4 => omega
        case a5 => have := hB.size; simp; omega
        intro v' w7 hown1 hg1 _
        have hR := Lib.hid (int_row9 hown1)
        have hBB := Lib.hid ((hB.alloc hB.size (.cells #[.int .i64 z] 3)).grown hg1 (by have := hB.size; simp; omega) (fun q hq => (hown.lt q hq).1))
        have hXX := Lib.hid (blk_gr (blk_al hbx (.cells #[.int .i64 z] 3)) hg1 (fun e => own_ne_blk (hown.alloc (.cells #[.int .i64 z] 3)) (blk_al hbx (.cells #[.int .i64 z] 3)) (by decide) e.symm))
        clear hown1 hg1 hown hB hbx
        go_wp2_with fail
        go_roundw
        case rel => exact ⟨j + 1, zs ++ [z], by omega, by go_num, by rw [List.length_append, HZL.out]; rfl, by rw [HTS.out, ← HZS.out, HG.out], hR.out, hXX.out, hBB.out⟩
        case measure => simp [intOf]; omega
      · have hqm1 : ¬ (q : Int) < m := by omega
        have HG : Hid (r.getD q 0 = 0) := Lib.hid (by rw [List.getD_eq_getElem?_getD, List.getElem?_eq_none (by rw [HM.out]; omega)]; rfl)
        clear hf
        go_wp2_with fail
        refine (specIn9 _ _ _ _).mono ?_
        rintro e w1 ⟨rfl, rfl⟩
        rw [hin]
        go_wp2_with (at_builtin; refine wpList_append_own _ rfl _ _ 24 rfl w.heap.size 3 iI (.int .i64 0) 1 8 Try.underlying24 hi hz0 hz1 hz2 rfl (by decide) _ _ _ rfl (hown.alloc (.cells #[.int .i64 0] 3)) ⟨wr.heap.size, 0, none⟩ 1 1 [.int .i64 0] rfl rfl news_one (by intro y hy; simp at hy; subst hy; rfl) ?b3 ?b4 ?b5 ?_)
        case b3 => unfold maxLen; omega
        case b4 => omega
        case b5 => have := hB.size; simp; omega
        intro v' w7 hown1 hg1 _
        have hR := Lib.hid (int_row9 hown1)
        have hBB := Lib.hid ((hB.alloc hB.size (.cells #[.int .i64 0] 3)).grown hg1 (by have := hB.size; simp; omega) (fun q hq => (hown.lt q hq).1))
        have hXX := Lib.hid (blk_gr (blk_al hbx (.cells #[.int .i64 0] 3)) hg1 (fun e => own_ne_blk (hown.alloc (.cells #[.int .i64 0] 3)) (blk_al hbx (.cells #[.int .i64 0] 3)) (by decide) e.symm))
        clear hown1 hg1 hown hB hbx
        go_wp2_with fail
        go_roundw
        case rel => exact ⟨j + 1, zs ++ [0], by omega, by go_num, by rw [List.length_append, HZL.out]; rfl, by rw [HTS.out, ← HZS.out, HG.out], hR.out, hXX.out, hBB.out⟩
        case measure => simp [intOf]; omega
    · obtain rfl : j = n := by omega
      have hj1 : ¬ (j : Int) < j := by omega
      have HL : Hid (zs = L) := Lib.hid (by rw [HZS.out, List.take_of_length_le (by rw [HE.out]; exact Nat.le_refl _)]; exact hL.out)
      go_wp2_with fail
      go_ret
      exact ⟨⟨_, rfl, by rw [← HL.out]; exact hown⟩, hB⟩
set_option maxRecDepth 100000 in
theorem specColumn_out (T : Tab) (u1 u2 u3 : Value) (f : Int) (w : World) (h : TabRow w T u1 u2 u3) (hf : inZ f 0 ((T.ns.length : Int) - 1) = false) :
    Calls Try.prog 57 #[.agg #[u1, .string ⟨T.y.toArray⟩, u2, u3], .int .i64 f] w fun e w' => (∃ v, e = .returned v ∧ w'.ownsRow w.heap.size 3 1 v 0 []) ∧ Below w.heap.size w w' := by
  obtain ⟨p1, p2, p3⟩ := h
  obtain ⟨a1, c1, rfl, hnl⟩ := sRow_form p1
  obtain ⟨a2, c2, rfl, hrl⟩ := iiRow_form p2
  obtain ⟨a3, c3, rfl, _⟩ := intRow_form p3
  obtain ⟨n, hn⟩ : ∃ n : Nat, T.rs.length = n := ⟨_, rfl⟩
  rw [hn] at hrl ⊢
  have hx0 := alloc_blk w #[.slice a1 T.ns.length c1, .string ⟨T.y.toArray⟩, .slice a2 n c2, .slice a3 T.ys.length c3] 34
  have hA := bl_al w (.cells #[.slice a1 T.ns.length c1, .string ⟨T.y.toArray⟩, .slice a2 n c2, .slice a3 T.ys.length c3] 34)
  have hA2 := bt hA (bl_al _ (.cells #[] 3))
  have hx1 := blk_al hx0 (.cells #[] 3)
  have hO0 := World.ownsRow.mono (World.ownsRow_made (e := 3) (size := 1) (w.alloc (.cells #[.slice a1 T.ns.length c1, .string ⟨T.y.toArray⟩, .slice a2 n c2, .slice a3 T.ys.length c3] 34)) #[] 0 (Nat.le_refl _) (by unfold maxLen; omega) (by simp)) hA.size
  rw [sz_alloc] at hO0
  have x0 := cell_blk hx1 0
  have x2 := cell_blk hx1 2
  clear hn p1 p2 p3 hx0 hA
  go_enter Try.func57, Try.ntmps57
  go_wp2_with fail
  go_loop [5, 6] (fun v i => v = .slice (some ⟨w.heap.size + 1, 0, none⟩) 0 0 ∧ i = .int .i64 0) (fun _ _ => 0)
  case atStart => exact ⟨rfl, rfl⟩
  case round =>
    obtain ⟨rfl, rfl⟩ := hrel
    by_cases hn : 0 < n
    · have hj1 : (0 : Int) < n := by omega
      go_wp2_with fail
      refine (specIn9 _ _ _ _).mono ?_
      rintro e w1 ⟨rfl, rfl⟩
      rw [hf]
      go_wp2_with fail
      go_ret
      exact ⟨⟨_, rfl, hO0⟩, hA2⟩
    · obtain rfl : n = 0 := by omega
      go_wp2_with fail
      go_ret
      exact ⟨⟨_, rfl, hO0⟩, hA2⟩

/-- A COLUMN. -/
theorem specColumn (T : Tab) (u1 u2 u3 : Value) (f : Int) (w : World) (h : TabRow w T u1 u2 u3) (hrl : T.rs.length ≤ 1048576) :
    Calls Try.prog 57 #[.agg #[u1, .string ⟨T.y.toArray⟩, u2, u3], .int .i64 f] w fun e w' => (∃ v, e = .returned v ∧ w'.ownsRow w.heap.size 3 1 v (colT T f).length (intCells (colT T f))) ∧ Below w.heap.size w w' := by
  by_cases hf : 0 ≤ f ∧ f ≤ (T.ns.length : Int) - 1
  · obtain ⟨q, rfl⟩ := Int.eq_ofNat_of_zero_le hf.1
    exact specColumn_in T u1 u2 u3 q w h hf.2 hrl (colT T q) (by show _ = _; rw [colT, if_pos hf]; rfl)
  · have e : colT T f = [] := by rw [colT, if_neg hf]
    rw [e]
    exact specColumn_out T u1 u2 u3 f w h (by rw [inZ, decide_eq_false_iff_not]; exact hf)
end Go.Proofs.Ytgknkjiifcnkpaa
