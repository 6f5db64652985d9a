/-
  Whether a table is right, the program's way.
-/
import Derived.Test.YtgknkjiifcnkpaaI9D
import Derived.Test.YtgknkjiifcnkpaaI9C
import Derived.Test.YtgknkjiifcnkpaaI9H
import Derived.Test.YtgknkjiifcnkpaaPk5
namespace Go.Proofs.Ytgknkjiifcnkpaa
open Go.RowKit

theorem iiRow_cells9 {w : World} {v : Value} {L : List (List Int)} (h : IIRow w v L) : ∃ a c, v = .slice a L.length c ∧ L.length ≤ 9223372036854775807 ∧ (∀ (j : Nat) row, L[j]? = some row → ∃ b off u, a = some ⟨b, off, none⟩ ∧ w.cell? ⟨b, off + j, none⟩ = some u ∧ IntRow w u row) := by
  rcases h with ⟨rfl, a, c, rfl⟩ | ⟨b, off, c, rfl, hl, _, hc⟩
  · exact ⟨a, c, rfl, by simp, by simp⟩
  · refine ⟨_, c, rfl, hl, fun j row hj => ?_⟩
    obtain ⟨u, h1, h2⟩ := hc j row hj
    exact ⟨b, off, u, rfl, h1, h2⟩
/-- Whether a row holds n decimals. -/
def rowB (n : Nat) (r : List Int) : Bool := decide (r.length = n) && r.all valB
theorem headF_of {T : Tab} (h : okT T = true) : headF (T.ns ++ [T.y]) = (0, 0) := by
  have ho := okT_head h
  have hlen : (T.ns ++ [T.y]).length = T.ns.length + 1 := by simp
  unfold headF
  rw [if_pos (inZ_iff.2 (by rw [hlen]; omega))]
  refine headG_ok _ 0 fun j _ hj => ?_
  rw [hlen] at hj
  rw [nmB_iff]
  by_cases hjn : j < T.ns.length
  · have e1 : (T.ns ++ [T.y]).getD j [] = T.ns.getD j [] := by rw [List.getD_eq_getElem?_getD, List.getElem?_append_left hjn, List.getD_eq_getElem?_getD]
    have e2 : (T.ns ++ [T.y]).take j = T.ns.take j := by rw [List.take_append_of_le_length (by omega)]
    rw [e1, e2]
    exact ho.2.2.2.2.1 j hjn
  · obtain rfl : j = T.ns.length := by omega
    have e1 : (T.ns ++ [T.y]).getD T.ns.length [] = T.y := by rw [List.getD_eq_getElem?_getD]; simp
    have e2 : (T.ns ++ [T.y]).take T.ns.length = T.ns := by simp
    rw [e1, e2]
    exact ⟨ho.2.1, ho.2.2.2.2.2.1⟩
theorem okT_split (T : Tab) : okT T = (decide ((headF (T.ns ++ [T.y])).1 = 0) && (inZ (T.rs.length : Int) 1 40 && ((decide (T.ys.length = T.rs.length) && T.ys.all valB) && T.rs.all (rowB T.ns.length)))) := by
  rw [Bool.eq_iff_iff]
  simp only [Bool.and_eq_true, decide_eq_true_eq]
  constructor
  · intro h
    have ho := okT_head h
    refine ⟨by rw [headF_of h], inZ_iff.2 (by omega), ⟨by omega, List.all_eq_true.2 fun z hz => ?_⟩, List.all_eq_true.2 fun r hr => ?_⟩
    · obtain ⟨j, hj⟩ := List.getElem?_of_mem hz
      have k := (ho.2.2.2.2.2.2 j (by have := (List.getElem?_eq_some_iff.1 hj).1; omega)).2.1
      rw [getD_at hj] at k
      exact k
    · obtain ⟨j, hj⟩ := List.getElem?_of_mem hr
      have k := ho.2.2.2.2.2.2 j (List.getElem?_eq_some_iff.1 hj).1
      rw [getD_at hj] at k
      rw [rowB, Bool.and_eq_true, decide_eq_true_eq]
      exact ⟨k.1, k.2.2⟩
  · rintro ⟨h1, h2, ⟨h3, h4⟩, h5⟩
    have hh := headF_ok h1
    have hlen : (T.ns ++ [T.y]).length = T.ns.length + 1 := by simp
    rw [hlen] at hh
    have hr := inZ_iff.1 h2
    have hy := nmB_iff.1 (hh.2.2 T.ns.length (by omega))
    have e1 : (T.ns ++ [T.y]).getD T.ns.length [] = T.y := by rw [List.getD_eq_getElem?_getD]; simp
    have e2 : (T.ns ++ [T.y]).take T.ns.length = T.ns := by simp
    rw [e1, e2] at hy
    simp only [okT, headB, Bool.and_eq_true, inZ_iff, List.all_eq_true, List.mem_range, decide_eq_true_eq, Bool.not_eq_true']
    refine ⟨⟨⟨⟨⟨⟨by omega, hy.1⟩, hy.2⟩, by omega⟩, by omega⟩, fun i hi => ?_⟩, fun i hi => ?_⟩
    · have hn := nmB_iff.1 (hh.2.2 i (by omega))
      have e1 : (T.ns ++ [T.y]).getD i [] = T.ns.getD i [] := by rw [List.getD_eq_getElem?_getD, List.getElem?_append_left hi, List.getD_eq_getElem?_getD]
      have e2 : (T.ns ++ [T.y]).take i = T.ns.take i := by rw [List.take_append_of_le_length (by omega)]
      rw [e1, e2] at hn
      simp only [nameAt, hn.1, hn.2]
      rfl
    · have g1 : T.rs[i]? = some T.rs[i] := List.getElem?_eq_getElem hi
      have hiy : i < T.ys.length := by omega
      have g2 : T.ys[i]? = some T.ys[i] := List.getElem?_eq_getElem hiy
      have k := List.all_eq_true.1 h5 _ (List.getElem_mem hi)
      rw [rowB, Bool.and_eq_true, decide_eq_true_eq] at k
      simp only [rowAt, getD_at g1, getD_at g2, k.1, k.2, List.all_eq_true.1 h4 _ (List.getElem_mem hiy)]
      simp
set_option maxRecDepth 100000 in
set_option maxHeartbeats 1000000 in
theorem rowBad9 (w : World) (bx n c1 : Nat) (a1 : Option Addr) (v1 v2 v3 u : Value) (r : List Int) (hb : w.heap[bx]? = some (.cells #[.slice a1 n c1, v1, v2, v3] 34 (0, 0))) (h : IntRow w u r) :
    Calls Try.prog 87 #[u, .pointer (some ⟨bx, 0, none⟩)] w fun e w' => e = .returned (.bool (!rowB n r)) ∧ ∃ q, w' = w.drewN q := by
  have HC := Lib.hid (fun k => areDec9 (w.drewN k) u r n (h.below (below_drewN2 (Below.refl _ _) k)))
  have x0 := cell_blk hb 0
  clear h hb
  go_enter Try.func87, Try.ntmps87
  go_wp2_with fail
  refine (HC.out 0).mono ?_
  rintro e w1 ⟨rfl, q, rfl⟩
  go_wp2_with fail
  go_ret
  exact ⟨ret_bool9 (by simp [rowB]), q, rfl⟩
theorem anyR_take {n : Nat} {s : List (List Int)} {j : Nat} {z : List Int} (h : s[j]? = some z) : (s.take (j + 1)).all (rowB n) = ((s.take j).all (rowB n) && rowB n z) := by
  rw [List.take_add_one, h, List.all_append]
  simp
set_option maxRecDepth 100000 in
set_option maxHeartbeats 2000000 in
theorem indexRow9 (w : World) (bx n c1 : Nat) (a1 : Option Addr) (v1 v2 v3 : Value) (a : Option Addr) (c : Nat) (L : List (List Int)) (hb : w.heap[bx]? = some (.cells #[.slice a1 n c1, v1, v2, v3] 34 (0, 0))) (hl : L.length ≤ 9223372036854775807)
    (hc : ∀ (j : Nat) row, L[j]? = some row → ∃ b off u, a = some ⟨b, off, none⟩ ∧ w.cell? ⟨b, off + j, none⟩ = some u ∧ IntRow w u row) :
    Calls Try.prog 102 #[.slice a L.length c, .func (.func 87) #[] #[.pointer (some ⟨bx, 0, none⟩)]] w fun e w' => (∃ z : Int, e = .returned (.int .i64 z) ∧ decide (0 ≤ z) = !L.all (rowB n)) ∧ ∃ q, w' = w.drewN q := by
  have HC := Lib.hid hc
  have HK := Lib.hid (fun (k : Nat) (u : Value) (r : List Int) (h : IntRow w u r) => rowBad9 (w.drewN k) bx n c1 a1 v1 v2 v3 u r hb (h.below (below_drewN2 (Below.refl _ _) k)))
  clear hc hb
  obtain ⟨m, hm⟩ : ∃ n : Nat, L.length = n := ⟨_, rfl⟩
  rw [hm] at hl ⊢
  have HE := Lib.hid hm
  clear hm
  go_enter Try.func102, Try.ntmps102
  go_wp2_with fail
  go_loopg [5, 8] m (fun g _ i wr => ∃ j z : Nat, j ≤ m ∧ g = m - j ∧ i = .int .i64 j ∧ wr = w.drewN z ∧ (L.take j).all (rowB n) = true)
  case atStart => exact ⟨0, 0, Nat.zero_le _, rfl, rfl, rfl, rfl⟩
  case round =>
    obtain ⟨j, z, hj, rfl, rfl, rfl, ht⟩ := hrel
    have HT := Lib.hid ht
    clear ht
    by_cases hlt : j < m
    · have hj1 : (j : Int) < m := by omega
      have hj0 : (0 : Int) ≤ j := by omega
      obtain ⟨x, hx⟩ : ∃ x, L[j]? = some x := ⟨_, List.getElem?_eq_getElem (by rw [HE.out]; exact hlt)⟩
      obtain ⟨b, off, u, rfl, hcx, hsx⟩ := HC.out j x hx
      have HX := Lib.hid hx
      have HR := Lib.hid (HK.out z u x hsx)
      have hcell : (w.drewN z).cell? ⟨b, off + j, none⟩ = some u := hcx
      clear hx hcx hsx
      obtain ⟨wq, hwq⟩ : ∃ wq, w.drewN z = wq := ⟨_, rfl⟩
      rw [hwq] at hcell HR ⊢
      have HW := Lib.hid hwq
      clear hwq
      cases hp : rowB n x with
      | false =>
        go_wp2_with fail
        refine HR.out.mono ?_
        rintro e w1 ⟨rfl, q, rfl⟩
        rw [hp]
        go_wp2_with fail
        go_ret
        refine ⟨⟨_, rfl, ?_⟩, z + q, by rw [← HW.out, World.drewN_drewN]⟩
        rw [decide_eq_true hj0]
        have h2 : L.all (rowB n) = false := List.all_eq_false.2 ⟨x, List.mem_of_getElem? HX.out, by rw [hp]; simp⟩
        rw [h2]
        rfl
      | true =>
        go_wp2_with fail
        refine HR.out.mono ?_
        rintro e w1 ⟨rfl, q, rfl⟩
        rw [hp]
        go_wp2_with fail
        go_roundg (m - (j + 1))
        case measure => omega
        case rel => exact ⟨j + 1, z + q, by omega, rfl, by go_num, by rw [← HW.out, World.drewN_drewN], by rw [anyR_take HX.out, HT.out, hp]; rfl⟩
    · have hje : j = m := by omega
      have hj1 : ¬ (j : Int) < m := by omega
      have HA : Hid (L.all (rowB n) = true) := Lib.hid (by
        have h := HT.out
        rwa [hje, List.take_of_length_le (by rw [HE.out]; exact Nat.le_refl _)] at h)
      clear hje
      go_wp2_with fail
      go_ret
      exact ⟨⟨_, rfl, by rw [HA.out]; rfl⟩, z, rfl⟩
set_option maxRecDepth 100000 in
theorem containsRow9 (w : World) (bx n c1 : Nat) (a1 : Option Addr) (v1 v2 v3 v : Value) (L : List (List Int)) (hb : w.heap[bx]? = some (.cells #[.slice a1 n c1, v1, v2, v3] 34 (0, 0))) (h : IIRow w v L) :
    Calls Try.prog 86 #[v, .func (.func 87) #[] #[.pointer (some ⟨bx, 0, none⟩)]] w fun e w' => e = .returned (.bool (!L.all (rowB n))) ∧ ∃ q, w' = w.drewN q := by
  obtain ⟨a, c, rfl, hl, hc⟩ := iiRow_cells9 h
  have HC := Lib.hid (indexRow9 w bx n c1 a1 v1 v2 v3 a c L hb hl hc)
  clear hc h hb
  go_enter Try.func86, Try.ntmps86
  go_wp2_with fail
  refine HC.out.mono ?_
  rintro e w1 ⟨⟨z, rfl, hz⟩, q, rfl⟩
  have HZ := Lib.hid hz
  clear hz
  go_wp2_with fail
  go_ret
  exact ⟨ret_bool9 HZ.out, q, rfl⟩

set_option maxRecDepth 100000 in
set_option maxHeartbeats 2000000 in
/-- WHETHER A TABLE IS RIGHT. -/
theorem implTabOk9 (T : Tab) (u1 u2 u3 : Value) (w : World) (h : TabRow w T u1 u2 u3) (hl : T.ns.length ≤ 1048576) (hnl : ∀ p ∈ T.ns, p.length ≤ 9223372036854775807) (hyl : T.y.length ≤ 9223372036854775807) :
    Calls Try.prog 53 #[.agg #[u1, .string ⟨T.y.toArray⟩, u2, u3]] w fun e w' => e = .returned (.bool (okT T)) ∧ Below w.heap.size w w' := by
  obtain ⟨p1, p2, p3⟩ := h
  obtain ⟨a1, c1, rfl, _⟩ := sRow_form p1
  obtain ⟨a2, c2, rfl, _⟩ := iiRow_form p2
  obtain ⟨a3, c3, rfl, hl3, _⟩ := intRow_form p3
  obtain ⟨r, hr⟩ : ∃ r, okT T = r := ⟨_, rfl⟩
  have hs := okT_split T
  rw [hr] at hs ⊢
  have HS := Lib.hid hs
  clear hs hr
  have hA := bl_al w (.cells #[.slice a1 T.ns.length c1, .string ⟨T.y.toArray⟩, .slice a2 T.rs.length c2, .slice a3 T.ys.length c3] 34)
  have hx0 := alloc_blk w #[.slice a1 T.ns.length c1, .string ⟨T.y.toArray⟩, .slice a2 T.rs.length c2, .slice a3 T.ys.length c3] 34
  obtain ⟨w0, hw0⟩ : ∃ w1, w.alloc (.cells #[.slice a1 T.ns.length c1, .string ⟨T.y.toArray⟩, .slice a2 T.rs.length c2, .slice a3 T.ys.length c3] 34) = w1 := ⟨_, rfl⟩
  rw [hw0] at hA hx0
  have r0 := cell_blk hx0 0
  have r1 := cell_blk hx0 1
  have r2 := cell_blk hx0 2
  have r3 := cell_blk hx0 3
  have lr := blk_lt hx0
  have HT : Hid (TabRow w0 T (.slice a1 T.ns.length c1) (.slice a2 T.rs.length c2) (.slice a3 T.ys.length c3)) := Lib.hid ⟨p1.below hA, p2.below hA, p3.below hA⟩
  have HA := Lib.hid hA
  have HX := Lib.hid hx0
  have HML : Hid ((T.ns ++ [T.y]).length ≤ 9223372036854775807 ∧ ∀ p ∈ T.ns ++ [T.y], p.length ≤ 9223372036854775807) := Lib.hid ⟨by simp; omega, fun p hp => by
    rcases List.mem_append.1 hp with hp | hp
    · exact hnl p hp
    · obtain rfl := List.mem_singleton.1 hp
      exact hyl⟩
  have HH := Lib.hid (header9 T (.slice a1 T.ns.length c1) (.slice a2 T.rs.length c2) (.slice a3 T.ys.length c3) w0 HT.out hl)
  obtain ⟨M, hM⟩ : ∃ M, T.ns ++ [T.y] = M := ⟨_, rfl⟩
  rw [hM] at HML HH HS
  clear p1 p2 p3 hA hx0 hnl hyl hM
  go_enter Try.func53, Try.ntmps53
  go_wp2_with fail
  refine HH.out.mono ?_
  rintro e w1 ⟨⟨v, rfl, hO⟩, hB1⟩
  have HSR := Lib.hid (strRow_of_owns hO HML.out.1)
  have HX1 := Lib.hid (blk_next HX.out hB1)
  have HT1 := Lib.hid (HT.out.below hB1)
  have HA1 := Lib.hid (bt HA.out hB1)
  clear hO hB1 r0 r1 r2 r3 lr HX HT HA HH
  go_wp2_with fail
  refine (implHead9 _ M _ HSR.out HML.out.2).mono ?_
  rintro e w2 ⟨rfl, hB2⟩
  have HX2 := Lib.hid (blk_next HX1.out hB2)
  have HT2 := Lib.hid (HT1.out.below hB2)
  have HA2 := Lib.hid (bt HA1.out hB2)
  clear hB2 HX1 HT1 HA1
  have r0 := cell_blk HX2.out 0
  have r1 := cell_blk HX2.out 1
  have r2 := cell_blk HX2.out 2
  have r3 := cell_blk HX2.out 3
  have lr := blk_lt HX2.out
  by_cases hc : (headF M).1 = 0
  · have HC0 := Lib.hid (decide_eq_true hc)
    rw [hc, errV9_nil]
    clear hc
    go_wp2_with fail
    refine (inRange9 _ _ _ _).mono ?_
    rintro e w3 ⟨rfl, rfl⟩
    cases hb1 : inZ (T.rs.length : Int) 1 40 with
    | false =>
      have H1 := Lib.hid hb1
      clear hb1
      go_wp2_with fail
      go_ret
      exact ⟨ret_bool9 (by rw [HS.out, H1.out]; simp), HA2.out⟩
    | true =>
      have H1 := Lib.hid hb1
      clear hb1
      go_wp2_with fail
      refine (areDec9 _ _ T.ys T.rs.length HT2.out.2.2).mono ?_
      rintro e w3 ⟨rfl, q3, hw3⟩
      have hB3 := below_drewN2 (Below.refl w2.heap.size w2) q3
      rw [← hw3] at hB3
      have HX3 := Lib.hid (blk_next HX2.out hB3)
      have HT3 := Lib.hid (HT2.out.below hB3)
      have HA3 := Lib.hid (bt HA2.out hB3)
      clear hw3 hB3 r0 r1 r2 r3 lr
      have r0 := cell_blk HX3.out 0
      have r1 := cell_blk HX3.out 1
      have r2 := cell_blk HX3.out 2
      have r3 := cell_blk HX3.out 3
      have lr := blk_lt HX3.out
      cases hb2 : (decide (T.ys.length = T.rs.length) && T.ys.all valB) with
      | false =>
        have H2 := Lib.hid hb2
        clear hb2
        go_wp2_with fail
        go_ret
        exact ⟨ret_bool9 (by rw [HS.out, H2.out]; simp), HA3.out⟩
      | true =>
        have H2 := Lib.hid hb2
        clear hb2
        go_wp2_with fail
        refine (containsRow9 _ w.heap.size T.ns.length c1 a1 _ _ _ _ T.rs HX3.out HT3.out.2.1).mono ?_
        rintro e w4 ⟨rfl, q4, hw4⟩
        have hB4 := below_drewN2 (Below.refl w3.heap.size w3) q4
        rw [← hw4] at hB4
        have HA4 := Lib.hid (bt HA3.out hB4)
        obtain ⟨b4, hb4⟩ : ∃ b, T.rs.all (rowB T.ns.length) = b := ⟨_, rfl⟩
        rw [hb4] at HS ⊢
        clear hw4 hB4 r0 r1 r2 r3 lr
        go_wp2_with fail
        go_ret
        exact ⟨ret_bool9 (by rw [HS.out, HC0.out, H1.out, H2.out]; simp), HA4.out⟩
  · have HC0 := Lib.hid (decide_eq_false hc)
    rw [errV9_some hc]
    clear hc
    go_wp2_with fail
    go_ret
    exact ⟨ret_bool9 (by rw [HS.out, HC0.out]; rfl), HA2.out⟩
end Go.Proofs.Ytgknkjiifcnkpaa
