/-
  The walk of the exact law on the grid of a table; the program's contract is a hypothesis.
-/
import Derived.Test.YtgknkjiifcnkpaaPk5
import Derived.Test.YtgknkjiifcnkpaaPk3
import Derived.Test.YtgknkjiifcnkpaaPk7
import Derived.Test.YtgknkjiifcnkpaaGrdR
import Derived.Test.YtgknkjiifcnkpaaLawI11
import Derived.Test.YtgknkjiifcnkpaaLawB11
namespace Go.Proofs.Ytgknkjiifcnkpaa
open Go.RowKit

theorem rows_sum {L : List (List Int)} {n m : Nat} (hn : L.length ≤ n) (hm : ∀ r ∈ L, r.length ≤ m) : (L.map List.length).sum ≤ n * m := by
  have h : ∀ K : List (List Int), (∀ r ∈ K, r.length ≤ m) → (K.map List.length).sum ≤ K.length * m := by
    intro K
    induction K with
    | nil => intro _; simp
    | cons x t ih =>
      intro hK
      have h1 := hK x (by simp)
      have h2 := ih (fun r hr => hK r (by simp [hr]))
      rw [List.map_cons, List.sum_cons, List.length_cons, Nat.succ_mul]
      omega
  exact Nat.le_trans (h L hm) (Nat.mul_le_mul_right m hn)
theorem gridZ_small (T : Tab) (b : Int) : ((gridZ T b).cs.length ≤ 4 ∧ ∀ r ∈ (gridZ T b).cs, r.length ≤ 7) ∧ ((gridZ T b).bs.length ≤ 4 ∧ ∀ r ∈ (gridZ T b).bs, r.length ≤ 40) := by
  by_cases h : okT T = true ∧ inZ b 2 8 = true
  · have hp := okT_parts h.1
    rw [gridZ, if_pos h]
    refine ⟨⟨by simpa using hp.1.2, fun r hr => ?_⟩, by simpa using hp.1.2, fun r hr => ?_⟩
    · obtain ⟨f, _, rfl⟩ := List.mem_map.1 hr
      exact cutsZ_len _ _
    · obtain ⟨f, hf, rfl⟩ := List.mem_map.1 hr
      rw [binsZ, List.length_map, (colT_val h.1 (List.mem_range.1 hf)).1]
      exact hp.2.1.2
  · rw [gridZ_no h]
    exact ⟨⟨by simp, by simp⟩, by simp, by simp⟩
theorem gridZ_sums (T : Tab) (b : Int) : cntII (gridZ T b).cs ≤ 28 ∧ cntII (gridZ T b).bs ≤ 160 := by
  have h := gridZ_small T b
  exact ⟨rows_sum h.1.1 h.1.2, rows_sum h.2.1 h.2.2⟩
theorem gridZ_bd (T : Tab) (b : Int) : cntGr (gridZ T b) ≤ 1099511627776 ∧ BdGr (gridZ T b) := by
  have h := gridZ_small T b
  have k := gridZ_sums T b
  refine ⟨by unfold cntGr; omega, ⟨by have := h.1.1; omega, fun r hr => by have := h.1.2 r hr; omega⟩, by have := h.2.1; omega, fun r hr => by have := h.2.2 r hr; omega⟩
theorem gridZ_sz (T : Tab) (b : Int) : szGr (gridZ T b) ≤ 1048576 := by
  have h := gridZ_small T b
  have k := gridZ_sums T b
  have e1 : cntII (gridZ T b).cs = szLI (gridZ T b).cs := rfl
  have e2 : cntII (gridZ T b).bs = szLI (gridZ T b).bs := rfl
  unfold szGr
  omega
theorem specGridX (T : Tab) (b : Int) (u0a u0b u0c : Value) (w : World) (h : TabRow w T u0a u0b u0c) (hf : PreTb T) :
    Calls Try.prog 23 #[.agg #[u0a, .string ⟨T.y.toArray⟩, u0b, u0c], .int .i64 b] w fun e w' => (∃ v0a v0b, e = .returned (.agg #[v0a, v0b]) ∧ GrdRow w' (gridZ T b) v0a v0b) ∧ Below w.heap.size w w' := by
  by_cases hok : okT T = true ∧ inZ b 2 8 = true
  · exact (specGridOf_ok T b u0a u0b u0c w h hf.2.2.2.2.2 hf.2.2.2.2.1 hok.1 hok.2).mono fun _ _ ⟨⟨v1, v2, he, ho⟩, hB⟩ => ⟨⟨v1, v2, he, ho.row (gridZ_sz T b)⟩, hB⟩
  · refine (specGridOf_no T b u0a u0b u0c w h hf.2.2.2.2.2 hf.2.2.2.2.1 hok).mono fun _ w' ⟨he, hB⟩ => ⟨⟨_, _, he, ?_⟩, hB⟩
    rw [gridZ_no hok]
    exact ⟨Or.inl ⟨rfl, _, _, rfl⟩, Or.inl ⟨rfl, _, _, rfl⟩⟩
def ImplGridOf : Prop := ∀ (T : Tab) (b : Int) (u0a u0b u0c : Value) (w : World), TabRow w T u0a u0b u0c → PreTb T → Calls Try.prog 21 #[.agg #[u0a, .string ⟨T.y.toArray⟩, u0b, u0c], .int .i64 b] w fun e w' => (∃ v0a v0b, e = .returned (.agg #[v0a, v0b]) ∧ OwnGr (Iv w.heap.size w'.heap.size) w' v0a v0b ((gridZ T b))) ∧ Below w.heap.size w w'
set_option maxRecDepth 100000 in
set_option maxHeartbeats 4000000 in
theorem lawExGridOf (hI : ImplGridOf) (T : Tab) (b : Int) (u0a u0b u0c : Value) (w : World) (h0_ : TabRow w T u0a u0b u0c) (ok0 : (∀ p ∈ T.ns, p.length ≤ 9223372036854775807) ∧ T.y.length ≤ 9223372036854775807) :
    Calls Try.prog 7 #[.agg #[u0a, .string ⟨T.y.toArray⟩, u0b, u0c], .int .i64 b] w fun e w' => e = .returned (.bool true) ∧ Below w.heap.size w w' := by
  obtain ⟨ga0_0, gc0_0, ga1_0, gc1_0, ga2_0, gc2_0, rfl, rfl, rfl⟩ := TabRow.form h0_
  have h0 := Lib.hid h0_
  clear h0_
  by_cases hov0 : 1048576 < szTab T
  · go_enter Try.func7, Try.ntmps7
    go_wp2_with fail
    refine (szno_Tb T _ _ _ _ ((h0.out).below (bl_al w (.cells #[.slice ga0_0 T.ns.length gc0_0, .string ⟨T.y.toArray⟩, .slice ga1_0 T.rs.length gc1_0, .slice ga2_0 T.ys.length gc2_0] 45))) 1048576 (by omega) (by omega) ok0).mono ?_
    rintro e w1 ⟨rfl, hB⟩
    have E1 := Lib.hid (bt (bl_al w (.cells #[.slice ga0_0 T.ns.length gc0_0, .string ⟨T.y.toArray⟩, .slice ga1_0 T.rs.length gc1_0, .slice ga2_0 T.ys.length gc2_0] 45)) hB)
    have S1 : Hid (w.heap.size + 1 ≤ w1.heap.size ∧ True) := Lib.hid ⟨by have := hB.size; (try simp only [sz_alloc] at this); exact this, trivial⟩
    have B1 := Lib.hid (E1.out)
    have Xn1_1 := blk_next (alloc_blk w #[.slice ga0_0 T.ns.length gc0_0, .string ⟨T.y.toArray⟩, .slice ga1_0 T.rs.length gc1_0, .slice ga2_0 T.ys.length gc2_0] 45) hB
    replace Xn1_1 := Lib.hid Xn1_1
    go_wp2_with fail
    go_ret
    exact ⟨rfl, B1.out⟩
  obtain ⟨m0, hm0⟩ : ∃ m : Nat, 1048576 = szTab T + m := ⟨1048576 - szTab T, by omega⟩
  have mz0 : ¬ ((m0 : Nat) : Int) < 0 := by omega
  have HM0 := Lib.hid hm0
  have HL0 : Hid (m0 ≤ 1048576) := Lib.hid (by omega)
  have ft0 : Hid (FitTb T) := Lib.hid (⟨by omega, ok0⟩)
  clear hov0 hm0
  have bd0 : Hid (PreTb T) := Lib.hid (ft0.out.pre)
  obtain ⟨r0, hr0⟩ : ∃ x, gridZ T b = x := ⟨_, rfl⟩
  have rc0 : Hid (cntGr r0 ≤ 1099511627776) := Lib.hid (by rw [← hr0]; exact (gridZ_bd T b).1)
  have rb0 : Hid (BdGr r0) := Lib.hid (by rw [← hr0]; exact (gridZ_bd T b).2)
  have HI : Hid (∀ (u0a u0b u0c : Value) (w : World), TabRow w T u0a u0b u0c → Calls Try.prog 21 #[.agg #[u0a, .string ⟨T.y.toArray⟩, u0b, u0c], .int .i64 b] w fun e w' => (∃ v0a v0b, e = .returned (.agg #[v0a, v0b]) ∧ OwnGr (Iv w.heap.size w'.heap.size) w' v0a v0b r0) ∧ Below w.heap.size w w') := Lib.hid (fun u0a u0b u0c w k0 => by
    have := hI T b u0a u0b u0c w k0 ft0.out.pre 
    rw [hr0] at this
    exact this)
  have HS : Hid (∀ (u0a u0b u0c : Value) (w : World), TabRow w T u0a u0b u0c → Calls Try.prog 23 #[.agg #[u0a, .string ⟨T.y.toArray⟩, u0b, u0c], .int .i64 b] w fun e w' => (∃ v0a v0b, e = .returned (.agg #[v0a, v0b]) ∧ GrdRow w' r0 v0a v0b) ∧ Below w.heap.size w w') := Lib.hid (fun u0a u0b u0c w k0 => by
    have := specGridX T b u0a u0b u0c w k0 ft0.out.pre 
    rw [hr0] at this
    exact this)
  clear hI hr0
  obtain ⟨K0, hK0⟩ : ∃ K : Nat, 1 + cntTb T = K := ⟨_, rfl⟩
  have KH0 := Lib.hid hK0
  have KL0 : Hid (1 + cntTb T ≤ 140737488355328) := Lib.hid (by have := ft0.out.cnt; omega)
  have KB0 : Hid (K0 ≤ 16777216) := Lib.hid (by have := ft0.out.cnt; omega)
  have kz0 : ¬ ((K0 : Nat) : Int) < 0 := by omega
  clear hK0
  obtain ⟨M0, hM0⟩ : ∃ K : Nat, 1 + cntGr r0 = K := ⟨_, rfl⟩
  have MH0 := Lib.hid hM0
  have ML0 : Hid (1 + cntGr r0 ≤ 140737488355328) := Lib.hid (by have := rc0.out; omega)
  have MB0 : Hid (M0 ≤ 2199023255552) := Lib.hid (by have := rc0.out; omega)
  have mq0 : ¬ ((M0 : Nat) : Int) < 0 := by omega
  clear hM0
  go_enter Try.func7, Try.ntmps7
  go_wp2_with fail
  refine (szok_Tb T _ _ _ _ ((h0.out).below (bl_al w (.cells #[.slice ga0_0 T.ns.length gc0_0, .string ⟨T.y.toArray⟩, .slice ga1_0 T.rs.length gc1_0, .slice ga2_0 T.ys.length gc2_0] 45))) 1048576 (by omega) m0 HM0.out ok0).mono ?_
  rintro e w1 ⟨rfl, hB⟩
  have E1 := Lib.hid (bt (bl_al w (.cells #[.slice ga0_0 T.ns.length gc0_0, .string ⟨T.y.toArray⟩, .slice ga1_0 T.rs.length gc1_0, .slice ga2_0 T.ys.length gc2_0] 45)) hB)
  have S1 : Hid (w.heap.size + 1 ≤ w1.heap.size ∧ True) := Lib.hid ⟨by have := hB.size; (try simp only [sz_alloc] at this); exact this, trivial⟩
  have B1 := Lib.hid (E1.out)
  have Xn1_1 := blk_next (alloc_blk w #[.slice ga0_0 T.ns.length gc0_0, .string ⟨T.y.toArray⟩, .slice ga1_0 T.rs.length gc1_0, .slice ga2_0 T.ys.length gc2_0] 45) hB
  replace Xn1_1 := Lib.hid Xn1_1
  clear E1 hB
  have cn1_0 := cell_blk Xn1_1.out 0
  have cn1_1 := cell_blk Xn1_1.out 1
  have cn1_2 := cell_blk Xn1_1.out 2
  have cn1_3 := cell_blk Xn1_1.out 3
  have ln1_ := blk_lt Xn1_1.out
  go_wp2_with fail
  refine (toX_Tb T _ _ _ _ (h0.out.below B1.out) ft0.out).mono ?_
  rintro e w2 ⟨⟨x2a, x2b, x2c, rfl, ho⟩, hB⟩
  clear cn1_0 cn1_1 cn1_2 cn1_3 ln1_
  have E2 := Lib.hid (hB)
  have S2 : Hid (w1.heap.size ≤ w2.heap.size ∧ True) := Lib.hid ⟨by have := hB.size; (try simp only [sz_alloc] at this); exact this, trivial⟩
  have B2 := Lib.hid (bt B1.out E2.out)
  have Xn1_2 := Lib.hid (blk_next Xn1_1.out E2.out)
  (try simp only [sz_alloc] at ho)
  obtain ⟨lo101, hlo101⟩ : ∃ x, x = w1.heap.size := ⟨_, rfl⟩
  rw [← hlo101] at ho
  have Z101 : Hid (lo101 = w1.heap.size ∧ True) := Lib.hid ⟨hlo101, trivial⟩
  have O101_2 := Lib.hid ho
  clear Xn1_1 E2 B1 hlo101 ho hB
  obtain ⟨fa0_101, fc0_101, fa1_101, fc1_101, fa2_101, fc2_101, rfl, rfl, rfl⟩ := (O101_2.out.row bd0.out).form
  go_wp2_with fail
  refine (HS.out _ _ _ _ (O101_2.out.row bd0.out)).mono ?_
  rintro e w3 ⟨⟨y3_0a, y3_0b, rfl, hr0⟩, hB⟩
  have E3 := Lib.hid (hB)
  have S3 : Hid (w2.heap.size ≤ w3.heap.size ∧ True) := Lib.hid ⟨by have := hB.size; (try simp only [sz_alloc] at this); exact this, trivial⟩
  have B3 := Lib.hid (bt B2.out E3.out)
  have Xn1_3 := Lib.hid (blk_next Xn1_2.out E3.out)
  have O101_3 := Lib.hid (O101_2.out.below E3.out)
  have RW0 := Lib.hid hr0
  clear Xn1_2 O101_2 E3 B2 hr0 O101_3 hB
  obtain ⟨fa0_102, fc0_102, fa1_102, fc1_102, rfl, rfl⟩ := RW0.out.form
  have cn1_0 := cell_blk (blk_al Xn1_3.out (.cells #[.slice fa0_102 r0.cs.length fc0_102, .slice fa1_102 r0.bs.length fc1_102] 38)) 0
  have cn1_1 := cell_blk (blk_al Xn1_3.out (.cells #[.slice fa0_102 r0.cs.length fc0_102, .slice fa1_102 r0.bs.length fc1_102] 38)) 1
  have cn1_2 := cell_blk (blk_al Xn1_3.out (.cells #[.slice fa0_102 r0.cs.length fc0_102, .slice fa1_102 r0.bs.length fc1_102] 38)) 2
  have cn1_3 := cell_blk (blk_al Xn1_3.out (.cells #[.slice fa0_102 r0.cs.length fc0_102, .slice fa1_102 r0.bs.length fc1_102] 38)) 3
  have ln1_ := blk_lt (blk_al Xn1_3.out (.cells #[.slice fa0_102 r0.cs.length fc0_102, .slice fa1_102 r0.bs.length fc1_102] 38))
  go_wp2_with fail
  refine (toX_Tb T _ _ _ _ (((h0.out.below B3.out)).below (bl_al w3 (.cells #[.slice fa0_102 r0.cs.length fc0_102, .slice fa1_102 r0.bs.length fc1_102] 38))) ft0.out).mono ?_
  rintro e w4 ⟨⟨x4a, x4b, x4c, rfl, ho⟩, hB⟩
  clear cn1_0 cn1_1 cn1_2 cn1_3 ln1_
  have E4 := Lib.hid (bt (bl_al w3 (.cells #[.slice fa0_102 r0.cs.length fc0_102, .slice fa1_102 r0.bs.length fc1_102] 38)) hB)
  have S4 : Hid (w3.heap.size + 1 ≤ w4.heap.size ∧ True) := Lib.hid ⟨by have := hB.size; (try simp only [sz_alloc] at this); exact this, trivial⟩
  have B4 := Lib.hid (bt B3.out E4.out)
  have R4 := Lib.hid (E4.out)
  have Xn1_4 := Lib.hid (blk_next Xn1_3.out E4.out)
  have Xn2_4 := blk_next (alloc_blk w3 #[.slice fa0_102 r0.cs.length fc0_102, .slice fa1_102 r0.bs.length fc1_102] 38) hB
  replace Xn2_4 := Lib.hid Xn2_4
  (try simp only [sz_alloc] at ho)
  obtain ⟨lo103, hlo103⟩ : ∃ x, x = w3.heap.size + 1 := ⟨_, rfl⟩
  rw [← hlo103] at ho
  have Z103 : Hid (lo103 = w3.heap.size + 1 ∧ True) := Lib.hid ⟨hlo103, trivial⟩
  have O103_4 := Lib.hid ho
  clear Xn1_3 E4 B3 hlo103 ho hB
  obtain ⟨fa0_103, fc0_103, fa1_103, fc1_103, fa2_103, fc2_103, rfl, rfl, rfl⟩ := (O103_4.out.row bd0.out).form
  go_wp2_with fail
  refine (HI.out _ _ _ _ (((O103_4.out.row bd0.out)).below (bl_al w4 (.cells #[.slice fa0_103 T.ns.length fc0_103, .string ⟨T.y.toArray⟩, .slice fa1_103 T.rs.length fc1_103, .slice fa2_103 T.ys.length fc2_103] 34)))).mono ?_
  rintro e w5 ⟨⟨y5_0a, y5_0b, rfl, hr0⟩, hB⟩
  have E5 := Lib.hid (bt (bl_al w4 (.cells #[.slice fa0_103 T.ns.length fc0_103, .string ⟨T.y.toArray⟩, .slice fa1_103 T.rs.length fc1_103, .slice fa2_103 T.ys.length fc2_103] 34)) hB)
  have S5 : Hid (w4.heap.size + 1 ≤ w5.heap.size ∧ True) := Lib.hid ⟨by have := hB.size; (try simp only [sz_alloc] at this); exact this, trivial⟩
  have B5 := Lib.hid (bt B4.out E5.out)
  have R5 := Lib.hid (bt R4.out E5.out)
  have Xn1_5 := Lib.hid (blk_next Xn1_4.out E5.out)
  have Xn2_5 := Lib.hid (blk_next Xn2_4.out E5.out)
  have Xn3_5 := blk_next (alloc_blk w4 #[.slice fa0_103 T.ns.length fc0_103, .string ⟨T.y.toArray⟩, .slice fa1_103 T.rs.length fc1_103, .slice fa2_103 T.ys.length fc2_103] 34) hB
  replace Xn3_5 := Lib.hid Xn3_5
  have O103_5 := Lib.hid (O103_4.out.below E5.out)
  (try simp only [sz_alloc] at hr0)
  obtain ⟨lo104, hlo104⟩ : ∃ x, x = w4.heap.size + 1 := ⟨_, rfl⟩
  rw [← hlo104] at hr0
  have Z104 : Hid (lo104 = w4.heap.size + 1 ∧ True) := Lib.hid ⟨hlo104, trivial⟩
  have O104_5 := Lib.hid hr0
  clear Xn1_4 Xn2_4 O103_4 E5 B4 R4 hlo104 hr0 hB
  obtain ⟨fa0_104, fc0_104, fa1_104, fc1_104, rfl, rfl⟩ := (O104_5.out.row rb0.out).form
  have cn2_0 := cell_blk (blk_al Xn2_5.out (.cells #[.slice fa0_104 r0.cs.length fc0_104, .slice fa1_104 r0.bs.length fc1_104] 38)) 0
  have cn2_1 := cell_blk (blk_al Xn2_5.out (.cells #[.slice fa0_104 r0.cs.length fc0_104, .slice fa1_104 r0.bs.length fc1_104] 38)) 1
  have ln2_ := blk_lt (blk_al Xn2_5.out (.cells #[.slice fa0_104 r0.cs.length fc0_104, .slice fa1_104 r0.bs.length fc1_104] 38))
  go_wp2_with fail
  refine (eqX_Gr r0 _ _ _ _ _ (((O104_5.out.row rb0.out)).below (bl_al w5 (.cells #[.slice fa0_104 r0.cs.length fc0_104, .slice fa1_104 r0.bs.length fc1_104] 38))) (((RW0.out.below R5.out)).below (bl_al w5 (.cells #[.slice fa0_104 r0.cs.length fc0_104, .slice fa1_104 r0.bs.length fc1_104] 38)))).mono ?_
  rintro e w6 ⟨rfl, hB⟩
  clear cn2_0 cn2_1 ln2_
  have E6 := Lib.hid (bt (bl_al w5 (.cells #[.slice fa0_104 r0.cs.length fc0_104, .slice fa1_104 r0.bs.length fc1_104] 38)) hB)
  have S6 : Hid (w5.heap.size + 1 ≤ w6.heap.size ∧ True) := Lib.hid ⟨by have := hB.size; (try simp only [sz_alloc] at this); exact this, trivial⟩
  have B6 := Lib.hid (bt B5.out E6.out)
  have R6 := Lib.hid (bt R5.out E6.out)
  have Xn1_6 := Lib.hid (blk_next Xn1_5.out E6.out)
  have Xn2_6 := Lib.hid (blk_next Xn2_5.out E6.out)
  have Xn3_6 := Lib.hid (blk_next Xn3_5.out E6.out)
  have Xn4_6 := blk_next (alloc_blk w5 #[.slice fa0_104 r0.cs.length fc0_104, .slice fa1_104 r0.bs.length fc1_104] 38) hB
  replace Xn4_6 := Lib.hid Xn4_6
  have O103_6 := Lib.hid (O103_5.out.below E6.out)
  have O104_6 := Lib.hid (O104_5.out.below E6.out)
  clear Xn1_5 Xn2_5 Xn3_5 O103_5 O104_5 E6 B5 R5 hB
  go_wp2_with fail
  have hS0 : (fun w' : World => w'.cell? ⟨(w4.heap.size), 0, none⟩ = some (.slice fa0_103 T.ns.length fc0_103) ∧ w'.cell? ⟨(w4.heap.size), 1, none⟩ = some (.string ⟨T.y.toArray⟩) ∧ w'.cell? ⟨(w4.heap.size), 2, none⟩ = some (.slice fa1_103 T.rs.length fc1_103) ∧ w'.cell? ⟨(w4.heap.size), 3, none⟩ = some (.slice fa2_103 T.ys.length fc2_103) ∧ w'.cell? ⟨(w.heap.size), 0, none⟩ = some (.slice ga0_0 T.ns.length gc0_0) ∧ w'.cell? ⟨(w.heap.size), 1, none⟩ = some (.string ⟨T.y.toArray⟩) ∧ w'.cell? ⟨(w.heap.size), 2, none⟩ = some (.slice ga1_0 T.rs.length gc1_0) ∧ w'.cell? ⟨(w.heap.size), 3, none⟩ = some (.slice ga2_0 T.ys.length gc2_0) ∧ Below w6.heap.size w6 w') w6.drew := ⟨cell_nx ((Below.refl _ _).drew) (cell_blk Xn3_6.out 0), cell_nx ((Below.refl _ _).drew) (cell_blk Xn3_6.out 1), cell_nx ((Below.refl _ _).drew) (cell_blk Xn3_6.out 2), cell_nx ((Below.refl _ _).drew) (cell_blk Xn3_6.out 3), cell_nx ((Below.refl _ _).drew) (cell_blk Xn1_6.out 0), cell_nx ((Below.refl _ _).drew) (cell_blk Xn1_6.out 1), cell_nx ((Below.refl _ _).drew) (cell_blk Xn1_6.out 2), cell_nx ((Below.refl _ _).drew) (cell_blk Xn1_6.out 3), (Below.refl _ _).drew⟩
  refine wp_region_noPanic ?_
  refine wp_region_held_drew (S := (fun w' : World => w'.cell? ⟨(w4.heap.size), 0, none⟩ = some (.slice fa0_103 T.ns.length fc0_103) ∧ w'.cell? ⟨(w4.heap.size), 1, none⟩ = some (.string ⟨T.y.toArray⟩) ∧ w'.cell? ⟨(w4.heap.size), 2, none⟩ = some (.slice fa1_103 T.rs.length fc1_103) ∧ w'.cell? ⟨(w4.heap.size), 3, none⟩ = some (.slice fa2_103 T.ys.length fc2_103) ∧ w'.cell? ⟨(w.heap.size), 0, none⟩ = some (.slice ga0_0 T.ns.length gc0_0) ∧ w'.cell? ⟨(w.heap.size), 1, none⟩ = some (.string ⟨T.y.toArray⟩) ∧ w'.cell? ⟨(w.heap.size), 2, none⟩ = some (.slice ga1_0 T.rs.length gc1_0) ∧ w'.cell? ⟨(w.heap.size), 3, none⟩ = some (.slice ga2_0 T.ys.length gc2_0) ∧ Below w6.heap.size w6 w')) (by kernel_rfl) hS0 (fun hHeld => ?_)
  clear hS0
  refine wpAnyH_take (i := 0) (oi := ?o1) (v := ?v1) ?hi1 ?hs1 ?hf1 ?hr1 ?hQ1 ?hy1 ?hS1 ?rest1
  case hi1 => rfl
  case hs1 => kernel_rfl
  case hf1 => kernel_rfl
  case hr1 => kernel_rfl
  case hQ1 => exact fun _ _ _ h => h
  case hS1 => assumption
  case hy1 =>
    refine Or.inl ⟨by kernel_rfl, ?_⟩
    intro w' hSw
    (try dsimp only at hSw)
    go_simp
    (try rfl)
  (try simp only [List.getElem_toArray, List.getElem_cons_zero, Act.put, List.setIfInBounds_toArray, List.set_cons_zero, List.set_cons_succ])
  refine wpAnyH_take (i := 1) (oi := ?o2) (v := ?v2) ?hi2 ?hs2 ?hf2 ?hr2 ?hQ2 ?hy2 ?hS2 ?rest2
  case hi2 => rfl
  case hs2 => kernel_rfl
  case hf2 => kernel_rfl
  case hr2 => kernel_rfl
  case hQ2 => exact fun _ _ _ h => h
  case hS2 => assumption
  case hy2 =>
    refine Or.inl ⟨by kernel_rfl, ?_⟩
    intro w' hSw
    (try dsimp only at hSw)
    go_simp
    (try rfl)
  (try simp only [List.getElem_toArray, List.getElem_cons_succ, List.getElem_cons_zero, Act.put, List.setIfInBounds_toArray, List.set_cons_zero, List.set_cons_succ])
  refine wpAnyH_ready (rs := [2]) (by kernel_rfl) (by simp) ?_
  refine AllReadyH.cons rfl (fun K hK => ?_) AllReadyH.nil
  go_simp
  refine (toX_Tb T _ _ _ _ ((h0.out.below B6.out).below ((Below.refl _ _).drew)) ft0.out).mono ?_
  rintro e w7_1 ⟨⟨x7a, x7b, x7c, rfl, ho7_1⟩, hB7_1⟩
  refine hK.out _ _ ?_ (fun hHeld => ?_)
  · exact ⟨cell_nx hB7_1 hHeld.1, cell_nx hB7_1 hHeld.2.1, cell_nx hB7_1 hHeld.2.2.1, cell_nx hB7_1 hHeld.2.2.2.1, cell_nx hB7_1 hHeld.2.2.2.2.1, cell_nx hB7_1 hHeld.2.2.2.2.2.1, cell_nx hB7_1 hHeld.2.2.2.2.2.2.1, cell_nx hB7_1 hHeld.2.2.2.2.2.2.2.1, bt hHeld.2.2.2.2.2.2.2.2 hB7_1⟩
  clear hK K
  (try simp only [List.getElem_toArray, List.getElem_cons_succ, List.getElem_cons_zero, Act.put, List.setIfInBounds_toArray, List.set_cons_zero, List.set_cons_succ])
  refine wpAnyH_ready (rs := [3]) (by kernel_rfl) (by simp) ?_
  refine AllReadyH.cons rfl (fun K hK => ?_) AllReadyH.nil
  go_simp
  refine (eqX_Tb T _ _ _ _ _ _ _ (((O103_6.out.row bd0.out).below ((Below.refl _ _).drew)).below hB7_1) (ho7_1.row bd0.out)).mono ?_
  rintro e w7 ⟨rfl, hB7_2⟩
  refine hK.out _ _ ?_ (fun hHeld => ?_)
  · exact ⟨cell_nx hB7_2 hHeld.1, cell_nx hB7_2 hHeld.2.1, cell_nx hB7_2 hHeld.2.2.1, cell_nx hB7_2 hHeld.2.2.2.1, cell_nx hB7_2 hHeld.2.2.2.2.1, cell_nx hB7_2 hHeld.2.2.2.2.2.1, cell_nx hB7_2 hHeld.2.2.2.2.2.2.1, cell_nx hB7_2 hHeld.2.2.2.2.2.2.2.1, bt hHeld.2.2.2.2.2.2.2.2 hB7_2⟩
  clear hK K
  (try simp only [List.getElem_toArray, List.getElem_cons_succ, List.getElem_cons_zero, Act.put, List.setIfInBounds_toArray, List.set_cons_zero, List.set_cons_succ])
  refine wpAnyH_take (i := 4) (oi := ?o3) (v := ?v3) ?hi3 ?hs3 ?hf3 ?hr3 ?hQ3 ?hy3 ?hS3 ?rest3
  case hi3 => rfl
  case hs3 => kernel_rfl
  case hf3 => kernel_rfl
  case hr3 => kernel_rfl
  case hQ3 => exact fun _ _ _ h => h
  case hS3 => assumption
  case hy3 =>
    refine Or.inl ⟨by kernel_rfl, ?_⟩
    intro w' hSw
    (try dsimp only at hSw)
    go_simp
    (try rfl)
  (try simp only [List.getElem_toArray, List.getElem_cons_succ, List.getElem_cons_zero, Act.put, List.setIfInBounds_toArray, List.set_cons_zero, List.set_cons_succ])
  refine wpAnyH_done (by kernel_rfl) ?_ _
  refine NoPanic.normal ?_
  have hB := hHeld.2.2.2.2.2.2.2.2
  clear hHeld
  have E7 := Lib.hid (hB)
  have S7 : Hid (w6.heap.size ≤ w7.heap.size ∧ True) := Lib.hid ⟨by have := hB.size; (try simp only [sz_alloc] at this); exact this, trivial⟩
  have B7 := Lib.hid (bt B6.out E7.out)
  have R7 := Lib.hid (bt R6.out E7.out)
  have Xn1_7 := Lib.hid (blk_next Xn1_6.out E7.out)
  have Xn2_7 := Lib.hid (blk_next Xn2_6.out E7.out)
  have Xn3_7 := Lib.hid (blk_next Xn3_6.out E7.out)
  have Xn4_7 := Lib.hid (blk_next Xn4_6.out E7.out)
  have O103_7 := Lib.hid (O103_6.out.below E7.out)
  have O104_7 := Lib.hid (O104_6.out.below E7.out)
  clear hB7_1 ho7_1 hB7_2 Xn1_6 Xn2_6 Xn3_6 Xn4_6 O103_6 O104_6 E7 B6 R6 hB
  have cn3_0 := cell_blk Xn3_7.out 0
  have cn3_1 := cell_blk Xn3_7.out 1
  have cn3_2 := cell_blk Xn3_7.out 2
  have cn3_3 := cell_blk Xn3_7.out 3
  have ln3_ := blk_lt Xn3_7.out
  go_wp2_with fail
  refine (markX_Tb (Iv lo103 w4.heap.size) T _ _ _ 1 _ O103_7.out KL0.out ⟨ft0.out, by omega, by omega⟩).mono ?_
  rintro e w8 ⟨he, ho, hC⟩
  clear cn3_0 cn3_1 cn3_2 cn3_3 ln3_
  rw [KH0.out] at he
  subst he
  have hD := hC
  have S8 : Hid (w7.heap.size ≤ w8.heap.size ∧ True) := Lib.hid ⟨hC.size, trivial⟩
  have B8 := Lib.hid (bel_chg B7.out hD (by have := S1.out.1; have := S2.out.1; have := Z101.out.1; have := S3.out.1; have := S4.out.1; have := Z103.out.1; have := S5.out.1; have := Z104.out.1; have := S6.out.1; have := S7.out.1; omega))
  have R8 := Lib.hid (bel_chg R7.out hD (by have := S1.out.1; have := S2.out.1; have := Z101.out.1; have := S3.out.1; have := S4.out.1; have := Z103.out.1; have := S5.out.1; have := Z104.out.1; have := S6.out.1; have := S7.out.1; omega))
  have Xn1_8 := Lib.hid (Chg.blk Xn1_7.out hD (not_iv_lo (by have := S1.out.1; have := S2.out.1; have := Z101.out.1; have := S3.out.1; have := S4.out.1; have := Z103.out.1; have := S5.out.1; have := Z104.out.1; have := S6.out.1; have := S7.out.1; omega)))
  have Xn2_8 := Lib.hid (Chg.blk Xn2_7.out hD (not_iv_lo (by have := S1.out.1; have := S2.out.1; have := Z101.out.1; have := S3.out.1; have := S4.out.1; have := Z103.out.1; have := S5.out.1; have := Z104.out.1; have := S6.out.1; have := S7.out.1; omega)))
  have Xn3_8 := Lib.hid (Chg.blk Xn3_7.out hD (not_iv_hi (by have := S1.out.1; have := S2.out.1; have := Z101.out.1; have := S3.out.1; have := S4.out.1; have := Z103.out.1; have := S5.out.1; have := Z104.out.1; have := S6.out.1; have := S7.out.1; omega)))
  have Xn4_8 := Lib.hid (Chg.blk Xn4_7.out hD (not_iv_hi (by have := S1.out.1; have := S2.out.1; have := Z101.out.1; have := S3.out.1; have := S4.out.1; have := Z103.out.1; have := S5.out.1; have := Z104.out.1; have := S6.out.1; have := S7.out.1; omega)))
  have O104_8 := Lib.hid (O104_7.out.chg hD (iv_hi (by have := S1.out.1; have := S2.out.1; have := Z101.out.1; have := S3.out.1; have := S4.out.1; have := Z103.out.1; have := S5.out.1; have := Z104.out.1; have := S6.out.1; have := S7.out.1; omega)))
  have O103_8 := Lib.hid ho
  clear Xn1_7 Xn2_7 Xn3_7 Xn4_7 O104_7 hD B7 R7 hC ho O103_7
  have cn4_0 := cell_blk Xn4_8.out 0
  have cn4_1 := cell_blk Xn4_8.out 1
  have ln4_ := blk_lt Xn4_8.out
  have cn2_0 := cell_blk Xn2_8.out 0
  have cn2_1 := cell_blk Xn2_8.out 1
  have ln2_ := blk_lt Xn2_8.out
  go_wp2_with fail
  refine (eqX_Gr r0 _ _ _ _ _ (O104_8.out.row rb0.out) (RW0.out.below R8.out)).mono ?_
  rintro e w9 ⟨rfl, hB⟩
  clear cn4_0 cn4_1 ln4_ cn2_0 cn2_1 ln2_
  have E9 := Lib.hid (hB)
  have S9 : Hid (w8.heap.size ≤ w9.heap.size ∧ True) := Lib.hid ⟨by have := hB.size; (try simp only [sz_alloc] at this); exact this, trivial⟩
  have B9 := Lib.hid (bt B8.out E9.out)
  have R9 := Lib.hid (bt R8.out E9.out)
  have Xn1_9 := Lib.hid (blk_next Xn1_8.out E9.out)
  have Xn2_9 := Lib.hid (blk_next Xn2_8.out E9.out)
  have Xn3_9 := Lib.hid (blk_next Xn3_8.out E9.out)
  have Xn4_9 := Lib.hid (blk_next Xn4_8.out E9.out)
  have O104_9 := Lib.hid (O104_8.out.below E9.out)
  clear Xn1_8 Xn2_8 Xn3_8 Xn4_8 O104_8 E9 B8 R8 hB
  have cn4_0 := cell_blk Xn4_9.out 0
  have cn4_1 := cell_blk Xn4_9.out 1
  have ln4_ := blk_lt Xn4_9.out
  go_wp2_with fail
  refine (markX_Gr (Iv lo104 w5.heap.size) r0 _ _ 1 _ O104_9.out ML0.out rb0.out).mono ?_
  rintro e w10 ⟨he, ho, hC⟩
  clear cn4_0 cn4_1 ln4_
  rw [MH0.out] at he
  subst he
  have hD := hC
  have S10 : Hid (w9.heap.size ≤ w10.heap.size ∧ True) := Lib.hid ⟨hC.size, trivial⟩
  have B10 := Lib.hid (bel_chg B9.out hD (by have := S1.out.1; have := S2.out.1; have := Z101.out.1; have := S3.out.1; have := S4.out.1; have := Z103.out.1; have := S5.out.1; have := Z104.out.1; have := S6.out.1; have := S7.out.1; have := S8.out.1; have := S9.out.1; omega))
  have R10 := Lib.hid (bel_chg R9.out hD (by have := S1.out.1; have := S2.out.1; have := Z101.out.1; have := S3.out.1; have := S4.out.1; have := Z103.out.1; have := S5.out.1; have := Z104.out.1; have := S6.out.1; have := S7.out.1; have := S8.out.1; have := S9.out.1; omega))
  have Xn1_10 := Lib.hid (Chg.blk Xn1_9.out hD (not_iv_lo (by have := S1.out.1; have := S2.out.1; have := Z101.out.1; have := S3.out.1; have := S4.out.1; have := Z103.out.1; have := S5.out.1; have := Z104.out.1; have := S6.out.1; have := S7.out.1; have := S8.out.1; have := S9.out.1; omega)))
  have Xn2_10 := Lib.hid (Chg.blk Xn2_9.out hD (not_iv_lo (by have := S1.out.1; have := S2.out.1; have := Z101.out.1; have := S3.out.1; have := S4.out.1; have := Z103.out.1; have := S5.out.1; have := Z104.out.1; have := S6.out.1; have := S7.out.1; have := S8.out.1; have := S9.out.1; omega)))
  have Xn3_10 := Lib.hid (Chg.blk Xn3_9.out hD (not_iv_lo (by have := S1.out.1; have := S2.out.1; have := Z101.out.1; have := S3.out.1; have := S4.out.1; have := Z103.out.1; have := S5.out.1; have := Z104.out.1; have := S6.out.1; have := S7.out.1; have := S8.out.1; have := S9.out.1; omega)))
  have Xn4_10 := Lib.hid (Chg.blk Xn4_9.out hD (not_iv_hi (by have := S1.out.1; have := S2.out.1; have := Z101.out.1; have := S3.out.1; have := S4.out.1; have := Z103.out.1; have := S5.out.1; have := Z104.out.1; have := S6.out.1; have := S7.out.1; have := S8.out.1; have := S9.out.1; omega)))
  have O104_10 := Lib.hid ho
  clear Xn1_9 Xn2_9 Xn3_9 Xn4_9 hD B9 R9 hC ho O104_9
  have cn4_0 := cell_blk Xn4_10.out 0
  have cn4_1 := cell_blk Xn4_10.out 1
  have ln4_ := blk_lt Xn4_10.out
  go_wp2_with fail
  refine (heldX_Gr r0 _ _ 1 _ (O104_10.out.row rb0.out.mk) ML0.out rb0.out).mono ?_
  rintro e w11 ⟨he, hB⟩
  clear cn4_0 cn4_1 ln4_
  rw [MH0.out] at he
  subst he
  have E11 := Lib.hid (hB)
  have S11 : Hid (w10.heap.size ≤ w11.heap.size ∧ True) := Lib.hid ⟨by have := hB.size; (try simp only [sz_alloc] at this); exact this, trivial⟩
  have B11 := Lib.hid (bt B10.out E11.out)
  have R11 := Lib.hid (bt R10.out E11.out)
  have Xn1_11 := Lib.hid (blk_next Xn1_10.out E11.out)
  have Xn2_11 := Lib.hid (blk_next Xn2_10.out E11.out)
  have Xn3_11 := Lib.hid (blk_next Xn3_10.out E11.out)
  have Xn4_11 := Lib.hid (blk_next Xn4_10.out E11.out)
  have O104_11 := Lib.hid (O104_10.out.below E11.out)
  clear Xn1_10 Xn2_10 Xn3_10 Xn4_10 O104_10 E11 B10 R10 hB
  have cn1_0 := cell_blk Xn1_11.out 0
  have cn1_1 := cell_blk Xn1_11.out 1
  have cn1_2 := cell_blk Xn1_11.out 2
  have cn1_3 := cell_blk Xn1_11.out 3
  have ln1_ := blk_lt Xn1_11.out
  go_wp2_with fail
  refine (toX_Tb T _ _ _ _ (h0.out.below B11.out) ft0.out).mono ?_
  rintro e w12 ⟨⟨x12a, x12b, x12c, rfl, ho⟩, hB⟩
  clear cn1_0 cn1_1 cn1_2 cn1_3 ln1_
  have E12 := Lib.hid (hB)
  have S12 : Hid (w11.heap.size ≤ w12.heap.size ∧ True) := Lib.hid ⟨by have := hB.size; (try simp only [sz_alloc] at this); exact this, trivial⟩
  have B12 := Lib.hid (bt B11.out E12.out)
  have R12 := Lib.hid (bt R11.out E12.out)
  have Xn1_12 := Lib.hid (blk_next Xn1_11.out E12.out)
  have Xn2_12 := Lib.hid (blk_next Xn2_11.out E12.out)
  have Xn3_12 := Lib.hid (blk_next Xn3_11.out E12.out)
  have Xn4_12 := Lib.hid (blk_next Xn4_11.out E12.out)
  have O104_12 := Lib.hid (O104_11.out.below E12.out)
  (try simp only [sz_alloc] at ho)
  obtain ⟨lo106, hlo106⟩ : ∃ x, x = w11.heap.size := ⟨_, rfl⟩
  rw [← hlo106] at ho
  have Z106 : Hid (lo106 = w11.heap.size ∧ True) := Lib.hid ⟨hlo106, trivial⟩
  have O106_12 := Lib.hid ho
  clear Xn1_11 Xn2_11 Xn3_11 Xn4_11 O104_11 E12 B11 R11 hlo106 ho hB
  obtain ⟨fa0_106, fc0_106, fa1_106, fc1_106, fa2_106, fc2_106, rfl, rfl, rfl⟩ := (O106_12.out.row bd0.out).form
  go_wp2_with fail
  refine (HI.out _ _ _ _ (O106_12.out.row bd0.out)).mono ?_
  rintro e w13 ⟨⟨y13_0a, y13_0b, rfl, hr0⟩, hB⟩
  have E13 := Lib.hid (hB)
  have S13 : Hid (w12.heap.size ≤ w13.heap.size ∧ True) := Lib.hid ⟨by have := hB.size; (try simp only [sz_alloc] at this); exact this, trivial⟩
  have B13 := Lib.hid (bt B12.out E13.out)
  have R13 := Lib.hid (bt R12.out E13.out)
  have Xn1_13 := Lib.hid (blk_next Xn1_12.out E13.out)
  have Xn2_13 := Lib.hid (blk_next Xn2_12.out E13.out)
  have Xn3_13 := Lib.hid (blk_next Xn3_12.out E13.out)
  have Xn4_13 := Lib.hid (blk_next Xn4_12.out E13.out)
  have O104_13 := Lib.hid (O104_12.out.below E13.out)
  have O106_13 := Lib.hid (O106_12.out.below E13.out)
  (try simp only [sz_alloc] at hr0)
  obtain ⟨lo107, hlo107⟩ : ∃ x, x = w12.heap.size := ⟨_, rfl⟩
  rw [← hlo107] at hr0
  have Z107 : Hid (lo107 = w12.heap.size ∧ True) := Lib.hid ⟨hlo107, trivial⟩
  have O107_13 := Lib.hid hr0
  clear Xn1_12 Xn2_12 Xn3_12 Xn4_12 O104_12 O106_12 E13 B12 R12 hlo107 hr0 O106_13 hB
  obtain ⟨fa0_107, fc0_107, fa1_107, fc1_107, rfl, rfl⟩ := (O107_13.out.row rb0.out).form
  have cn2_0 := cell_blk (blk_al Xn2_13.out (.cells #[.slice fa0_107 r0.cs.length fc0_107, .slice fa1_107 r0.bs.length fc1_107] 38)) 0
  have cn2_1 := cell_blk (blk_al Xn2_13.out (.cells #[.slice fa0_107 r0.cs.length fc0_107, .slice fa1_107 r0.bs.length fc1_107] 38)) 1
  have ln2_ := blk_lt (blk_al Xn2_13.out (.cells #[.slice fa0_107 r0.cs.length fc0_107, .slice fa1_107 r0.bs.length fc1_107] 38))
  go_wp2_with fail
  refine (eqX_Gr r0 _ _ _ _ _ (((O107_13.out.row rb0.out)).below (bl_al w13 (.cells #[.slice fa0_107 r0.cs.length fc0_107, .slice fa1_107 r0.bs.length fc1_107] 38))) (((RW0.out.below R13.out)).below (bl_al w13 (.cells #[.slice fa0_107 r0.cs.length fc0_107, .slice fa1_107 r0.bs.length fc1_107] 38)))).mono ?_
  rintro e w14 ⟨rfl, hB⟩
  clear cn2_0 cn2_1 ln2_
  have E14 := Lib.hid (bt (bl_al w13 (.cells #[.slice fa0_107 r0.cs.length fc0_107, .slice fa1_107 r0.bs.length fc1_107] 38)) hB)
  have S14 : Hid (w13.heap.size + 1 ≤ w14.heap.size ∧ True) := Lib.hid ⟨by have := hB.size; (try simp only [sz_alloc] at this); exact this, trivial⟩
  have B14 := Lib.hid (bt B13.out E14.out)
  have R14 := Lib.hid (bt R13.out E14.out)
  have Xn1_14 := Lib.hid (blk_next Xn1_13.out E14.out)
  have Xn2_14 := Lib.hid (blk_next Xn2_13.out E14.out)
  have Xn3_14 := Lib.hid (blk_next Xn3_13.out E14.out)
  have Xn4_14 := Lib.hid (blk_next Xn4_13.out E14.out)
  have Xn5_14 := blk_next (alloc_blk w13 #[.slice fa0_107 r0.cs.length fc0_107, .slice fa1_107 r0.bs.length fc1_107] 38) hB
  replace Xn5_14 := Lib.hid Xn5_14
  have O104_14 := Lib.hid (O104_13.out.below E14.out)
  have O107_14 := Lib.hid (O107_13.out.below E14.out)
  clear Xn1_13 Xn2_13 Xn3_13 Xn4_13 O104_13 O107_13 E14 B13 R13 hB
  have cn4_0 := cell_blk Xn4_14.out 0
  have cn4_1 := cell_blk Xn4_14.out 1
  have ln4_ := blk_lt Xn4_14.out
  go_wp2_with fail
  refine (heldX_Gr r0 _ _ 1 _ (O104_14.out.row rb0.out.mk) ML0.out rb0.out).mono ?_
  rintro e w15 ⟨he, hB⟩
  clear cn4_0 cn4_1 ln4_
  rw [MH0.out] at he
  subst he
  have E15 := Lib.hid (hB)
  have S15 : Hid (w14.heap.size ≤ w15.heap.size ∧ True) := Lib.hid ⟨by have := hB.size; (try simp only [sz_alloc] at this); exact this, trivial⟩
  have B15 := Lib.hid (bt B14.out E15.out)
  have R15 := Lib.hid (bt R14.out E15.out)
  have Xn1_15 := Lib.hid (blk_next Xn1_14.out E15.out)
  have Xn2_15 := Lib.hid (blk_next Xn2_14.out E15.out)
  have Xn3_15 := Lib.hid (blk_next Xn3_14.out E15.out)
  have Xn4_15 := Lib.hid (blk_next Xn4_14.out E15.out)
  have Xn5_15 := Lib.hid (blk_next Xn5_14.out E15.out)
  have O104_15 := Lib.hid (O104_14.out.below E15.out)
  have O107_15 := Lib.hid (O107_14.out.below E15.out)
  clear Xn1_14 Xn2_14 Xn3_14 Xn4_14 Xn5_14 O104_14 O107_14 E15 B14 R14 hB
  go_wp2_with fail
  go_ret
  exact ⟨rfl, B15.out⟩

/-- What is drawn for the law on grids. -/
def SmallT11 (T : Tab) : Prop := T.ns.length ≤ 1024 ∧ T.rs.length ≤ 1024 ∧ (∀ r ∈ T.rs, r.length ≤ 1024) ∧ T.ys.length ≤ 1024 ∧ (∀ p ∈ T.ns, p.length ≤ 1024) ∧ T.y.length ≤ 1024
def DrawGrid : Prop := ∀ (w : World) (v : Value) (n : Nat), Bytes w v n → Calls Try.prog 20 #[v] w fun e w' => (∃ (T : Tab) (u1 u2 u3 : Value) (b : Int), e = .returned (.tuple #[.agg #[u1, .string ⟨T.y.toArray⟩, u2, u3], .int .i64 b]) ∧ TabRow w' T u1 u2 u3 ∧ SmallT11 T) ∧ Below w.heap.size w w'
theorem sameG9_self (L : List (List Int)) : sameG9 L L = true := by simp [sameG9]
theorem sameGr_self (G : Grd) : sameGr G G = true := by simp [sameGr, sameG9_self]
set_option maxRecDepth 100000 in
set_option maxHeartbeats 4000000 in
theorem lawGrid (hD : DrawGrid) (hI : ImplGridOf) (hSame : ImplSameGrid) (hOk : ImplGridOk okGr) (hRows : ImplRowsIn) (w : World) (v : Value) (n : Nat) (hb : Bytes w v n) :
    Calls Try.prog 5 #[v] w fun e w' => e = .returned (.bool true) ∧ Below w.heap.size w w' := by
  by_cases hn : 1048576 < n
  · have HK := Lib.hid (big_yes w v n hb hn)
    go_enter Try.func5, Try.ntmps5
    go_wp2_with fail
    refine HK.out.mono ?_
    rintro e w1 ⟨rfl, rfl⟩
    go_wp2_with fail
    go_ret
    exact ⟨rfl, Below.refl _ _⟩
  · have HK := Lib.hid (big_no w v n hb hn)
    have HD := Lib.hid (hD w v n hb)
    clear hD hb hn
    go_enter Try.func5, Try.ntmps5
    go_wp2_with fail
    refine HK.out.mono ?_
    rintro e w1 ⟨rfl, rfl⟩
    go_wp2_with fail
    refine HD.out.mono ?_
    rintro e w1 ⟨⟨T, u1, u2, u3, b, rfl, hT, hS⟩, hB0⟩
    obtain ⟨a1, c1, a2, c2, a3, c3, rfl, rfl, rfl⟩ := hT.form
    have HP : Hid (PreTb T) := Lib.hid ⟨by have := hS.1; omega, by have := hS.2.1; omega, fun r hr => by have := hS.2.2.1 r hr; omega, by have := hS.2.2.2.1; omega, fun p hp => by have := hS.2.2.2.2.1 p hp; omega, by have := hS.2.2.2.2.2; omega⟩
    have O200_1 := Lib.hid hT
    have B1 := Lib.hid hB0
    obtain ⟨G, hG⟩ : ∃ G, gridZ T b = G := ⟨_, rfl⟩
    have HBD : Hid (BdGr G) := Lib.hid (by rw [← hG]; exact (gridZ_bd T b).2)
    have HSZ : Hid (szGr G ≤ 1048576) := Lib.hid (by rw [← hG]; exact gridZ_sz T b)
    have HI : Hid (∀ (u1 u2 u3 : Value) (w : World), TabRow w T u1 u2 u3 → Calls Try.prog 21 #[.agg #[u1, .string ⟨T.y.toArray⟩, u2, u3], .int .i64 b] w fun e w' => (∃ v1 v2, e = .returned (.agg #[v1, v2]) ∧ GrdRow w' G v1 v2) ∧ Below w.heap.size w w') := Lib.hid (fun u1 u2 u3 w h => (hG ▸ hI T b u1 u2 u3 w h HP.out).mono fun _ _ ⟨⟨v1, v2, he, ho⟩, hB⟩ => ⟨⟨v1, v2, he, ho.row HBD.out⟩, hB⟩)
    have HS : Hid (∀ (u1 u2 u3 : Value) (w : World), TabRow w T u1 u2 u3 → Calls Try.prog 23 #[.agg #[u1, .string ⟨T.y.toArray⟩, u2, u3], .int .i64 b] w fun e w' => (∃ v1 v2, e = .returned (.agg #[v1, v2]) ∧ GrdRow w' G v1 v2) ∧ Below w.heap.size w w') := Lib.hid (fun u1 u2 u3 w h => hG ▸ specGridX T b u1 u2 u3 w h HP.out)
    have HSS : Hid (∀ (u1 u2 v1 v2 : Value) (w : World), GrdRow w G u1 u2 → GrdRow w G v1 v2 → Calls Try.prog 22 #[.agg #[u1, u2], .agg #[v1, v2]] w fun e w' => e = .returned (.bool true) ∧ Below w.heap.size w w') := Lib.hid (fun u1 u2 v1 v2 w h1 h2 => by have := specSameGrid G G u1 u2 v1 v2 w h1 h2; rwa [sameGr_self] at this)
    have HIS : Hid (∀ (u1 u2 v1 v2 : Value) (w : World), GrdRow w G u1 u2 → GrdRow w G v1 v2 → Calls Try.prog 24 #[.agg #[u1, u2], .agg #[v1, v2]] w fun e w' => e = .returned (.bool true) ∧ Below w.heap.size w w') := Lib.hid (fun u1 u2 v1 v2 w h1 h2 => by have := hSame G G u1 u2 v1 v2 w h1 h2 HSZ.out HSZ.out; rwa [sameGr_self] at this)
    obtain ⟨tk, htk⟩ : ∃ k, okT T = k := ⟨_, rfl⟩
    have HTO : Hid (∀ (u1 u2 u3 : Value) (w : World), TabRow w T u1 u2 u3 → Calls Try.prog 25 #[.agg #[u1, .string ⟨T.y.toArray⟩, u2, u3]] w fun e w' => e = .returned (.bool tk) ∧ Below w.heap.size w w') := Lib.hid (fun u1 u2 u3 w h => specTableOk T u1 u2 u3 w h HP.out.2.2.2.2.2 HP.out.2.2.2.2.1 tk (Lib.hid htk))
    clear hT hS hB0 HD hI hSame
    by_cases hok : okT T = true ∧ inZ b 2 8 = true
    · obtain rfl : tk = true := htk.symm.trans hok.1
      have hin := inZ_iff.1 hok.2
      have b1 : ¬ b < 2 := by omega
      have b2 : ¬ 8 < b := by omega
      have hgo := gridZ_ok hok.1 hok.2
      rw [hG] at hgo
      have L1 : Hid (G.cs.length = T.ns.length) := Lib.hid hgo.2.2
      have HIO : Hid (∀ (u1 u2 : Value) (w : World), GrdRow w G u1 u2 → Calls Try.prog 26 #[.agg #[u1, u2]] w fun e w' => e = .returned (.bool true) ∧ Below w.heap.size w w') := Lib.hid (fun u1 u2 w h => by have := hOk G u1 u2 w h HSZ.out; rwa [hgo.1] at this)
      have HSO : Hid (∀ (u1 u2 : Value) (w : World), GrdRow w G u1 u2 → Calls Try.prog 27 #[.agg #[u1, u2]] w fun e w' => e = .returned (.bool true) ∧ Below w.heap.size w w') := Lib.hid (fun u1 u2 w h => by have := specGridOk G u1 u2 w h HSZ.out; rwa [hgo.1] at this)
      have HRI : Hid (∀ (u1 u2 : Value) (w : World), GrdRow w G u1 u2 → Calls Try.prog 28 #[.agg #[u1, u2]] w fun e w' => e = .returned (.int .i64 (T.rs.length : Int)) ∧ Below w.heap.size w w') := Lib.hid (fun u1 u2 w h => by have := hRows G u1 u2 w h HSZ.out; rwa [hgo.2.1] at this)
      clear hok hin hgo hG htk hOk hRows
      go_wp2_with fail
      refine (HI.out  _ _ _ _ ((O200_1.out).below (bl_al w1 (.cells #[.slice a1 T.ns.length c1, .string ⟨T.y.toArray⟩, .slice a2 T.rs.length c2, .slice a3 T.ys.length c3] 34))) ).mono ?_
      rintro e w2 ⟨⟨y2_0a, y2_0b, rfl, hr0⟩, hB⟩
      have E2 := Lib.hid (bt (bl_al w1 (.cells #[.slice a1 T.ns.length c1, .string ⟨T.y.toArray⟩, .slice a2 T.rs.length c2, .slice a3 T.ys.length c3] 34)) hB)
      have S2 : Hid (w1.heap.size + 1 ≤ w2.heap.size ∧ True) := Lib.hid ⟨by have := hB.size; (try simp only [sz_alloc] at this); exact this, trivial⟩
      have B2 := Lib.hid (bt B1.out E2.out)
      have Xn1_2 := blk_next (alloc_blk w1 #[.slice a1 T.ns.length c1, .string ⟨T.y.toArray⟩, .slice a2 T.rs.length c2, .slice a3 T.ys.length c3] 34) hB
      replace Xn1_2 := Lib.hid Xn1_2
      have O200_2 := Lib.hid (O200_1.out.below E2.out)
      have O201_2 := Lib.hid hr0
      clear O200_1 E2 B1 hr0 hB
      obtain ⟨fa0_201, fc0_201, fa1_201, fc1_201, rfl, rfl⟩ := O201_2.out.form
      go_wp2_with fail
      have hS0 : (fun w' : World => w'.cell? ⟨(w2.heap.size), 0, none⟩ = some (.slice fa0_201 G.cs.length fc0_201) ∧ w'.cell? ⟨(w2.heap.size), 1, none⟩ = some (.slice fa1_201 G.bs.length fc1_201) ∧ w'.cell? ⟨(w1.heap.size), 0, none⟩ = some (.slice a1 T.ns.length c1) ∧ w'.cell? ⟨(w1.heap.size), 1, none⟩ = some (.string ⟨T.y.toArray⟩) ∧ w'.cell? ⟨(w1.heap.size), 2, none⟩ = some (.slice a2 T.rs.length c2) ∧ w'.cell? ⟨(w1.heap.size), 3, none⟩ = some (.slice a3 T.ys.length c3) ∧ Below (w2.alloc (.cells #[.slice fa0_201 G.cs.length fc0_201, .slice fa1_201 G.bs.length fc1_201] 38)).heap.size (w2.alloc (.cells #[.slice fa0_201 G.cs.length fc0_201, .slice fa1_201 G.bs.length fc1_201] 38)) w') (w2.alloc (.cells #[.slice fa0_201 G.cs.length fc0_201, .slice fa1_201 G.bs.length fc1_201] 38)).drew := ⟨cell_nx ((Below.refl _ _).drew) (cell_blk (alloc_blk w2 #[.slice fa0_201 G.cs.length fc0_201, .slice fa1_201 G.bs.length fc1_201] 38) 0), cell_nx ((Below.refl _ _).drew) (cell_blk (alloc_blk w2 #[.slice fa0_201 G.cs.length fc0_201, .slice fa1_201 G.bs.length fc1_201] 38) 1), cell_nx ((Below.refl _ _).drew) (cell_blk (blk_al Xn1_2.out (.cells #[.slice fa0_201 G.cs.length fc0_201, .slice fa1_201 G.bs.length fc1_201] 38)) 0), cell_nx ((Below.refl _ _).drew) (cell_blk (blk_al Xn1_2.out (.cells #[.slice fa0_201 G.cs.length fc0_201, .slice fa1_201 G.bs.length fc1_201] 38)) 1), cell_nx ((Below.refl _ _).drew) (cell_blk (blk_al Xn1_2.out (.cells #[.slice fa0_201 G.cs.length fc0_201, .slice fa1_201 G.bs.length fc1_201] 38)) 2), cell_nx ((Below.refl _ _).drew) (cell_blk (blk_al Xn1_2.out (.cells #[.slice fa0_201 G.cs.length fc0_201, .slice fa1_201 G.bs.length fc1_201] 38)) 3), (Below.refl _ _).drew⟩
      refine wp_region_noPanic ?_
      refine wp_region_held_drew (S := (fun w' : World => w'.cell? ⟨(w2.heap.size), 0, none⟩ = some (.slice fa0_201 G.cs.length fc0_201) ∧ w'.cell? ⟨(w2.heap.size), 1, none⟩ = some (.slice fa1_201 G.bs.length fc1_201) ∧ w'.cell? ⟨(w1.heap.size), 0, none⟩ = some (.slice a1 T.ns.length c1) ∧ w'.cell? ⟨(w1.heap.size), 1, none⟩ = some (.string ⟨T.y.toArray⟩) ∧ w'.cell? ⟨(w1.heap.size), 2, none⟩ = some (.slice a2 T.rs.length c2) ∧ w'.cell? ⟨(w1.heap.size), 3, none⟩ = some (.slice a3 T.ys.length c3) ∧ Below (w2.alloc (.cells #[.slice fa0_201 G.cs.length fc0_201, .slice fa1_201 G.bs.length fc1_201] 38)).heap.size (w2.alloc (.cells #[.slice fa0_201 G.cs.length fc0_201, .slice fa1_201 G.bs.length fc1_201] 38)) w')) (by kernel_rfl) hS0 (fun hHeld => ?_)
      clear hS0
      refine wpAnyH_take (i := 0) (oi := ?o4) (v := ?v4) ?hi4 ?hs4 ?hf4 ?hr4 ?hQ4 ?hy4 ?hS4 ?rest4
      case hi4 => rfl
      case hs4 => kernel_rfl
      case hf4 => kernel_rfl
      case hr4 => kernel_rfl
      case hQ4 => exact fun _ _ _ h => h
      case hS4 => assumption
      case hy4 =>
        refine Or.inl ⟨by kernel_rfl, ?_⟩
        intro w' hSw
        (try dsimp only at hSw)
        go_simp
        (try rfl)
      (try simp only [List.getElem_toArray, List.getElem_cons_zero, Act.put, List.setIfInBounds_toArray, List.set_cons_zero, List.set_cons_succ])
      refine wpAnyH_take (i := 1) (oi := ?o5) (v := ?v5) ?hi5 ?hs5 ?hf5 ?hr5 ?hQ5 ?hy5 ?hS5 ?rest5
      case hi5 => rfl
      case hs5 => kernel_rfl
      case hf5 => kernel_rfl
      case hr5 => kernel_rfl
      case hQ5 => exact fun _ _ _ h => h
      case hS5 => assumption
      case hy5 =>
        refine Or.inl ⟨by kernel_rfl, ?_⟩
        intro w' hSw
        (try dsimp only at hSw)
        go_simp
        (try rfl)
      (try simp only [List.getElem_toArray, List.getElem_cons_succ, List.getElem_cons_zero, Act.put, List.setIfInBounds_toArray, List.set_cons_zero, List.set_cons_succ])
      refine wpAnyH_take (i := 2) (oi := ?o6) (v := ?v6) ?hi6 ?hs6 ?hf6 ?hr6 ?hQ6 ?hy6 ?hS6 ?rest6
      case hi6 => rfl
      case hs6 => kernel_rfl
      case hf6 => kernel_rfl
      case hr6 => kernel_rfl
      case hQ6 => exact fun _ _ _ h => h
      case hS6 => assumption
      case hy6 =>
        refine Or.inl ⟨by kernel_rfl, ?_⟩
        intro w' hSw
        (try dsimp only at hSw)
        go_simp
        (try rfl)
      (try simp only [List.getElem_toArray, List.getElem_cons_succ, List.getElem_cons_zero, Act.put, List.setIfInBounds_toArray, List.set_cons_zero, List.set_cons_succ])
      refine wpAnyH_ready (rs := [3]) (by kernel_rfl) (by simp) ?_
      refine AllReadyH.cons rfl (fun K hK => ?_) AllReadyH.nil
      go_simp
      refine (HS.out  _ _ _ _ (((O200_2.out).below (bl_al w2 (.cells #[.slice fa0_201 G.cs.length fc0_201, .slice fa1_201 G.bs.length fc1_201] 38))).below ((Below.refl _ _).drew)) ).mono ?_
      rintro e w3_1 ⟨⟨y3_1_0a, y3_1_0b, rfl, hr0_3_1⟩, hB3_1⟩
      refine hK.out _ _ ?_ (fun hHeld => ?_)
      · exact ⟨cell_nx hB3_1 hHeld.1, cell_nx hB3_1 hHeld.2.1, cell_nx hB3_1 hHeld.2.2.1, cell_nx hB3_1 hHeld.2.2.2.1, cell_nx hB3_1 hHeld.2.2.2.2.1, cell_nx hB3_1 hHeld.2.2.2.2.2.1, bt hHeld.2.2.2.2.2.2 hB3_1⟩
      clear hK K
      (try simp only [List.getElem_toArray, List.getElem_cons_succ, List.getElem_cons_zero, Act.put, List.setIfInBounds_toArray, List.set_cons_zero, List.set_cons_succ])
      refine wpAnyH_ready (rs := [4]) (by kernel_rfl) (by simp) ?_
      refine AllReadyH.cons rfl (fun K hK => ?_) AllReadyH.nil
      go_simp
      refine (HSS.out  _ _ _ _ _ ((((O201_2.out).below (bl_al w2 (.cells #[.slice fa0_201 G.cs.length fc0_201, .slice fa1_201 G.bs.length fc1_201] 38))).below ((Below.refl _ _).drew)).below hB3_1) hr0_3_1 ).mono ?_
      rintro e w3_2 ⟨rfl, hB3_2⟩
      refine hK.out _ _ ?_ (fun hHeld => ?_)
      · exact ⟨cell_nx hB3_2 hHeld.1, cell_nx hB3_2 hHeld.2.1, cell_nx hB3_2 hHeld.2.2.1, cell_nx hB3_2 hHeld.2.2.2.1, cell_nx hB3_2 hHeld.2.2.2.2.1, cell_nx hB3_2 hHeld.2.2.2.2.2.1, bt hHeld.2.2.2.2.2.2 hB3_2⟩
      clear hK K
      (try simp only [List.getElem_toArray, List.getElem_cons_succ, List.getElem_cons_zero, Act.put, List.setIfInBounds_toArray, List.set_cons_zero, List.set_cons_succ])
      refine wpAnyH_take (i := 5) (oi := ?o7) (v := ?v7) ?hi7 ?hs7 ?hf7 ?hr7 ?hQ7 ?hy7 ?hS7 ?rest7
      case hi7 => rfl
      case hs7 => kernel_rfl
      case hf7 => kernel_rfl
      case hr7 => kernel_rfl
      case hQ7 => exact fun _ _ _ h => h
      case hS7 => assumption
      case hy7 =>
        refine Or.inl ⟨by kernel_rfl, ?_⟩
        intro w' hSw
        (try dsimp only at hSw)
        go_simp
        (try rfl)
      (try simp only [List.getElem_toArray, List.getElem_cons_succ, List.getElem_cons_zero, Act.put, List.setIfInBounds_toArray, List.set_cons_zero, List.set_cons_succ])
      refine wpAnyH_take (i := 6) (oi := ?o8) (v := ?v8) ?hi8 ?hs8 ?hf8 ?hr8 ?hQ8 ?hy8 ?hS8 ?rest8
      case hi8 => rfl
      case hs8 => kernel_rfl
      case hf8 => kernel_rfl
      case hr8 => kernel_rfl
      case hQ8 => exact fun _ _ _ h => h
      case hS8 => assumption
      case hy8 =>
        refine Or.inl ⟨by kernel_rfl, ?_⟩
        intro w' hSw
        (try dsimp only at hSw)
        go_simp
        (try rfl)
      (try simp only [List.getElem_toArray, List.getElem_cons_succ, List.getElem_cons_zero, Act.put, List.setIfInBounds_toArray, List.set_cons_zero, List.set_cons_succ])
      refine wpAnyH_take (i := 7) (oi := ?o9) (v := ?v9) ?hi9 ?hs9 ?hf9 ?hr9 ?hQ9 ?hy9 ?hS9 ?rest9
      case hi9 => rfl
      case hs9 => kernel_rfl
      case hf9 => kernel_rfl
      case hr9 => kernel_rfl
      case hQ9 => exact fun _ _ _ h => h
      case hS9 => assumption
      case hy9 =>
        refine Or.inl ⟨by kernel_rfl, ?_⟩
        intro w' hSw
        (try dsimp only at hSw)
        go_simp
        (try rfl)
      (try simp only [List.getElem_toArray, List.getElem_cons_succ, List.getElem_cons_zero, Act.put, List.setIfInBounds_toArray, List.set_cons_zero, List.set_cons_succ])
      refine wpAnyH_take (i := 8) (oi := ?o10) (v := ?v10) ?hi10 ?hs10 ?hf10 ?hr10 ?hQ10 ?hy10 ?hS10 ?rest10
      case hi10 => rfl
      case hs10 => kernel_rfl
      case hf10 => kernel_rfl
      case hr10 => kernel_rfl
      case hQ10 => exact fun _ _ _ h => h
      case hS10 => assumption
      case hy10 =>
        refine Or.inl ⟨by kernel_rfl, ?_⟩
        intro w' hSw
        (try dsimp only at hSw)
        go_simp
        (try rfl)
      (try simp only [List.getElem_toArray, List.getElem_cons_succ, List.getElem_cons_zero, Act.put, List.setIfInBounds_toArray, List.set_cons_zero, List.set_cons_succ])
      refine wpAnyH_take (i := 9) (oi := ?o11) (v := ?v11) ?hi11 ?hs11 ?hf11 ?hr11 ?hQ11 ?hy11 ?hS11 ?rest11
      case hi11 => rfl
      case hs11 => kernel_rfl
      case hf11 => kernel_rfl
      case hr11 => kernel_rfl
      case hQ11 => exact fun _ _ _ h => h
      case hS11 => assumption
      case hy11 =>
        refine Or.inl ⟨by kernel_rfl, ?_⟩
        intro w' hSw
        (try dsimp only at hSw)
        go_simp
        (try rfl)
      (try simp only [List.getElem_toArray, List.getElem_cons_succ, List.getElem_cons_zero, Act.put, List.setIfInBounds_toArray, List.set_cons_zero, List.set_cons_succ])
      refine wpAnyH_ready (rs := [10]) (by kernel_rfl) (by simp) ?_
      refine AllReadyH.cons rfl (fun K hK => ?_) AllReadyH.nil
      go_simp
      refine (HS.out  _ _ _ _ (((((O200_2.out).below (bl_al w2 (.cells #[.slice fa0_201 G.cs.length fc0_201, .slice fa1_201 G.bs.length fc1_201] 38))).below ((Below.refl _ _).drew)).below hB3_1).below hB3_2) ).mono ?_
      rintro e w3_3 ⟨⟨y3_3_0a, y3_3_0b, rfl, hr0_3_3⟩, hB3_3⟩
      refine hK.out _ _ ?_ (fun hHeld => ?_)
      · exact ⟨cell_nx hB3_3 hHeld.1, cell_nx hB3_3 hHeld.2.1, cell_nx hB3_3 hHeld.2.2.1, cell_nx hB3_3 hHeld.2.2.2.1, cell_nx hB3_3 hHeld.2.2.2.2.1, cell_nx hB3_3 hHeld.2.2.2.2.2.1, bt hHeld.2.2.2.2.2.2 hB3_3⟩
      clear hK K
      (try simp only [List.getElem_toArray, List.getElem_cons_succ, List.getElem_cons_zero, Act.put, List.setIfInBounds_toArray, List.set_cons_zero, List.set_cons_succ])
      refine wpAnyH_ready (rs := [11]) (by kernel_rfl) (by simp) ?_
      refine AllReadyH.cons rfl (fun K hK => ?_) AllReadyH.nil
      go_simp
      refine (HIS.out  _ _ _ _ _ ((((((O201_2.out).below (bl_al w2 (.cells #[.slice fa0_201 G.cs.length fc0_201, .slice fa1_201 G.bs.length fc1_201] 38))).below ((Below.refl _ _).drew)).below hB3_1).below hB3_2).below hB3_3) hr0_3_3 ).mono ?_
      rintro e w3 ⟨rfl, hB3_4⟩
      refine hK.out _ _ ?_ (fun hHeld => ?_)
      · exact ⟨cell_nx hB3_4 hHeld.1, cell_nx hB3_4 hHeld.2.1, cell_nx hB3_4 hHeld.2.2.1, cell_nx hB3_4 hHeld.2.2.2.1, cell_nx hB3_4 hHeld.2.2.2.2.1, cell_nx hB3_4 hHeld.2.2.2.2.2.1, bt hHeld.2.2.2.2.2.2 hB3_4⟩
      clear hK K
      (try simp only [List.getElem_toArray, List.getElem_cons_succ, List.getElem_cons_zero, Act.put, List.setIfInBounds_toArray, List.set_cons_zero, List.set_cons_succ])
      refine wpAnyH_take (i := 12) (oi := ?o12) (v := ?v12) ?hi12 ?hs12 ?hf12 ?hr12 ?hQ12 ?hy12 ?hS12 ?rest12
      case hi12 => rfl
      case hs12 => kernel_rfl
      case hf12 => kernel_rfl
      case hr12 => kernel_rfl
      case hQ12 => exact fun _ _ _ h => h
      case hS12 => assumption
      case hy12 =>
        refine Or.inl ⟨by kernel_rfl, ?_⟩
        intro w' hSw
        (try dsimp only at hSw)
        go_simp
        (try rfl)
      (try simp only [List.getElem_toArray, List.getElem_cons_succ, List.getElem_cons_zero, Act.put, List.setIfInBounds_toArray, List.set_cons_zero, List.set_cons_succ])
      refine wpAnyH_take (i := 13) (oi := ?o13) (v := ?v13) ?hi13 ?hs13 ?hf13 ?hr13 ?hQ13 ?hy13 ?hS13 ?rest13
      case hi13 => rfl
      case hs13 => kernel_rfl
      case hf13 => kernel_rfl
      case hr13 => kernel_rfl
      case hQ13 => exact fun _ _ _ h => h
      case hS13 => assumption
      case hy13 =>
        refine Or.inl ⟨by kernel_rfl, ?_⟩
        intro w' hSw
        (try dsimp only at hSw)
        go_simp
        (try rfl)
      (try simp only [List.getElem_toArray, List.getElem_cons_succ, List.getElem_cons_zero, Act.put, List.setIfInBounds_toArray, List.set_cons_zero, List.set_cons_succ])
      refine wpAnyH_done (by kernel_rfl) ?_ _
      refine NoPanic.normal ?_
      have hB := hHeld.2.2.2.2.2.2
      clear hHeld
      have E3 := Lib.hid (bt (bl_al w2 (.cells #[.slice fa0_201 G.cs.length fc0_201, .slice fa1_201 G.bs.length fc1_201] 38)) hB)
      have S3 : Hid (w2.heap.size + 1 ≤ w3.heap.size ∧ True) := Lib.hid ⟨by have := hB.size; (try simp only [sz_alloc] at this); exact this, trivial⟩
      have B3 := Lib.hid (bt B2.out E3.out)
      have Xn1_3 := Lib.hid (blk_next Xn1_2.out E3.out)
      have Xn2_3 := blk_next (alloc_blk w2 #[.slice fa0_201 G.cs.length fc0_201, .slice fa1_201 G.bs.length fc1_201] 38) hB
      replace Xn2_3 := Lib.hid Xn2_3
      have O200_3 := Lib.hid (O200_2.out.below E3.out)
      have O201_3 := Lib.hid (O201_2.out.below E3.out)
      clear hB3_1 hr0_3_1 hB3_2 hB3_3 hr0_3_3 hB3_4 Xn1_2 O200_2 O201_2 E3 B2 hB
      have cn1_0 := cell_blk Xn1_3.out 0
      have cn1_1 := cell_blk Xn1_3.out 1
      have cn1_2 := cell_blk Xn1_3.out 2
      have cn1_3 := cell_blk Xn1_3.out 3
      have ln1_ := blk_lt Xn1_3.out
      go_wp2_with fail
      refine (HTO.out  _ _ _ _ O200_3.out ).mono ?_
      rintro e w4 ⟨rfl, hB⟩
      clear cn1_0 cn1_1 cn1_2 cn1_3 ln1_
      have E4 := Lib.hid (hB)
      have S4 : Hid (w3.heap.size ≤ w4.heap.size ∧ True) := Lib.hid ⟨by have := hB.size; (try simp only [sz_alloc] at this); exact this, trivial⟩
      have B4 := Lib.hid (bt B3.out E4.out)
      have Xn1_4 := Lib.hid (blk_next Xn1_3.out E4.out)
      have Xn2_4 := Lib.hid (blk_next Xn2_3.out E4.out)
      have O200_4 := Lib.hid (O200_3.out.below E4.out)
      have O201_4 := Lib.hid (O201_3.out.below E4.out)
      clear Xn1_3 Xn2_3 O200_3 O201_3 E4 B3 hB
      go_wp2_with fail
      have hS0 : (fun w' : World => w'.cell? ⟨(w2.heap.size), 0, none⟩ = some (.slice fa0_201 G.cs.length fc0_201) ∧ w'.cell? ⟨(w2.heap.size), 1, none⟩ = some (.slice fa1_201 G.bs.length fc1_201) ∧ w'.cell? ⟨(w1.heap.size), 0, none⟩ = some (.slice a1 T.ns.length c1) ∧ w'.cell? ⟨(w1.heap.size), 1, none⟩ = some (.string ⟨T.y.toArray⟩) ∧ w'.cell? ⟨(w1.heap.size), 2, none⟩ = some (.slice a2 T.rs.length c2) ∧ w'.cell? ⟨(w1.heap.size), 3, none⟩ = some (.slice a3 T.ys.length c3) ∧ Below w4.heap.size w4 w') w4.drew := ⟨cell_nx ((Below.refl _ _).drew) (cell_blk Xn2_4.out 0), cell_nx ((Below.refl _ _).drew) (cell_blk Xn2_4.out 1), cell_nx ((Below.refl _ _).drew) (cell_blk Xn1_4.out 0), cell_nx ((Below.refl _ _).drew) (cell_blk Xn1_4.out 1), cell_nx ((Below.refl _ _).drew) (cell_blk Xn1_4.out 2), cell_nx ((Below.refl _ _).drew) (cell_blk Xn1_4.out 3), (Below.refl _ _).drew⟩
      refine wp_region_noPanic ?_
      refine wp_region_held_drew (S := (fun w' : World => w'.cell? ⟨(w2.heap.size), 0, none⟩ = some (.slice fa0_201 G.cs.length fc0_201) ∧ w'.cell? ⟨(w2.heap.size), 1, none⟩ = some (.slice fa1_201 G.bs.length fc1_201) ∧ w'.cell? ⟨(w1.heap.size), 0, none⟩ = some (.slice a1 T.ns.length c1) ∧ w'.cell? ⟨(w1.heap.size), 1, none⟩ = some (.string ⟨T.y.toArray⟩) ∧ w'.cell? ⟨(w1.heap.size), 2, none⟩ = some (.slice a2 T.rs.length c2) ∧ w'.cell? ⟨(w1.heap.size), 3, none⟩ = some (.slice a3 T.ys.length c3) ∧ Below w4.heap.size w4 w')) (by kernel_rfl) hS0 (fun hHeld => ?_)
      clear hS0
      refine wpAnyH_take (i := 0) (oi := ?o14) (v := ?v14) ?hi14 ?hs14 ?hf14 ?hr14 ?hQ14 ?hy14 ?hS14 ?rest14
      case hi14 => rfl
      case hs14 => kernel_rfl
      case hf14 => kernel_rfl
      case hr14 => kernel_rfl
      case hQ14 => exact fun _ _ _ h => h
      case hS14 => assumption
      case hy14 =>
        refine Or.inl ⟨by kernel_rfl, ?_⟩
        intro w' hSw
        (try dsimp only at hSw)
        go_simp
        (try rfl)
      (try simp only [List.getElem_toArray, List.getElem_cons_zero, Act.put, List.setIfInBounds_toArray, List.set_cons_zero, List.set_cons_succ])
      refine wpAnyH_ready (rs := [1]) (by kernel_rfl) (by simp) ?_
      refine AllReadyH.cons rfl (fun K hK => ?_) AllReadyH.nil
      go_simp
      refine (HIO.out  _ _ _ (O201_4.out.below ((Below.refl _ _).drew)) ).mono ?_
      rintro e w5_1 ⟨rfl, hB5_1⟩
      refine hK.out _ _ ?_ (fun hHeld => ?_)
      · exact ⟨cell_nx hB5_1 hHeld.1, cell_nx hB5_1 hHeld.2.1, cell_nx hB5_1 hHeld.2.2.1, cell_nx hB5_1 hHeld.2.2.2.1, cell_nx hB5_1 hHeld.2.2.2.2.1, cell_nx hB5_1 hHeld.2.2.2.2.2.1, bt hHeld.2.2.2.2.2.2 hB5_1⟩
      clear hK K
      (try simp only [List.getElem_toArray, List.getElem_cons_succ, List.getElem_cons_zero, Act.put, List.setIfInBounds_toArray, List.set_cons_zero, List.set_cons_succ])
      refine wpAnyH_take (i := 2) (oi := ?o15) (v := ?v15) ?hi15 ?hs15 ?hf15 ?hr15 ?hQ15 ?hy15 ?hS15 ?rest15
      case hi15 => rfl
      case hs15 => kernel_rfl
      case hf15 => kernel_rfl
      case hr15 => kernel_rfl
      case hQ15 => exact fun _ _ _ h => h
      case hS15 => assumption
      case hy15 =>
        refine Or.inl ⟨by kernel_rfl, ?_⟩
        intro w' hSw
        (try dsimp only at hSw)
        go_simp
        (try rfl)
      (try simp only [List.getElem_toArray, List.getElem_cons_succ, List.getElem_cons_zero, Act.put, List.setIfInBounds_toArray, List.set_cons_zero, List.set_cons_succ])
      refine wpAnyH_take (i := 3) (oi := ?o16) (v := ?v16) ?hi16 ?hs16 ?hf16 ?hr16 ?hQ16 ?hy16 ?hS16 ?rest16
      case hi16 => rfl
      case hs16 => kernel_rfl
      case hf16 => kernel_rfl
      case hr16 => kernel_rfl
      case hQ16 => exact fun _ _ _ h => h
      case hS16 => assumption
      case hy16 =>
        refine Or.inl ⟨by kernel_rfl, ?_⟩
        intro w' hSw
        (try dsimp only at hSw)
        go_simp
        (try rfl)
      (try simp only [List.getElem_toArray, List.getElem_cons_succ, List.getElem_cons_zero, Act.put, List.setIfInBounds_toArray, List.set_cons_zero, List.set_cons_succ])
      refine wpAnyH_ready (rs := [4]) (by kernel_rfl) (by simp) ?_
      refine AllReadyH.cons rfl (fun K hK => ?_) AllReadyH.nil
      go_simp
      refine (HSO.out  _ _ _ ((O201_4.out.below ((Below.refl _ _).drew)).below hB5_1) ).mono ?_
      rintro e w5_2 ⟨rfl, hB5_2⟩
      refine hK.out _ _ ?_ (fun hHeld => ?_)
      · exact ⟨cell_nx hB5_2 hHeld.1, cell_nx hB5_2 hHeld.2.1, cell_nx hB5_2 hHeld.2.2.1, cell_nx hB5_2 hHeld.2.2.2.1, cell_nx hB5_2 hHeld.2.2.2.2.1, cell_nx hB5_2 hHeld.2.2.2.2.2.1, bt hHeld.2.2.2.2.2.2 hB5_2⟩
      clear hK K
      (try simp only [List.getElem_toArray, List.getElem_cons_succ, List.getElem_cons_zero, Act.put, List.setIfInBounds_toArray, List.set_cons_zero, List.set_cons_succ])
      refine wpAnyH_take (i := 5) (oi := ?o17) (v := ?v17) ?hi17 ?hs17 ?hf17 ?hr17 ?hQ17 ?hy17 ?hS17 ?rest17
      case hi17 => rfl
      case hs17 => kernel_rfl
      case hf17 => kernel_rfl
      case hr17 => kernel_rfl
      case hQ17 => exact fun _ _ _ h => h
      case hS17 => assumption
      case hy17 =>
        refine Or.inl ⟨by kernel_rfl, ?_⟩
        intro w' hSw
        (try dsimp only at hSw)
        go_simp
        (try rfl)
      (try simp only [List.getElem_toArray, List.getElem_cons_succ, List.getElem_cons_zero, Act.put, List.setIfInBounds_toArray, List.set_cons_zero, List.set_cons_succ])
      refine wpAnyH_take (i := 6) (oi := ?o18) (v := ?v18) ?hi18 ?hs18 ?hf18 ?hr18 ?hQ18 ?hy18 ?hS18 ?rest18
      case hi18 => rfl
      case hs18 => kernel_rfl
      case hf18 => kernel_rfl
      case hr18 => kernel_rfl
      case hQ18 => exact fun _ _ _ h => h
      case hS18 => assumption
      case hy18 =>
        refine Or.inl ⟨by kernel_rfl, ?_⟩
        intro w' hSw
        (try dsimp only at hSw)
        go_simp
        (try rfl)
      (try simp only [List.getElem_toArray, List.getElem_cons_succ, List.getElem_cons_zero, Act.put, List.setIfInBounds_toArray, List.set_cons_zero, List.set_cons_succ])
      refine wpAnyH_take (i := 7) (oi := ?o19) (v := ?v19) ?hi19 ?hs19 ?hf19 ?hr19 ?hQ19 ?hy19 ?hS19 ?rest19
      case hi19 => rfl
      case hs19 => kernel_rfl
      case hf19 => kernel_rfl
      case hr19 => kernel_rfl
      case hQ19 => exact fun _ _ _ h => h
      case hS19 => assumption
      case hy19 =>
        refine Or.inl ⟨by kernel_rfl, ?_⟩
        intro w' hSw
        (try dsimp only at hSw)
        go_simp
        (try rfl)
      (try simp only [List.getElem_toArray, List.getElem_cons_succ, List.getElem_cons_zero, Act.put, List.setIfInBounds_toArray, List.set_cons_zero, List.set_cons_succ])
      refine wpAnyH_take (i := 9) (oi := ?o20) (v := ?v20) ?hi20 ?hs20 ?hf20 ?hr20 ?hQ20 ?hy20 ?hS20 ?rest20
      case hi20 => rfl
      case hs20 => kernel_rfl
      case hf20 => kernel_rfl
      case hr20 => kernel_rfl
      case hQ20 => exact fun _ _ _ h => h
      case hS20 => assumption
      case hy20 =>
        refine Or.inl ⟨by kernel_rfl, ?_⟩
        intro w' hSw
        (try dsimp only at hSw)
        go_simp
        (try rfl)
      (try simp only [List.getElem_toArray, List.getElem_cons_succ, List.getElem_cons_zero, Act.put, List.setIfInBounds_toArray, List.set_cons_zero, List.set_cons_succ])
      refine wpAnyH_take (i := 10) (oi := ?o21) (v := ?v21) ?hi21 ?hs21 ?hf21 ?hr21 ?hQ21 ?hy21 ?hS21 ?rest21
      case hi21 => rfl
      case hs21 => kernel_rfl
      case hf21 => kernel_rfl
      case hr21 => kernel_rfl
      case hQ21 => exact fun _ _ _ h => h
      case hS21 => assumption
      case hy21 =>
        refine Or.inl ⟨by kernel_rfl, ?_⟩
        intro w' hSw
        (try dsimp only at hSw)
        go_simp
        (try rfl)
      (try simp only [List.getElem_toArray, List.getElem_cons_succ, List.getElem_cons_zero, Act.put, List.setIfInBounds_toArray, List.set_cons_zero, List.set_cons_succ])
      refine wpAnyH_take (i := 11) (oi := ?o22) (v := ?v22) ?hi22 ?hs22 ?hf22 ?hr22 ?hQ22 ?hy22 ?hS22 ?rest22
      case hi22 => rfl
      case hs22 => kernel_rfl
      case hf22 => kernel_rfl
      case hr22 => kernel_rfl
      case hQ22 => exact fun _ _ _ h => h
      case hS22 => assumption
      case hy22 =>
        refine Or.inl ⟨by kernel_rfl, ?_⟩
        intro w' hSw
        (try dsimp only at hSw)
        go_simp
        (try rfl)
      (try simp only [List.getElem_toArray, List.getElem_cons_succ, List.getElem_cons_zero, Act.put, List.setIfInBounds_toArray, List.set_cons_zero, List.set_cons_succ])
      refine wpAnyH_ready (rs := [8]) (by kernel_rfl) (by simp) ?_
      refine AllReadyH.cons rfl (fun K hK => ?_) AllReadyH.nil
      go_simp
      refine (HRI.out  _ _ _ (((O201_4.out.below ((Below.refl _ _).drew)).below hB5_1).below hB5_2) ).mono ?_
      rintro e w5 ⟨rfl, hB5_3⟩
      refine hK.out _ _ ?_ (fun hHeld => ?_)
      · exact ⟨cell_nx hB5_3 hHeld.1, cell_nx hB5_3 hHeld.2.1, cell_nx hB5_3 hHeld.2.2.1, cell_nx hB5_3 hHeld.2.2.2.1, cell_nx hB5_3 hHeld.2.2.2.2.1, cell_nx hB5_3 hHeld.2.2.2.2.2.1, bt hHeld.2.2.2.2.2.2 hB5_3⟩
      clear hK K
      (try simp only [List.getElem_toArray, List.getElem_cons_succ, List.getElem_cons_zero, Act.put, List.setIfInBounds_toArray, List.set_cons_zero, List.set_cons_succ])
      refine wpAnyH_take (i := 12) (oi := ?o23) (v := ?v23) ?hi23 ?hs23 ?hf23 ?hr23 ?hQ23 ?hy23 ?hS23 ?rest23
      case hi23 => rfl
      case hs23 => kernel_rfl
      case hf23 => kernel_rfl
      case hr23 => kernel_rfl
      case hQ23 => exact fun _ _ _ h => h
      case hS23 => assumption
      case hy23 =>
        refine Or.inl ⟨by kernel_rfl, ?_⟩
        intro w' hSw
        (try dsimp only at hSw)
        go_simp
        (try rfl)
      (try simp only [List.getElem_toArray, List.getElem_cons_succ, List.getElem_cons_zero, Act.put, List.setIfInBounds_toArray, List.set_cons_zero, List.set_cons_succ])
      refine wpAnyH_take (i := 13) (oi := ?o24) (v := ?v24) ?hi24 ?hs24 ?hf24 ?hr24 ?hQ24 ?hy24 ?hS24 ?rest24
      case hi24 => rfl
      case hs24 => kernel_rfl
      case hf24 => kernel_rfl
      case hr24 => kernel_rfl
      case hQ24 => exact fun _ _ _ h => h
      case hS24 => assumption
      case hy24 =>
        refine Or.inl ⟨by kernel_rfl, ?_⟩
        intro w' hSw
        (try dsimp only at hSw)
        go_simp
        (try rfl)
      (try simp only [List.getElem_toArray, List.getElem_cons_succ, List.getElem_cons_zero, Act.put, List.setIfInBounds_toArray, List.set_cons_zero, List.set_cons_succ])
      refine wpAnyH_take (i := 14) (oi := ?o25) (v := ?v25) ?hi25 ?hs25 ?hf25 ?hr25 ?hQ25 ?hy25 ?hS25 ?rest25
      case hi25 => rfl
      case hs25 => kernel_rfl
      case hf25 => kernel_rfl
      case hr25 => kernel_rfl
      case hQ25 => exact fun _ _ _ h => h
      case hS25 => assumption
      case hy25 =>
        refine Or.inl ⟨by kernel_rfl, ?_⟩
        intro w' hSw
        (try dsimp only at hSw)
        go_simp
        (try rfl)
      (try simp only [List.getElem_toArray, List.getElem_cons_succ, List.getElem_cons_zero, Act.put, List.setIfInBounds_toArray, List.set_cons_zero, List.set_cons_succ])
      refine wpAnyH_take (i := 15) (oi := ?o26) (v := ?v26) ?hi26 ?hs26 ?hf26 ?hr26 ?hQ26 ?hy26 ?hS26 ?rest26
      case hi26 => rfl
      case hs26 => kernel_rfl
      case hf26 => kernel_rfl
      case hr26 => kernel_rfl
      case hQ26 => exact fun _ _ _ h => h
      case hS26 => assumption
      case hy26 =>
        refine Or.inl ⟨by kernel_rfl, ?_⟩
        intro w' hSw
        (try dsimp only at hSw)
        go_simp
        (try rfl)
      (try simp only [List.getElem_toArray, List.getElem_cons_succ, List.getElem_cons_zero, Act.put, List.setIfInBounds_toArray, List.set_cons_zero, List.set_cons_succ])
      refine wpAnyH_take (i := 16) (oi := ?o27) (v := ?v27) ?hi27 ?hs27 ?hf27 ?hr27 ?hQ27 ?hy27 ?hS27 ?rest27
      case hi27 => rfl
      case hs27 => kernel_rfl
      case hf27 => kernel_rfl
      case hr27 => kernel_rfl
      case hQ27 => exact fun _ _ _ h => h
      case hS27 => assumption
      case hy27 =>
        refine Or.inl ⟨by kernel_rfl, ?_⟩
        intro w' hSw
        (try dsimp only at hSw)
        go_simp
        (try rfl)
      (try simp only [List.getElem_toArray, List.getElem_cons_succ, List.getElem_cons_zero, Act.put, List.setIfInBounds_toArray, List.set_cons_zero, List.set_cons_succ])
      refine wpAnyH_take (i := 17) (oi := ?o28) (v := ?v28) ?hi28 ?hs28 ?hf28 ?hr28 ?hQ28 ?hy28 ?hS28 ?rest28
      case hi28 => rfl
      case hs28 => kernel_rfl
      case hf28 => kernel_rfl
      case hr28 => kernel_rfl
      case hQ28 => exact fun _ _ _ h => h
      case hS28 => assumption
      case hy28 =>
        refine Or.inl ⟨by kernel_rfl, ?_⟩
        intro w' hSw
        (try dsimp only at hSw)
        go_simp
        (try rfl)
      (try simp only [List.getElem_toArray, List.getElem_cons_succ, List.getElem_cons_zero, Act.put, List.setIfInBounds_toArray, List.set_cons_zero, List.set_cons_succ])
      refine wpAnyH_take (i := 18) (oi := ?o29) (v := ?v29) ?hi29 ?hs29 ?hf29 ?hr29 ?hQ29 ?hy29 ?hS29 ?rest29
      case hi29 => rfl
      case hs29 => kernel_rfl
      case hf29 => kernel_rfl
      case hr29 => kernel_rfl
      case hQ29 => exact fun _ _ _ h => h
      case hS29 => assumption
      case hy29 =>
        refine Or.inl ⟨by kernel_rfl, ?_⟩
        intro w' hSw
        (try dsimp only at hSw)
        go_simp
        (try rfl)
      (try simp only [List.getElem_toArray, List.getElem_cons_succ, List.getElem_cons_zero, Act.put, List.setIfInBounds_toArray, List.set_cons_zero, List.set_cons_succ])
      refine wpAnyH_take (i := 19) (oi := ?o30) (v := ?v30) ?hi30 ?hs30 ?hf30 ?hr30 ?hQ30 ?hy30 ?hS30 ?rest30
      case hi30 => rfl
      case hs30 => kernel_rfl
      case hf30 => kernel_rfl
      case hr30 => kernel_rfl
      case hQ30 => exact fun _ _ _ h => h
      case hS30 => assumption
      case hy30 =>
        refine Or.inl ⟨by kernel_rfl, ?_⟩
        intro w' hSw
        (try dsimp only at hSw)
        go_simp
        (try rfl)
      (try simp only [List.getElem_toArray, List.getElem_cons_succ, List.getElem_cons_zero, Act.put, List.setIfInBounds_toArray, List.set_cons_zero, List.set_cons_succ])
      refine wpAnyH_take (i := 20) (oi := ?o31) (v := ?v31) ?hi31 ?hs31 ?hf31 ?hr31 ?hQ31 ?hy31 ?hS31 ?rest31
      case hi31 => rfl
      case hs31 => kernel_rfl
      case hf31 => kernel_rfl
      case hr31 => kernel_rfl
      case hQ31 => exact fun _ _ _ h => h
      case hS31 => assumption
      case hy31 =>
        refine Or.inl ⟨by kernel_rfl, ?_⟩
        intro w' hSw
        (try dsimp only at hSw)
        go_simp
        (try rfl)
      (try simp only [List.getElem_toArray, List.getElem_cons_succ, List.getElem_cons_zero, Act.put, List.setIfInBounds_toArray, List.set_cons_zero, List.set_cons_succ])
      have l1 := L1.out
      refine wpAnyH_take (i := 21) (oi := ?o32) (v := ?v32) ?hi32 ?hs32 ?hf32 ?hr32 ?hQ32 ?hy32 ?hS32 ?rest32
      case hi32 => rfl
      case hs32 => kernel_rfl
      case hf32 => kernel_rfl
      case hr32 => kernel_rfl
      case hQ32 => exact fun _ _ _ h => h
      case hS32 => assumption
      case hy32 =>
        refine Or.inl ⟨by kernel_rfl, ?_⟩
        intro w' hSw
        (try dsimp only at hSw)
        go_simp
        (try rfl)
      (try simp only [List.getElem_toArray, List.getElem_cons_succ, List.getElem_cons_zero, Act.put, List.setIfInBounds_toArray, List.set_cons_zero, List.set_cons_succ])
      refine wpAnyH_take (i := 22) (oi := ?o33) (v := ?v33) ?hi33 ?hs33 ?hf33 ?hr33 ?hQ33 ?hy33 ?hS33 ?rest33
      case hi33 => rfl
      case hs33 => kernel_rfl
      case hf33 => kernel_rfl
      case hr33 => kernel_rfl
      case hQ33 => exact fun _ _ _ h => h
      case hS33 => assumption
      case hy33 =>
        refine Or.inl ⟨by kernel_rfl, ?_⟩
        intro w' hSw
        (try dsimp only at hSw)
        go_simp
        (try rfl)
      (try simp only [List.getElem_toArray, List.getElem_cons_succ, List.getElem_cons_zero, Act.put, List.setIfInBounds_toArray, List.set_cons_zero, List.set_cons_succ])
      refine wpAnyH_take (i := 23) (oi := ?o34) (v := ?v34) ?hi34 ?hs34 ?hf34 ?hr34 ?hQ34 ?hy34 ?hS34 ?rest34
      case hi34 => rfl
      case hs34 => kernel_rfl
      case hf34 => kernel_rfl
      case hr34 => kernel_rfl
      case hQ34 => exact fun _ _ _ h => h
      case hS34 => assumption
      case hy34 =>
        refine Or.inl ⟨by kernel_rfl, ?_⟩
        intro w' hSw
        (try dsimp only at hSw)
        go_simp
        (try rfl)
      (try simp only [List.getElem_toArray, List.getElem_cons_succ, List.getElem_cons_zero, Act.put, List.setIfInBounds_toArray, List.set_cons_zero, List.set_cons_succ])
      refine wpAnyH_done (by kernel_rfl) ?_ _
      refine NoPanic.normal ?_
      have hB := hHeld.2.2.2.2.2.2
      clear hHeld
      have E5 := Lib.hid (hB)
      have S5 : Hid (w4.heap.size ≤ w5.heap.size ∧ True) := Lib.hid ⟨by have := hB.size; (try simp only [sz_alloc] at this); exact this, trivial⟩
      have B5 := Lib.hid (bt B4.out E5.out)
      have Xn1_5 := Lib.hid (blk_next Xn1_4.out E5.out)
      have Xn2_5 := Lib.hid (blk_next Xn2_4.out E5.out)
      have O200_5 := Lib.hid (O200_4.out.below E5.out)
      have O201_5 := Lib.hid (O201_4.out.below E5.out)
      clear hB5_1 hB5_2 hB5_3 Xn1_4 Xn2_4 O200_4 O201_4 E5 B4 hB
      go_wp2_with fail
      go_ret
      exact ⟨rfl, B5.out⟩
    · have hG0 : G = ⟨[], []⟩ := by rw [← hG]; exact gridZ_no hok
      have L1 : Hid (G.cs.length = 0) := Lib.hid (by rw [hG0]; rfl)
      have L2 : Hid (G.bs.length = 0) := Lib.hid (by rw [hG0]; rfl)
      clear hG hG0 hOk hRows
      cases tk with
      | false =>
        clear hok htk
        go_wp2_with fail
        refine (HI.out  _ _ _ _ ((O200_1.out).below (bl_al w1 (.cells #[.slice a1 T.ns.length c1, .string ⟨T.y.toArray⟩, .slice a2 T.rs.length c2, .slice a3 T.ys.length c3] 34))) ).mono ?_
        rintro e w2 ⟨⟨y2_0a, y2_0b, rfl, hr0⟩, hB⟩
        have E2 := Lib.hid (bt (bl_al w1 (.cells #[.slice a1 T.ns.length c1, .string ⟨T.y.toArray⟩, .slice a2 T.rs.length c2, .slice a3 T.ys.length c3] 34)) hB)
        have S2 : Hid (w1.heap.size + 1 ≤ w2.heap.size ∧ True) := Lib.hid ⟨by have := hB.size; (try simp only [sz_alloc] at this); exact this, trivial⟩
        have B2 := Lib.hid (bt B1.out E2.out)
        have Xn1_2 := blk_next (alloc_blk w1 #[.slice a1 T.ns.length c1, .string ⟨T.y.toArray⟩, .slice a2 T.rs.length c2, .slice a3 T.ys.length c3] 34) hB
        replace Xn1_2 := Lib.hid Xn1_2
        have O200_2 := Lib.hid (O200_1.out.below E2.out)
        have O201_2 := Lib.hid hr0
        clear O200_1 E2 B1 hr0 hB
        obtain ⟨fa0_201, fc0_201, fa1_201, fc1_201, rfl, rfl⟩ := O201_2.out.form
        go_wp2_with fail
        have hS0 : (fun w' : World => w'.cell? ⟨(w2.heap.size), 0, none⟩ = some (.slice fa0_201 G.cs.length fc0_201) ∧ w'.cell? ⟨(w2.heap.size), 1, none⟩ = some (.slice fa1_201 G.bs.length fc1_201) ∧ w'.cell? ⟨(w1.heap.size), 0, none⟩ = some (.slice a1 T.ns.length c1) ∧ w'.cell? ⟨(w1.heap.size), 1, none⟩ = some (.string ⟨T.y.toArray⟩) ∧ w'.cell? ⟨(w1.heap.size), 2, none⟩ = some (.slice a2 T.rs.length c2) ∧ w'.cell? ⟨(w1.heap.size), 3, none⟩ = some (.slice a3 T.ys.length c3) ∧ Below (w2.alloc (.cells #[.slice fa0_201 G.cs.length fc0_201, .slice fa1_201 G.bs.length fc1_201] 38)).heap.size (w2.alloc (.cells #[.slice fa0_201 G.cs.length fc0_201, .slice fa1_201 G.bs.length fc1_201] 38)) w') (w2.alloc (.cells #[.slice fa0_201 G.cs.length fc0_201, .slice fa1_201 G.bs.length fc1_201] 38)).drew := ⟨cell_nx ((Below.refl _ _).drew) (cell_blk (alloc_blk w2 #[.slice fa0_201 G.cs.length fc0_201, .slice fa1_201 G.bs.length fc1_201] 38) 0), cell_nx ((Below.refl _ _).drew) (cell_blk (alloc_blk w2 #[.slice fa0_201 G.cs.length fc0_201, .slice fa1_201 G.bs.length fc1_201] 38) 1), cell_nx ((Below.refl _ _).drew) (cell_blk (blk_al Xn1_2.out (.cells #[.slice fa0_201 G.cs.length fc0_201, .slice fa1_201 G.bs.length fc1_201] 38)) 0), cell_nx ((Below.refl _ _).drew) (cell_blk (blk_al Xn1_2.out (.cells #[.slice fa0_201 G.cs.length fc0_201, .slice fa1_201 G.bs.length fc1_201] 38)) 1), cell_nx ((Below.refl _ _).drew) (cell_blk (blk_al Xn1_2.out (.cells #[.slice fa0_201 G.cs.length fc0_201, .slice fa1_201 G.bs.length fc1_201] 38)) 2), cell_nx ((Below.refl _ _).drew) (cell_blk (blk_al Xn1_2.out (.cells #[.slice fa0_201 G.cs.length fc0_201, .slice fa1_201 G.bs.length fc1_201] 38)) 3), (Below.refl _ _).drew⟩
        refine wp_region_noPanic ?_
        refine wp_region_held_drew (S := (fun w' : World => w'.cell? ⟨(w2.heap.size), 0, none⟩ = some (.slice fa0_201 G.cs.length fc0_201) ∧ w'.cell? ⟨(w2.heap.size), 1, none⟩ = some (.slice fa1_201 G.bs.length fc1_201) ∧ w'.cell? ⟨(w1.heap.size), 0, none⟩ = some (.slice a1 T.ns.length c1) ∧ w'.cell? ⟨(w1.heap.size), 1, none⟩ = some (.string ⟨T.y.toArray⟩) ∧ w'.cell? ⟨(w1.heap.size), 2, none⟩ = some (.slice a2 T.rs.length c2) ∧ w'.cell? ⟨(w1.heap.size), 3, none⟩ = some (.slice a3 T.ys.length c3) ∧ Below (w2.alloc (.cells #[.slice fa0_201 G.cs.length fc0_201, .slice fa1_201 G.bs.length fc1_201] 38)).heap.size (w2.alloc (.cells #[.slice fa0_201 G.cs.length fc0_201, .slice fa1_201 G.bs.length fc1_201] 38)) w')) (by kernel_rfl) hS0 (fun hHeld => ?_)
        clear hS0
        refine wpAnyH_take (i := 0) (oi := ?o35) (v := ?v35) ?hi35 ?hs35 ?hf35 ?hr35 ?hQ35 ?hy35 ?hS35 ?rest35
        case hi35 => rfl
        case hs35 => kernel_rfl
        case hf35 => kernel_rfl
        case hr35 => kernel_rfl
        case hQ35 => exact fun _ _ _ h => h
        case hS35 => assumption
        case hy35 =>
          refine Or.inl ⟨by kernel_rfl, ?_⟩
          intro w' hSw
          (try dsimp only at hSw)
          go_simp
          (try rfl)
        (try simp only [List.getElem_toArray, List.getElem_cons_zero, Act.put, List.setIfInBounds_toArray, List.set_cons_zero, List.set_cons_succ])
        refine wpAnyH_take (i := 1) (oi := ?o36) (v := ?v36) ?hi36 ?hs36 ?hf36 ?hr36 ?hQ36 ?hy36 ?hS36 ?rest36
        case hi36 => rfl
        case hs36 => kernel_rfl
        case hf36 => kernel_rfl
        case hr36 => kernel_rfl
        case hQ36 => exact fun _ _ _ h => h
        case hS36 => assumption
        case hy36 =>
          refine Or.inl ⟨by kernel_rfl, ?_⟩
          intro w' hSw
          (try dsimp only at hSw)
          go_simp
          (try rfl)
        (try simp only [List.getElem_toArray, List.getElem_cons_succ, List.getElem_cons_zero, Act.put, List.setIfInBounds_toArray, List.set_cons_zero, List.set_cons_succ])
        refine wpAnyH_take (i := 2) (oi := ?o37) (v := ?v37) ?hi37 ?hs37 ?hf37 ?hr37 ?hQ37 ?hy37 ?hS37 ?rest37
        case hi37 => rfl
        case hs37 => kernel_rfl
        case hf37 => kernel_rfl
        case hr37 => kernel_rfl
        case hQ37 => exact fun _ _ _ h => h
        case hS37 => assumption
        case hy37 =>
          refine Or.inl ⟨by kernel_rfl, ?_⟩
          intro w' hSw
          (try dsimp only at hSw)
          go_simp
          (try rfl)
        (try simp only [List.getElem_toArray, List.getElem_cons_succ, List.getElem_cons_zero, Act.put, List.setIfInBounds_toArray, List.set_cons_zero, List.set_cons_succ])
        refine wpAnyH_ready (rs := [3]) (by kernel_rfl) (by simp) ?_
        refine AllReadyH.cons rfl (fun K hK => ?_) AllReadyH.nil
        go_simp
        refine (HS.out  _ _ _ _ (((O200_2.out).below (bl_al w2 (.cells #[.slice fa0_201 G.cs.length fc0_201, .slice fa1_201 G.bs.length fc1_201] 38))).below ((Below.refl _ _).drew)) ).mono ?_
        rintro e w3_1 ⟨⟨y3_1_0a, y3_1_0b, rfl, hr0_3_1⟩, hB3_1⟩
        refine hK.out _ _ ?_ (fun hHeld => ?_)
        · exact ⟨cell_nx hB3_1 hHeld.1, cell_nx hB3_1 hHeld.2.1, cell_nx hB3_1 hHeld.2.2.1, cell_nx hB3_1 hHeld.2.2.2.1, cell_nx hB3_1 hHeld.2.2.2.2.1, cell_nx hB3_1 hHeld.2.2.2.2.2.1, bt hHeld.2.2.2.2.2.2 hB3_1⟩
        clear hK K
        (try simp only [List.getElem_toArray, List.getElem_cons_succ, List.getElem_cons_zero, Act.put, List.setIfInBounds_toArray, List.set_cons_zero, List.set_cons_succ])
        refine wpAnyH_ready (rs := [4]) (by kernel_rfl) (by simp) ?_
        refine AllReadyH.cons rfl (fun K hK => ?_) AllReadyH.nil
        go_simp
        refine (HSS.out  _ _ _ _ _ ((((O201_2.out).below (bl_al w2 (.cells #[.slice fa0_201 G.cs.length fc0_201, .slice fa1_201 G.bs.length fc1_201] 38))).below ((Below.refl _ _).drew)).below hB3_1) hr0_3_1 ).mono ?_
        rintro e w3_2 ⟨rfl, hB3_2⟩
        refine hK.out _ _ ?_ (fun hHeld => ?_)
        · exact ⟨cell_nx hB3_2 hHeld.1, cell_nx hB3_2 hHeld.2.1, cell_nx hB3_2 hHeld.2.2.1, cell_nx hB3_2 hHeld.2.2.2.1, cell_nx hB3_2 hHeld.2.2.2.2.1, cell_nx hB3_2 hHeld.2.2.2.2.2.1, bt hHeld.2.2.2.2.2.2 hB3_2⟩
        clear hK K
        (try simp only [List.getElem_toArray, List.getElem_cons_succ, List.getElem_cons_zero, Act.put, List.setIfInBounds_toArray, List.set_cons_zero, List.set_cons_succ])
        refine wpAnyH_take (i := 5) (oi := ?o38) (v := ?v38) ?hi38 ?hs38 ?hf38 ?hr38 ?hQ38 ?hy38 ?hS38 ?rest38
        case hi38 => rfl
        case hs38 => kernel_rfl
        case hf38 => kernel_rfl
        case hr38 => kernel_rfl
        case hQ38 => exact fun _ _ _ h => h
        case hS38 => assumption
        case hy38 =>
          refine Or.inl ⟨by kernel_rfl, ?_⟩
          intro w' hSw
          (try dsimp only at hSw)
          go_simp
          (try rfl)
        (try simp only [List.getElem_toArray, List.getElem_cons_succ, List.getElem_cons_zero, Act.put, List.setIfInBounds_toArray, List.set_cons_zero, List.set_cons_succ])
        refine wpAnyH_take (i := 6) (oi := ?o39) (v := ?v39) ?hi39 ?hs39 ?hf39 ?hr39 ?hQ39 ?hy39 ?hS39 ?rest39
        case hi39 => rfl
        case hs39 => kernel_rfl
        case hf39 => kernel_rfl
        case hr39 => kernel_rfl
        case hQ39 => exact fun _ _ _ h => h
        case hS39 => assumption
        case hy39 =>
          refine Or.inl ⟨by kernel_rfl, ?_⟩
          intro w' hSw
          (try dsimp only at hSw)
          go_simp
          (try rfl)
        (try simp only [List.getElem_toArray, List.getElem_cons_succ, List.getElem_cons_zero, Act.put, List.setIfInBounds_toArray, List.set_cons_zero, List.set_cons_succ])
        refine wpAnyH_take (i := 7) (oi := ?o40) (v := ?v40) ?hi40 ?hs40 ?hf40 ?hr40 ?hQ40 ?hy40 ?hS40 ?rest40
        case hi40 => rfl
        case hs40 => kernel_rfl
        case hf40 => kernel_rfl
        case hr40 => kernel_rfl
        case hQ40 => exact fun _ _ _ h => h
        case hS40 => assumption
        case hy40 =>
          refine Or.inl ⟨by kernel_rfl, ?_⟩
          intro w' hSw
          (try dsimp only at hSw)
          go_simp
          (try rfl)
        (try simp only [List.getElem_toArray, List.getElem_cons_succ, List.getElem_cons_zero, Act.put, List.setIfInBounds_toArray, List.set_cons_zero, List.set_cons_succ])
        refine wpAnyH_take (i := 8) (oi := ?o41) (v := ?v41) ?hi41 ?hs41 ?hf41 ?hr41 ?hQ41 ?hy41 ?hS41 ?rest41
        case hi41 => rfl
        case hs41 => kernel_rfl
        case hf41 => kernel_rfl
        case hr41 => kernel_rfl
        case hQ41 => exact fun _ _ _ h => h
        case hS41 => assumption
        case hy41 =>
          refine Or.inl ⟨by kernel_rfl, ?_⟩
          intro w' hSw
          (try dsimp only at hSw)
          go_simp
          (try rfl)
        (try simp only [List.getElem_toArray, List.getElem_cons_succ, List.getElem_cons_zero, Act.put, List.setIfInBounds_toArray, List.set_cons_zero, List.set_cons_succ])
        refine wpAnyH_take (i := 9) (oi := ?o42) (v := ?v42) ?hi42 ?hs42 ?hf42 ?hr42 ?hQ42 ?hy42 ?hS42 ?rest42
        case hi42 => rfl
        case hs42 => kernel_rfl
        case hf42 => kernel_rfl
        case hr42 => kernel_rfl
        case hQ42 => exact fun _ _ _ h => h
        case hS42 => assumption
        case hy42 =>
          refine Or.inl ⟨by kernel_rfl, ?_⟩
          intro w' hSw
          (try dsimp only at hSw)
          go_simp
          (try rfl)
        (try simp only [List.getElem_toArray, List.getElem_cons_succ, List.getElem_cons_zero, Act.put, List.setIfInBounds_toArray, List.set_cons_zero, List.set_cons_succ])
        refine wpAnyH_ready (rs := [10]) (by kernel_rfl) (by simp) ?_
        refine AllReadyH.cons rfl (fun K hK => ?_) AllReadyH.nil
        go_simp
        refine (HS.out  _ _ _ _ (((((O200_2.out).below (bl_al w2 (.cells #[.slice fa0_201 G.cs.length fc0_201, .slice fa1_201 G.bs.length fc1_201] 38))).below ((Below.refl _ _).drew)).below hB3_1).below hB3_2) ).mono ?_
        rintro e w3_3 ⟨⟨y3_3_0a, y3_3_0b, rfl, hr0_3_3⟩, hB3_3⟩
        refine hK.out _ _ ?_ (fun hHeld => ?_)
        · exact ⟨cell_nx hB3_3 hHeld.1, cell_nx hB3_3 hHeld.2.1, cell_nx hB3_3 hHeld.2.2.1, cell_nx hB3_3 hHeld.2.2.2.1, cell_nx hB3_3 hHeld.2.2.2.2.1, cell_nx hB3_3 hHeld.2.2.2.2.2.1, bt hHeld.2.2.2.2.2.2 hB3_3⟩
        clear hK K
        (try simp only [List.getElem_toArray, List.getElem_cons_succ, List.getElem_cons_zero, Act.put, List.setIfInBounds_toArray, List.set_cons_zero, List.set_cons_succ])
        refine wpAnyH_ready (rs := [11]) (by kernel_rfl) (by simp) ?_
        refine AllReadyH.cons rfl (fun K hK => ?_) AllReadyH.nil
        go_simp
        refine (HIS.out  _ _ _ _ _ ((((((O201_2.out).below (bl_al w2 (.cells #[.slice fa0_201 G.cs.length fc0_201, .slice fa1_201 G.bs.length fc1_201] 38))).below ((Below.refl _ _).drew)).below hB3_1).below hB3_2).below hB3_3) hr0_3_3 ).mono ?_
        rintro e w3 ⟨rfl, hB3_4⟩
        refine hK.out _ _ ?_ (fun hHeld => ?_)
        · exact ⟨cell_nx hB3_4 hHeld.1, cell_nx hB3_4 hHeld.2.1, cell_nx hB3_4 hHeld.2.2.1, cell_nx hB3_4 hHeld.2.2.2.1, cell_nx hB3_4 hHeld.2.2.2.2.1, cell_nx hB3_4 hHeld.2.2.2.2.2.1, bt hHeld.2.2.2.2.2.2 hB3_4⟩
        clear hK K
        (try simp only [List.getElem_toArray, List.getElem_cons_succ, List.getElem_cons_zero, Act.put, List.setIfInBounds_toArray, List.set_cons_zero, List.set_cons_succ])
        refine wpAnyH_take (i := 12) (oi := ?o43) (v := ?v43) ?hi43 ?hs43 ?hf43 ?hr43 ?hQ43 ?hy43 ?hS43 ?rest43
        case hi43 => rfl
        case hs43 => kernel_rfl
        case hf43 => kernel_rfl
        case hr43 => kernel_rfl
        case hQ43 => exact fun _ _ _ h => h
        case hS43 => assumption
        case hy43 =>
          refine Or.inl ⟨by kernel_rfl, ?_⟩
          intro w' hSw
          (try dsimp only at hSw)
          go_simp
          (try rfl)
        (try simp only [List.getElem_toArray, List.getElem_cons_succ, List.getElem_cons_zero, Act.put, List.setIfInBounds_toArray, List.set_cons_zero, List.set_cons_succ])
        refine wpAnyH_take (i := 13) (oi := ?o44) (v := ?v44) ?hi44 ?hs44 ?hf44 ?hr44 ?hQ44 ?hy44 ?hS44 ?rest44
        case hi44 => rfl
        case hs44 => kernel_rfl
        case hf44 => kernel_rfl
        case hr44 => kernel_rfl
        case hQ44 => exact fun _ _ _ h => h
        case hS44 => assumption
        case hy44 =>
          refine Or.inl ⟨by kernel_rfl, ?_⟩
          intro w' hSw
          (try dsimp only at hSw)
          go_simp
          (try rfl)
        (try simp only [List.getElem_toArray, List.getElem_cons_succ, List.getElem_cons_zero, Act.put, List.setIfInBounds_toArray, List.set_cons_zero, List.set_cons_succ])
        refine wpAnyH_done (by kernel_rfl) ?_ _
        refine NoPanic.normal ?_
        have hB := hHeld.2.2.2.2.2.2
        clear hHeld
        have E3 := Lib.hid (bt (bl_al w2 (.cells #[.slice fa0_201 G.cs.length fc0_201, .slice fa1_201 G.bs.length fc1_201] 38)) hB)
        have S3 : Hid (w2.heap.size + 1 ≤ w3.heap.size ∧ True) := Lib.hid ⟨by have := hB.size; (try simp only [sz_alloc] at this); exact this, trivial⟩
        have B3 := Lib.hid (bt B2.out E3.out)
        have Xn1_3 := Lib.hid (blk_next Xn1_2.out E3.out)
        have Xn2_3 := blk_next (alloc_blk w2 #[.slice fa0_201 G.cs.length fc0_201, .slice fa1_201 G.bs.length fc1_201] 38) hB
        replace Xn2_3 := Lib.hid Xn2_3
        have O200_3 := Lib.hid (O200_2.out.below E3.out)
        have O201_3 := Lib.hid (O201_2.out.below E3.out)
        clear hB3_1 hr0_3_1 hB3_2 hB3_3 hr0_3_3 hB3_4 Xn1_2 O200_2 O201_2 E3 B2 hB
        have cn1_0 := cell_blk Xn1_3.out 0
        have cn1_1 := cell_blk Xn1_3.out 1
        have cn1_2 := cell_blk Xn1_3.out 2
        have cn1_3 := cell_blk Xn1_3.out 3
        have ln1_ := blk_lt Xn1_3.out
        go_wp2_with fail
        refine (HTO.out  _ _ _ _ O200_3.out ).mono ?_
        rintro e w4 ⟨rfl, hB⟩
        clear cn1_0 cn1_1 cn1_2 cn1_3 ln1_
        have E4 := Lib.hid (hB)
        have S4 : Hid (w3.heap.size ≤ w4.heap.size ∧ True) := Lib.hid ⟨by have := hB.size; (try simp only [sz_alloc] at this); exact this, trivial⟩
        have B4 := Lib.hid (bt B3.out E4.out)
        have Xn1_4 := Lib.hid (blk_next Xn1_3.out E4.out)
        have Xn2_4 := Lib.hid (blk_next Xn2_3.out E4.out)
        have O200_4 := Lib.hid (O200_3.out.below E4.out)
        have O201_4 := Lib.hid (O201_3.out.below E4.out)
        clear Xn1_3 Xn2_3 O200_3 O201_3 E4 B3 hB
        have l1 := L1.out
        have l2 := L2.out
        have cn2_0 := cell_blk Xn2_4.out 0
        have cn2_1 := cell_blk Xn2_4.out 1
        have ln2_ := blk_lt Xn2_4.out
        go_wp2_with fail
        go_ret
        exact ⟨rfl, B4.out⟩
      | true =>
        have hbb : ¬ inZ b 2 8 = true := fun h => hok ⟨htk, h⟩
        rw [inZ_iff] at hbb
        clear hok htk
        by_cases b1 : b < 2
        · clear hbb
          go_wp2_with fail
          refine (HI.out  _ _ _ _ ((O200_1.out).below (bl_al w1 (.cells #[.slice a1 T.ns.length c1, .string ⟨T.y.toArray⟩, .slice a2 T.rs.length c2, .slice a3 T.ys.length c3] 34))) ).mono ?_
          rintro e w2 ⟨⟨y2_0a, y2_0b, rfl, hr0⟩, hB⟩
          have E2 := Lib.hid (bt (bl_al w1 (.cells #[.slice a1 T.ns.length c1, .string ⟨T.y.toArray⟩, .slice a2 T.rs.length c2, .slice a3 T.ys.length c3] 34)) hB)
          have S2 : Hid (w1.heap.size + 1 ≤ w2.heap.size ∧ True) := Lib.hid ⟨by have := hB.size; (try simp only [sz_alloc] at this); exact this, trivial⟩
          have B2 := Lib.hid (bt B1.out E2.out)
          have Xn1_2 := blk_next (alloc_blk w1 #[.slice a1 T.ns.length c1, .string ⟨T.y.toArray⟩, .slice a2 T.rs.length c2, .slice a3 T.ys.length c3] 34) hB
          replace Xn1_2 := Lib.hid Xn1_2
          have O200_2 := Lib.hid (O200_1.out.below E2.out)
          have O201_2 := Lib.hid hr0
          clear O200_1 E2 B1 hr0 hB
          obtain ⟨fa0_201, fc0_201, fa1_201, fc1_201, rfl, rfl⟩ := O201_2.out.form
          go_wp2_with fail
          have hS0 : (fun w' : World => w'.cell? ⟨(w2.heap.size), 0, none⟩ = some (.slice fa0_201 G.cs.length fc0_201) ∧ w'.cell? ⟨(w2.heap.size), 1, none⟩ = some (.slice fa1_201 G.bs.length fc1_201) ∧ w'.cell? ⟨(w1.heap.size), 0, none⟩ = some (.slice a1 T.ns.length c1) ∧ w'.cell? ⟨(w1.heap.size), 1, none⟩ = some (.string ⟨T.y.toArray⟩) ∧ w'.cell? ⟨(w1.heap.size), 2, none⟩ = some (.slice a2 T.rs.length c2) ∧ w'.cell? ⟨(w1.heap.size), 3, none⟩ = some (.slice a3 T.ys.length c3) ∧ Below (w2.alloc (.cells #[.slice fa0_201 G.cs.length fc0_201, .slice fa1_201 G.bs.length fc1_201] 38)).heap.size (w2.alloc (.cells #[.slice fa0_201 G.cs.length fc0_201, .slice fa1_201 G.bs.length fc1_201] 38)) w') (w2.alloc (.cells #[.slice fa0_201 G.cs.length fc0_201, .slice fa1_201 G.bs.length fc1_201] 38)).drew := ⟨cell_nx ((Below.refl _ _).drew) (cell_blk (alloc_blk w2 #[.slice fa0_201 G.cs.length fc0_201, .slice fa1_201 G.bs.length fc1_201] 38) 0), cell_nx ((Below.refl _ _).drew) (cell_blk (alloc_blk w2 #[.slice fa0_201 G.cs.length fc0_201, .slice fa1_201 G.bs.length fc1_201] 38) 1), cell_nx ((Below.refl _ _).drew) (cell_blk (blk_al Xn1_2.out (.cells #[.slice fa0_201 G.cs.length fc0_201, .slice fa1_201 G.bs.length fc1_201] 38)) 0), cell_nx ((Below.refl _ _).drew) (cell_blk (blk_al Xn1_2.out (.cells #[.slice fa0_201 G.cs.length fc0_201, .slice fa1_201 G.bs.length fc1_201] 38)) 1), cell_nx ((Below.refl _ _).drew) (cell_blk (blk_al Xn1_2.out (.cells #[.slice fa0_201 G.cs.length fc0_201, .slice fa1_201 G.bs.length fc1_201] 38)) 2), cell_nx ((Below.refl _ _).drew) (cell_blk (blk_al Xn1_2.out (.cells #[.slice fa0_201 G.cs.length fc0_201, .slice fa1_201 G.bs.length fc1_201] 38)) 3), (Below.refl _ _).drew⟩
          refine wp_region_noPanic ?_
          refine wp_region_held_drew (S := (fun w' : World => w'.cell? ⟨(w2.heap.size), 0, none⟩ = some (.slice fa0_201 G.cs.length fc0_201) ∧ w'.cell? ⟨(w2.heap.size), 1, none⟩ = some (.slice fa1_201 G.bs.length fc1_201) ∧ w'.cell? ⟨(w1.heap.size), 0, none⟩ = some (.slice a1 T.ns.length c1) ∧ w'.cell? ⟨(w1.heap.size), 1, none⟩ = some (.string ⟨T.y.toArray⟩) ∧ w'.cell? ⟨(w1.heap.size), 2, none⟩ = some (.slice a2 T.rs.length c2) ∧ w'.cell? ⟨(w1.heap.size), 3, none⟩ = some (.slice a3 T.ys.length c3) ∧ Below (w2.alloc (.cells #[.slice fa0_201 G.cs.length fc0_201, .slice fa1_201 G.bs.length fc1_201] 38)).heap.size (w2.alloc (.cells #[.slice fa0_201 G.cs.length fc0_201, .slice fa1_201 G.bs.length fc1_201] 38)) w')) (by kernel_rfl) hS0 (fun hHeld => ?_)
          clear hS0
          refine wpAnyH_take (i := 0) (oi := ?o45) (v := ?v45) ?hi45 ?hs45 ?hf45 ?hr45 ?hQ45 ?hy45 ?hS45 ?rest45
          case hi45 => rfl
          case hs45 => kernel_rfl
          case hf45 => kernel_rfl
          case hr45 => kernel_rfl
          case hQ45 => exact fun _ _ _ h => h
          case hS45 => assumption
          case hy45 =>
            refine Or.inl ⟨by kernel_rfl, ?_⟩
            intro w' hSw
            (try dsimp only at hSw)
            go_simp
            (try rfl)
          (try simp only [List.getElem_toArray, List.getElem_cons_zero, Act.put, List.setIfInBounds_toArray, List.set_cons_zero, List.set_cons_succ])
          refine wpAnyH_take (i := 1) (oi := ?o46) (v := ?v46) ?hi46 ?hs46 ?hf46 ?hr46 ?hQ46 ?hy46 ?hS46 ?rest46
          case hi46 => rfl
          case hs46 => kernel_rfl
          case hf46 => kernel_rfl
          case hr46 => kernel_rfl
          case hQ46 => exact fun _ _ _ h => h
          case hS46 => assumption
          case hy46 =>
            refine Or.inl ⟨by kernel_rfl, ?_⟩
            intro w' hSw
            (try dsimp only at hSw)
            go_simp
            (try rfl)
          (try simp only [List.getElem_toArray, List.getElem_cons_succ, List.getElem_cons_zero, Act.put, List.setIfInBounds_toArray, List.set_cons_zero, List.set_cons_succ])
          refine wpAnyH_take (i := 2) (oi := ?o47) (v := ?v47) ?hi47 ?hs47 ?hf47 ?hr47 ?hQ47 ?hy47 ?hS47 ?rest47
          case hi47 => rfl
          case hs47 => kernel_rfl
          case hf47 => kernel_rfl
          case hr47 => kernel_rfl
          case hQ47 => exact fun _ _ _ h => h
          case hS47 => assumption
          case hy47 =>
            refine Or.inl ⟨by kernel_rfl, ?_⟩
            intro w' hSw
            (try dsimp only at hSw)
            go_simp
            (try rfl)
          (try simp only [List.getElem_toArray, List.getElem_cons_succ, List.getElem_cons_zero, Act.put, List.setIfInBounds_toArray, List.set_cons_zero, List.set_cons_succ])
          refine wpAnyH_ready (rs := [3]) (by kernel_rfl) (by simp) ?_
          refine AllReadyH.cons rfl (fun K hK => ?_) AllReadyH.nil
          go_simp
          refine (HS.out  _ _ _ _ (((O200_2.out).below (bl_al w2 (.cells #[.slice fa0_201 G.cs.length fc0_201, .slice fa1_201 G.bs.length fc1_201] 38))).below ((Below.refl _ _).drew)) ).mono ?_
          rintro e w3_1 ⟨⟨y3_1_0a, y3_1_0b, rfl, hr0_3_1⟩, hB3_1⟩
          refine hK.out _ _ ?_ (fun hHeld => ?_)
          · exact ⟨cell_nx hB3_1 hHeld.1, cell_nx hB3_1 hHeld.2.1, cell_nx hB3_1 hHeld.2.2.1, cell_nx hB3_1 hHeld.2.2.2.1, cell_nx hB3_1 hHeld.2.2.2.2.1, cell_nx hB3_1 hHeld.2.2.2.2.2.1, bt hHeld.2.2.2.2.2.2 hB3_1⟩
          clear hK K
          (try simp only [List.getElem_toArray, List.getElem_cons_succ, List.getElem_cons_zero, Act.put, List.setIfInBounds_toArray, List.set_cons_zero, List.set_cons_succ])
          refine wpAnyH_ready (rs := [4]) (by kernel_rfl) (by simp) ?_
          refine AllReadyH.cons rfl (fun K hK => ?_) AllReadyH.nil
          go_simp
          refine (HSS.out  _ _ _ _ _ ((((O201_2.out).below (bl_al w2 (.cells #[.slice fa0_201 G.cs.length fc0_201, .slice fa1_201 G.bs.length fc1_201] 38))).below ((Below.refl _ _).drew)).below hB3_1) hr0_3_1 ).mono ?_
          rintro e w3_2 ⟨rfl, hB3_2⟩
          refine hK.out _ _ ?_ (fun hHeld => ?_)
          · exact ⟨cell_nx hB3_2 hHeld.1, cell_nx hB3_2 hHeld.2.1, cell_nx hB3_2 hHeld.2.2.1, cell_nx hB3_2 hHeld.2.2.2.1, cell_nx hB3_2 hHeld.2.2.2.2.1, cell_nx hB3_2 hHeld.2.2.2.2.2.1, bt hHeld.2.2.2.2.2.2 hB3_2⟩
          clear hK K
          (try simp only [List.getElem_toArray, List.getElem_cons_succ, List.getElem_cons_zero, Act.put, List.setIfInBounds_toArray, List.set_cons_zero, List.set_cons_succ])
          refine wpAnyH_take (i := 5) (oi := ?o48) (v := ?v48) ?hi48 ?hs48 ?hf48 ?hr48 ?hQ48 ?hy48 ?hS48 ?rest48
          case hi48 => rfl
          case hs48 => kernel_rfl
          case hf48 => kernel_rfl
          case hr48 => kernel_rfl
          case hQ48 => exact fun _ _ _ h => h
          case hS48 => assumption
          case hy48 =>
            refine Or.inl ⟨by kernel_rfl, ?_⟩
            intro w' hSw
            (try dsimp only at hSw)
            go_simp
            (try rfl)
          (try simp only [List.getElem_toArray, List.getElem_cons_succ, List.getElem_cons_zero, Act.put, List.setIfInBounds_toArray, List.set_cons_zero, List.set_cons_succ])
          refine wpAnyH_take (i := 6) (oi := ?o49) (v := ?v49) ?hi49 ?hs49 ?hf49 ?hr49 ?hQ49 ?hy49 ?hS49 ?rest49
          case hi49 => rfl
          case hs49 => kernel_rfl
          case hf49 => kernel_rfl
          case hr49 => kernel_rfl
          case hQ49 => exact fun _ _ _ h => h
          case hS49 => assumption
          case hy49 =>
            refine Or.inl ⟨by kernel_rfl, ?_⟩
            intro w' hSw
            (try dsimp only at hSw)
            go_simp
            (try rfl)
          (try simp only [List.getElem_toArray, List.getElem_cons_succ, List.getElem_cons_zero, Act.put, List.setIfInBounds_toArray, List.set_cons_zero, List.set_cons_succ])
          refine wpAnyH_take (i := 7) (oi := ?o50) (v := ?v50) ?hi50 ?hs50 ?hf50 ?hr50 ?hQ50 ?hy50 ?hS50 ?rest50
          case hi50 => rfl
          case hs50 => kernel_rfl
          case hf50 => kernel_rfl
          case hr50 => kernel_rfl
          case hQ50 => exact fun _ _ _ h => h
          case hS50 => assumption
          case hy50 =>
            refine Or.inl ⟨by kernel_rfl, ?_⟩
            intro w' hSw
            (try dsimp only at hSw)
            go_simp
            (try rfl)
          (try simp only [List.getElem_toArray, List.getElem_cons_succ, List.getElem_cons_zero, Act.put, List.setIfInBounds_toArray, List.set_cons_zero, List.set_cons_succ])
          refine wpAnyH_take (i := 8) (oi := ?o51) (v := ?v51) ?hi51 ?hs51 ?hf51 ?hr51 ?hQ51 ?hy51 ?hS51 ?rest51
          case hi51 => rfl
          case hs51 => kernel_rfl
          case hf51 => kernel_rfl
          case hr51 => kernel_rfl
          case hQ51 => exact fun _ _ _ h => h
          case hS51 => assumption
          case hy51 =>
            refine Or.inl ⟨by kernel_rfl, ?_⟩
            intro w' hSw
            (try dsimp only at hSw)
            go_simp
            (try rfl)
          (try simp only [List.getElem_toArray, List.getElem_cons_succ, List.getElem_cons_zero, Act.put, List.setIfInBounds_toArray, List.set_cons_zero, List.set_cons_succ])
          refine wpAnyH_take (i := 9) (oi := ?o52) (v := ?v52) ?hi52 ?hs52 ?hf52 ?hr52 ?hQ52 ?hy52 ?hS52 ?rest52
          case hi52 => rfl
          case hs52 => kernel_rfl
          case hf52 => kernel_rfl
          case hr52 => kernel_rfl
          case hQ52 => exact fun _ _ _ h => h
          case hS52 => assumption
          case hy52 =>
            refine Or.inl ⟨by kernel_rfl, ?_⟩
            intro w' hSw
            (try dsimp only at hSw)
            go_simp
            (try rfl)
          (try simp only [List.getElem_toArray, List.getElem_cons_succ, List.getElem_cons_zero, Act.put, List.setIfInBounds_toArray, List.set_cons_zero, List.set_cons_succ])
          refine wpAnyH_ready (rs := [10]) (by kernel_rfl) (by simp) ?_
          refine AllReadyH.cons rfl (fun K hK => ?_) AllReadyH.nil
          go_simp
          refine (HS.out  _ _ _ _ (((((O200_2.out).below (bl_al w2 (.cells #[.slice fa0_201 G.cs.length fc0_201, .slice fa1_201 G.bs.length fc1_201] 38))).below ((Below.refl _ _).drew)).below hB3_1).below hB3_2) ).mono ?_
          rintro e w3_3 ⟨⟨y3_3_0a, y3_3_0b, rfl, hr0_3_3⟩, hB3_3⟩
          refine hK.out _ _ ?_ (fun hHeld => ?_)
          · exact ⟨cell_nx hB3_3 hHeld.1, cell_nx hB3_3 hHeld.2.1, cell_nx hB3_3 hHeld.2.2.1, cell_nx hB3_3 hHeld.2.2.2.1, cell_nx hB3_3 hHeld.2.2.2.2.1, cell_nx hB3_3 hHeld.2.2.2.2.2.1, bt hHeld.2.2.2.2.2.2 hB3_3⟩
          clear hK K
          (try simp only [List.getElem_toArray, List.getElem_cons_succ, List.getElem_cons_zero, Act.put, List.setIfInBounds_toArray, List.set_cons_zero, List.set_cons_succ])
          refine wpAnyH_ready (rs := [11]) (by kernel_rfl) (by simp) ?_
          refine AllReadyH.cons rfl (fun K hK => ?_) AllReadyH.nil
          go_simp
          refine (HIS.out  _ _ _ _ _ ((((((O201_2.out).below (bl_al w2 (.cells #[.slice fa0_201 G.cs.length fc0_201, .slice fa1_201 G.bs.length fc1_201] 38))).below ((Below.refl _ _).drew)).below hB3_1).below hB3_2).below hB3_3) hr0_3_3 ).mono ?_
          rintro e w3 ⟨rfl, hB3_4⟩
          refine hK.out _ _ ?_ (fun hHeld => ?_)
          · exact ⟨cell_nx hB3_4 hHeld.1, cell_nx hB3_4 hHeld.2.1, cell_nx hB3_4 hHeld.2.2.1, cell_nx hB3_4 hHeld.2.2.2.1, cell_nx hB3_4 hHeld.2.2.2.2.1, cell_nx hB3_4 hHeld.2.2.2.2.2.1, bt hHeld.2.2.2.2.2.2 hB3_4⟩
          clear hK K
          (try simp only [List.getElem_toArray, List.getElem_cons_succ, List.getElem_cons_zero, Act.put, List.setIfInBounds_toArray, List.set_cons_zero, List.set_cons_succ])
          refine wpAnyH_take (i := 12) (oi := ?o53) (v := ?v53) ?hi53 ?hs53 ?hf53 ?hr53 ?hQ53 ?hy53 ?hS53 ?rest53
          case hi53 => rfl
          case hs53 => kernel_rfl
          case hf53 => kernel_rfl
          case hr53 => kernel_rfl
          case hQ53 => exact fun _ _ _ h => h
          case hS53 => assumption
          case hy53 =>
            refine Or.inl ⟨by kernel_rfl, ?_⟩
            intro w' hSw
            (try dsimp only at hSw)
            go_simp
            (try rfl)
          (try simp only [List.getElem_toArray, List.getElem_cons_succ, List.getElem_cons_zero, Act.put, List.setIfInBounds_toArray, List.set_cons_zero, List.set_cons_succ])
          refine wpAnyH_take (i := 13) (oi := ?o54) (v := ?v54) ?hi54 ?hs54 ?hf54 ?hr54 ?hQ54 ?hy54 ?hS54 ?rest54
          case hi54 => rfl
          case hs54 => kernel_rfl
          case hf54 => kernel_rfl
          case hr54 => kernel_rfl
          case hQ54 => exact fun _ _ _ h => h
          case hS54 => assumption
          case hy54 =>
            refine Or.inl ⟨by kernel_rfl, ?_⟩
            intro w' hSw
            (try dsimp only at hSw)
            go_simp
            (try rfl)
          (try simp only [List.getElem_toArray, List.getElem_cons_succ, List.getElem_cons_zero, Act.put, List.setIfInBounds_toArray, List.set_cons_zero, List.set_cons_succ])
          refine wpAnyH_done (by kernel_rfl) ?_ _
          refine NoPanic.normal ?_
          have hB := hHeld.2.2.2.2.2.2
          clear hHeld
          have E3 := Lib.hid (bt (bl_al w2 (.cells #[.slice fa0_201 G.cs.length fc0_201, .slice fa1_201 G.bs.length fc1_201] 38)) hB)
          have S3 : Hid (w2.heap.size + 1 ≤ w3.heap.size ∧ True) := Lib.hid ⟨by have := hB.size; (try simp only [sz_alloc] at this); exact this, trivial⟩
          have B3 := Lib.hid (bt B2.out E3.out)
          have Xn1_3 := Lib.hid (blk_next Xn1_2.out E3.out)
          have Xn2_3 := blk_next (alloc_blk w2 #[.slice fa0_201 G.cs.length fc0_201, .slice fa1_201 G.bs.length fc1_201] 38) hB
          replace Xn2_3 := Lib.hid Xn2_3
          have O200_3 := Lib.hid (O200_2.out.below E3.out)
          have O201_3 := Lib.hid (O201_2.out.below E3.out)
          clear hB3_1 hr0_3_1 hB3_2 hB3_3 hr0_3_3 hB3_4 Xn1_2 O200_2 O201_2 E3 B2 hB
          have cn1_0 := cell_blk Xn1_3.out 0
          have cn1_1 := cell_blk Xn1_3.out 1
          have cn1_2 := cell_blk Xn1_3.out 2
          have cn1_3 := cell_blk Xn1_3.out 3
          have ln1_ := blk_lt Xn1_3.out
          go_wp2_with fail
          refine (HTO.out  _ _ _ _ O200_3.out ).mono ?_
          rintro e w4 ⟨rfl, hB⟩
          clear cn1_0 cn1_1 cn1_2 cn1_3 ln1_
          have E4 := Lib.hid (hB)
          have S4 : Hid (w3.heap.size ≤ w4.heap.size ∧ True) := Lib.hid ⟨by have := hB.size; (try simp only [sz_alloc] at this); exact this, trivial⟩
          have B4 := Lib.hid (bt B3.out E4.out)
          have Xn1_4 := Lib.hid (blk_next Xn1_3.out E4.out)
          have Xn2_4 := Lib.hid (blk_next Xn2_3.out E4.out)
          have O200_4 := Lib.hid (O200_3.out.below E4.out)
          have O201_4 := Lib.hid (O201_3.out.below E4.out)
          clear Xn1_3 Xn2_3 O200_3 O201_3 E4 B3 hB
          have l1 := L1.out
          have l2 := L2.out
          have cn2_0 := cell_blk Xn2_4.out 0
          have cn2_1 := cell_blk Xn2_4.out 1
          have ln2_ := blk_lt Xn2_4.out
          go_wp2_with fail
          go_ret
          exact ⟨rfl, B4.out⟩
        · have b2 : 8 < b := by omega
          clear hbb
          go_wp2_with fail
          refine (HI.out  _ _ _ _ ((O200_1.out).below (bl_al w1 (.cells #[.slice a1 T.ns.length c1, .string ⟨T.y.toArray⟩, .slice a2 T.rs.length c2, .slice a3 T.ys.length c3] 34))) ).mono ?_
          rintro e w2 ⟨⟨y2_0a, y2_0b, rfl, hr0⟩, hB⟩
          have E2 := Lib.hid (bt (bl_al w1 (.cells #[.slice a1 T.ns.length c1, .string ⟨T.y.toArray⟩, .slice a2 T.rs.length c2, .slice a3 T.ys.length c3] 34)) hB)
          have S2 : Hid (w1.heap.size + 1 ≤ w2.heap.size ∧ True) := Lib.hid ⟨by have := hB.size; (try simp only [sz_alloc] at this); exact this, trivial⟩
          have B2 := Lib.hid (bt B1.out E2.out)
          have Xn1_2 := blk_next (alloc_blk w1 #[.slice a1 T.ns.length c1, .string ⟨T.y.toArray⟩, .slice a2 T.rs.length c2, .slice a3 T.ys.length c3] 34) hB
          replace Xn1_2 := Lib.hid Xn1_2
          have O200_2 := Lib.hid (O200_1.out.below E2.out)
          have O201_2 := Lib.hid hr0
          clear O200_1 E2 B1 hr0 hB
          obtain ⟨fa0_201, fc0_201, fa1_201, fc1_201, rfl, rfl⟩ := O201_2.out.form
          go_wp2_with fail
          have hS0 : (fun w' : World => w'.cell? ⟨(w2.heap.size), 0, none⟩ = some (.slice fa0_201 G.cs.length fc0_201) ∧ w'.cell? ⟨(w2.heap.size), 1, none⟩ = some (.slice fa1_201 G.bs.length fc1_201) ∧ w'.cell? ⟨(w1.heap.size), 0, none⟩ = some (.slice a1 T.ns.length c1) ∧ w'.cell? ⟨(w1.heap.size), 1, none⟩ = some (.string ⟨T.y.toArray⟩) ∧ w'.cell? ⟨(w1.heap.size), 2, none⟩ = some (.slice a2 T.rs.length c2) ∧ w'.cell? ⟨(w1.heap.size), 3, none⟩ = some (.slice a3 T.ys.length c3) ∧ Below (w2.alloc (.cells #[.slice fa0_201 G.cs.length fc0_201, .slice fa1_201 G.bs.length fc1_201] 38)).heap.size (w2.alloc (.cells #[.slice fa0_201 G.cs.length fc0_201, .slice fa1_201 G.bs.length fc1_201] 38)) w') (w2.alloc (.cells #[.slice fa0_201 G.cs.length fc0_201, .slice fa1_201 G.bs.length fc1_201] 38)).drew := ⟨cell_nx ((Below.refl _ _).drew) (cell_blk (alloc_blk w2 #[.slice fa0_201 G.cs.length fc0_201, .slice fa1_201 G.bs.length fc1_201] 38) 0), cell_nx ((Below.refl _ _).drew) (cell_blk (alloc_blk w2 #[.slice fa0_201 G.cs.length fc0_201, .slice fa1_201 G.bs.length fc1_201] 38) 1), cell_nx ((Below.refl _ _).drew) (cell_blk (blk_al Xn1_2.out (.cells #[.slice fa0_201 G.cs.length fc0_201, .slice fa1_201 G.bs.length fc1_201] 38)) 0), cell_nx ((Below.refl _ _).drew) (cell_blk (blk_al Xn1_2.out (.cells #[.slice fa0_201 G.cs.length fc0_201, .slice fa1_201 G.bs.length fc1_201] 38)) 1), cell_nx ((Below.refl _ _).drew) (cell_blk (blk_al Xn1_2.out (.cells #[.slice fa0_201 G.cs.length fc0_201, .slice fa1_201 G.bs.length fc1_201] 38)) 2), cell_nx ((Below.refl _ _).drew) (cell_blk (blk_al Xn1_2.out (.cells #[.slice fa0_201 G.cs.length fc0_201, .slice fa1_201 G.bs.length fc1_201] 38)) 3), (Below.refl _ _).drew⟩
          refine wp_region_noPanic ?_
          refine wp_region_held_drew (S := (fun w' : World => w'.cell? ⟨(w2.heap.size), 0, none⟩ = some (.slice fa0_201 G.cs.length fc0_201) ∧ w'.cell? ⟨(w2.heap.size), 1, none⟩ = some (.slice fa1_201 G.bs.length fc1_201) ∧ w'.cell? ⟨(w1.heap.size), 0, none⟩ = some (.slice a1 T.ns.length c1) ∧ w'.cell? ⟨(w1.heap.size), 1, none⟩ = some (.string ⟨T.y.toArray⟩) ∧ w'.cell? ⟨(w1.heap.size), 2, none⟩ = some (.slice a2 T.rs.length c2) ∧ w'.cell? ⟨(w1.heap.size), 3, none⟩ = some (.slice a3 T.ys.length c3) ∧ Below (w2.alloc (.cells #[.slice fa0_201 G.cs.length fc0_201, .slice fa1_201 G.bs.length fc1_201] 38)).heap.size (w2.alloc (.cells #[.slice fa0_201 G.cs.length fc0_201, .slice fa1_201 G.bs.length fc1_201] 38)) w')) (by kernel_rfl) hS0 (fun hHeld => ?_)
          clear hS0
          refine wpAnyH_take (i := 0) (oi := ?o55) (v := ?v55) ?hi55 ?hs55 ?hf55 ?hr55 ?hQ55 ?hy55 ?hS55 ?rest55
          case hi55 => rfl
          case hs55 => kernel_rfl
          case hf55 => kernel_rfl
          case hr55 => kernel_rfl
          case hQ55 => exact fun _ _ _ h => h
          case hS55 => assumption
          case hy55 =>
            refine Or.inl ⟨by kernel_rfl, ?_⟩
            intro w' hSw
            (try dsimp only at hSw)
            go_simp
            (try rfl)
          (try simp only [List.getElem_toArray, List.getElem_cons_zero, Act.put, List.setIfInBounds_toArray, List.set_cons_zero, List.set_cons_succ])
          refine wpAnyH_take (i := 1) (oi := ?o56) (v := ?v56) ?hi56 ?hs56 ?hf56 ?hr56 ?hQ56 ?hy56 ?hS56 ?rest56
          case hi56 => rfl
          case hs56 => kernel_rfl
          case hf56 => kernel_rfl
          case hr56 => kernel_rfl
          case hQ56 => exact fun _ _ _ h => h
          case hS56 => assumption
          case hy56 =>
            refine Or.inl ⟨by kernel_rfl, ?_⟩
            intro w' hSw
            (try dsimp only at hSw)
            go_simp
            (try rfl)
          (try simp only [List.getElem_toArray, List.getElem_cons_succ, List.getElem_cons_zero, Act.put, List.setIfInBounds_toArray, List.set_cons_zero, List.set_cons_succ])
          refine wpAnyH_take (i := 2) (oi := ?o57) (v := ?v57) ?hi57 ?hs57 ?hf57 ?hr57 ?hQ57 ?hy57 ?hS57 ?rest57
          case hi57 => rfl
          case hs57 => kernel_rfl
          case hf57 => kernel_rfl
          case hr57 => kernel_rfl
          case hQ57 => exact fun _ _ _ h => h
          case hS57 => assumption
          case hy57 =>
            refine Or.inl ⟨by kernel_rfl, ?_⟩
            intro w' hSw
            (try dsimp only at hSw)
            go_simp
            (try rfl)
          (try simp only [List.getElem_toArray, List.getElem_cons_succ, List.getElem_cons_zero, Act.put, List.setIfInBounds_toArray, List.set_cons_zero, List.set_cons_succ])
          refine wpAnyH_ready (rs := [3]) (by kernel_rfl) (by simp) ?_
          refine AllReadyH.cons rfl (fun K hK => ?_) AllReadyH.nil
          go_simp
          refine (HS.out  _ _ _ _ (((O200_2.out).below (bl_al w2 (.cells #[.slice fa0_201 G.cs.length fc0_201, .slice fa1_201 G.bs.length fc1_201] 38))).below ((Below.refl _ _).drew)) ).mono ?_
          rintro e w3_1 ⟨⟨y3_1_0a, y3_1_0b, rfl, hr0_3_1⟩, hB3_1⟩
          refine hK.out _ _ ?_ (fun hHeld => ?_)
          · exact ⟨cell_nx hB3_1 hHeld.1, cell_nx hB3_1 hHeld.2.1, cell_nx hB3_1 hHeld.2.2.1, cell_nx hB3_1 hHeld.2.2.2.1, cell_nx hB3_1 hHeld.2.2.2.2.1, cell_nx hB3_1 hHeld.2.2.2.2.2.1, bt hHeld.2.2.2.2.2.2 hB3_1⟩
          clear hK K
          (try simp only [List.getElem_toArray, List.getElem_cons_succ, List.getElem_cons_zero, Act.put, List.setIfInBounds_toArray, List.set_cons_zero, List.set_cons_succ])
          refine wpAnyH_ready (rs := [4]) (by kernel_rfl) (by simp) ?_
          refine AllReadyH.cons rfl (fun K hK => ?_) AllReadyH.nil
          go_simp
          refine (HSS.out  _ _ _ _ _ ((((O201_2.out).below (bl_al w2 (.cells #[.slice fa0_201 G.cs.length fc0_201, .slice fa1_201 G.bs.length fc1_201] 38))).below ((Below.refl _ _).drew)).below hB3_1) hr0_3_1 ).mono ?_
          rintro e w3_2 ⟨rfl, hB3_2⟩
          refine hK.out _ _ ?_ (fun hHeld => ?_)
          · exact ⟨cell_nx hB3_2 hHeld.1, cell_nx hB3_2 hHeld.2.1, cell_nx hB3_2 hHeld.2.2.1, cell_nx hB3_2 hHeld.2.2.2.1, cell_nx hB3_2 hHeld.2.2.2.2.1, cell_nx hB3_2 hHeld.2.2.2.2.2.1, bt hHeld.2.2.2.2.2.2 hB3_2⟩
          clear hK K
          (try simp only [List.getElem_toArray, List.getElem_cons_succ, List.getElem_cons_zero, Act.put, List.setIfInBounds_toArray, List.set_cons_zero, List.set_cons_succ])
          refine wpAnyH_take (i := 5) (oi := ?o58) (v := ?v58) ?hi58 ?hs58 ?hf58 ?hr58 ?hQ58 ?hy58 ?hS58 ?rest58
          case hi58 => rfl
          case hs58 => kernel_rfl
          case hf58 => kernel_rfl
          case hr58 => kernel_rfl
          case hQ58 => exact fun _ _ _ h => h
          case hS58 => assumption
          case hy58 =>
            refine Or.inl ⟨by kernel_rfl, ?_⟩
            intro w' hSw
            (try dsimp only at hSw)
            go_simp
            (try rfl)
          (try simp only [List.getElem_toArray, List.getElem_cons_succ, List.getElem_cons_zero, Act.put, List.setIfInBounds_toArray, List.set_cons_zero, List.set_cons_succ])
          refine wpAnyH_take (i := 6) (oi := ?o59) (v := ?v59) ?hi59 ?hs59 ?hf59 ?hr59 ?hQ59 ?hy59 ?hS59 ?rest59
          case hi59 => rfl
          case hs59 => kernel_rfl
          case hf59 => kernel_rfl
          case hr59 => kernel_rfl
          case hQ59 => exact fun _ _ _ h => h
          case hS59 => assumption
          case hy59 =>
            refine Or.inl ⟨by kernel_rfl, ?_⟩
            intro w' hSw
            (try dsimp only at hSw)
            go_simp
            (try rfl)
          (try simp only [List.getElem_toArray, List.getElem_cons_succ, List.getElem_cons_zero, Act.put, List.setIfInBounds_toArray, List.set_cons_zero, List.set_cons_succ])
          refine wpAnyH_take (i := 7) (oi := ?o60) (v := ?v60) ?hi60 ?hs60 ?hf60 ?hr60 ?hQ60 ?hy60 ?hS60 ?rest60
          case hi60 => rfl
          case hs60 => kernel_rfl
          case hf60 => kernel_rfl
          case hr60 => kernel_rfl
          case hQ60 => exact fun _ _ _ h => h
          case hS60 => assumption
          case hy60 =>
            refine Or.inl ⟨by kernel_rfl, ?_⟩
            intro w' hSw
            (try dsimp only at hSw)
            go_simp
            (try rfl)
          (try simp only [List.getElem_toArray, List.getElem_cons_succ, List.getElem_cons_zero, Act.put, List.setIfInBounds_toArray, List.set_cons_zero, List.set_cons_succ])
          refine wpAnyH_take (i := 8) (oi := ?o61) (v := ?v61) ?hi61 ?hs61 ?hf61 ?hr61 ?hQ61 ?hy61 ?hS61 ?rest61
          case hi61 => rfl
          case hs61 => kernel_rfl
          case hf61 => kernel_rfl
          case hr61 => kernel_rfl
          case hQ61 => exact fun _ _ _ h => h
          case hS61 => assumption
          case hy61 =>
            refine Or.inl ⟨by kernel_rfl, ?_⟩
            intro w' hSw
            (try dsimp only at hSw)
            go_simp
            (try rfl)
          (try simp only [List.getElem_toArray, List.getElem_cons_succ, List.getElem_cons_zero, Act.put, List.setIfInBounds_toArray, List.set_cons_zero, List.set_cons_succ])
          refine wpAnyH_take (i := 9) (oi := ?o62) (v := ?v62) ?hi62 ?hs62 ?hf62 ?hr62 ?hQ62 ?hy62 ?hS62 ?rest62
          case hi62 => rfl
          case hs62 => kernel_rfl
          case hf62 => kernel_rfl
          case hr62 => kernel_rfl
          case hQ62 => exact fun _ _ _ h => h
          case hS62 => assumption
          case hy62 =>
            refine Or.inl ⟨by kernel_rfl, ?_⟩
            intro w' hSw
            (try dsimp only at hSw)
            go_simp
            (try rfl)
          (try simp only [List.getElem_toArray, List.getElem_cons_succ, List.getElem_cons_zero, Act.put, List.setIfInBounds_toArray, List.set_cons_zero, List.set_cons_succ])
          refine wpAnyH_ready (rs := [10]) (by kernel_rfl) (by simp) ?_
          refine AllReadyH.cons rfl (fun K hK => ?_) AllReadyH.nil
          go_simp
          refine (HS.out  _ _ _ _ (((((O200_2.out).below (bl_al w2 (.cells #[.slice fa0_201 G.cs.length fc0_201, .slice fa1_201 G.bs.length fc1_201] 38))).below ((Below.refl _ _).drew)).below hB3_1).below hB3_2) ).mono ?_
          rintro e w3_3 ⟨⟨y3_3_0a, y3_3_0b, rfl, hr0_3_3⟩, hB3_3⟩
          refine hK.out _ _ ?_ (fun hHeld => ?_)
          · exact ⟨cell_nx hB3_3 hHeld.1, cell_nx hB3_3 hHeld.2.1, cell_nx hB3_3 hHeld.2.2.1, cell_nx hB3_3 hHeld.2.2.2.1, cell_nx hB3_3 hHeld.2.2.2.2.1, cell_nx hB3_3 hHeld.2.2.2.2.2.1, bt hHeld.2.2.2.2.2.2 hB3_3⟩
          clear hK K
          (try simp only [List.getElem_toArray, List.getElem_cons_succ, List.getElem_cons_zero, Act.put, List.setIfInBounds_toArray, List.set_cons_zero, List.set_cons_succ])
          refine wpAnyH_ready (rs := [11]) (by kernel_rfl) (by simp) ?_
          refine AllReadyH.cons rfl (fun K hK => ?_) AllReadyH.nil
          go_simp
          refine (HIS.out  _ _ _ _ _ ((((((O201_2.out).below (bl_al w2 (.cells #[.slice fa0_201 G.cs.length fc0_201, .slice fa1_201 G.bs.length fc1_201] 38))).below ((Below.refl _ _).drew)).below hB3_1).below hB3_2).below hB3_3) hr0_3_3 ).mono ?_
          rintro e w3 ⟨rfl, hB3_4⟩
          refine hK.out _ _ ?_ (fun hHeld => ?_)
          · exact ⟨cell_nx hB3_4 hHeld.1, cell_nx hB3_4 hHeld.2.1, cell_nx hB3_4 hHeld.2.2.1, cell_nx hB3_4 hHeld.2.2.2.1, cell_nx hB3_4 hHeld.2.2.2.2.1, cell_nx hB3_4 hHeld.2.2.2.2.2.1, bt hHeld.2.2.2.2.2.2 hB3_4⟩
          clear hK K
          (try simp only [List.getElem_toArray, List.getElem_cons_succ, List.getElem_cons_zero, Act.put, List.setIfInBounds_toArray, List.set_cons_zero, List.set_cons_succ])
          refine wpAnyH_take (i := 12) (oi := ?o63) (v := ?v63) ?hi63 ?hs63 ?hf63 ?hr63 ?hQ63 ?hy63 ?hS63 ?rest63
          case hi63 => rfl
          case hs63 => kernel_rfl
          case hf63 => kernel_rfl
          case hr63 => kernel_rfl
          case hQ63 => exact fun _ _ _ h => h
          case hS63 => assumption
          case hy63 =>
            refine Or.inl ⟨by kernel_rfl, ?_⟩
            intro w' hSw
            (try dsimp only at hSw)
            go_simp
            (try rfl)
          (try simp only [List.getElem_toArray, List.getElem_cons_succ, List.getElem_cons_zero, Act.put, List.setIfInBounds_toArray, List.set_cons_zero, List.set_cons_succ])
          refine wpAnyH_take (i := 13) (oi := ?o64) (v := ?v64) ?hi64 ?hs64 ?hf64 ?hr64 ?hQ64 ?hy64 ?hS64 ?rest64
          case hi64 => rfl
          case hs64 => kernel_rfl
          case hf64 => kernel_rfl
          case hr64 => kernel_rfl
          case hQ64 => exact fun _ _ _ h => h
          case hS64 => assumption
          case hy64 =>
            refine Or.inl ⟨by kernel_rfl, ?_⟩
            intro w' hSw
            (try dsimp only at hSw)
            go_simp
            (try rfl)
          (try simp only [List.getElem_toArray, List.getElem_cons_succ, List.getElem_cons_zero, Act.put, List.setIfInBounds_toArray, List.set_cons_zero, List.set_cons_succ])
          refine wpAnyH_done (by kernel_rfl) ?_ _
          refine NoPanic.normal ?_
          have hB := hHeld.2.2.2.2.2.2
          clear hHeld
          have E3 := Lib.hid (bt (bl_al w2 (.cells #[.slice fa0_201 G.cs.length fc0_201, .slice fa1_201 G.bs.length fc1_201] 38)) hB)
          have S3 : Hid (w2.heap.size + 1 ≤ w3.heap.size ∧ True) := Lib.hid ⟨by have := hB.size; (try simp only [sz_alloc] at this); exact this, trivial⟩
          have B3 := Lib.hid (bt B2.out E3.out)
          have Xn1_3 := Lib.hid (blk_next Xn1_2.out E3.out)
          have Xn2_3 := blk_next (alloc_blk w2 #[.slice fa0_201 G.cs.length fc0_201, .slice fa1_201 G.bs.length fc1_201] 38) hB
          replace Xn2_3 := Lib.hid Xn2_3
          have O200_3 := Lib.hid (O200_2.out.below E3.out)
          have O201_3 := Lib.hid (O201_2.out.below E3.out)
          clear hB3_1 hr0_3_1 hB3_2 hB3_3 hr0_3_3 hB3_4 Xn1_2 O200_2 O201_2 E3 B2 hB
          have cn1_0 := cell_blk Xn1_3.out 0
          have cn1_1 := cell_blk Xn1_3.out 1
          have cn1_2 := cell_blk Xn1_3.out 2
          have cn1_3 := cell_blk Xn1_3.out 3
          have ln1_ := blk_lt Xn1_3.out
          go_wp2_with fail
          refine (HTO.out  _ _ _ _ O200_3.out ).mono ?_
          rintro e w4 ⟨rfl, hB⟩
          clear cn1_0 cn1_1 cn1_2 cn1_3 ln1_
          have E4 := Lib.hid (hB)
          have S4 : Hid (w3.heap.size ≤ w4.heap.size ∧ True) := Lib.hid ⟨by have := hB.size; (try simp only [sz_alloc] at this); exact this, trivial⟩
          have B4 := Lib.hid (bt B3.out E4.out)
          have Xn1_4 := Lib.hid (blk_next Xn1_3.out E4.out)
          have Xn2_4 := Lib.hid (blk_next Xn2_3.out E4.out)
          have O200_4 := Lib.hid (O200_3.out.below E4.out)
          have O201_4 := Lib.hid (O201_3.out.below E4.out)
          clear Xn1_3 Xn2_3 O200_3 O201_3 E4 B3 hB
          have l1 := L1.out
          have l2 := L2.out
          have cn2_0 := cell_blk Xn2_4.out 0
          have cn2_1 := cell_blk Xn2_4.out 1
          have ln2_ := blk_lt Xn2_4.out
          go_wp2_with fail
          go_ret
          exact ⟨rfl, B4.out⟩

end Go.Proofs.Ytgknkjiifcnkpaa
