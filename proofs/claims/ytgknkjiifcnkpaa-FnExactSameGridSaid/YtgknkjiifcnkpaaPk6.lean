/-
  Sorted lists and compacted ones, the program's way: the library's sort and its Compact.
  Whether cuts are right, the program's way.
-/
import Derived.Test.YtgknkjiifcnkpaaSrtU
import Derived.Test.YtgknkjiifcnkpaaShSrt
import Derived.OwnWalk
import Derived.Laws.CopyOwn
import Derived.Sort.OwnSortedInts
import Derived.Lib.OwnBridge
import Derived.Test.YtgknkjiifcnkpaaI9D
namespace Go.Proofs.Ytgknkjiifcnkpaa
open Go.RowKit Go.Sort

theorem merge_sortZ (zs : List Int) : zs.mergeSort (fun x y => decide (x ≤ y)) = sortZ zs := by
  refine sortZ_uniq ?_ (List.mergeSort_perm _ _)
  refine (List.pairwise_mergeSort ?_ ?_ zs).imp ?_
  · intro a b c h1 h2
    simp only [decide_eq_true_eq] at *
    omega
  · intro a b
    simp only [Bool.or_eq_true, decide_eq_true_eq]
    omega
  · intro a b h
    simpa using h
theorem bang_getD (l : List Int) (k : Nat) : l.toArray[k]! = l.getD k 0 := by
  rw [List.getD_eq_getElem?_getD, Array.getElem!_eq_getD, Array.getD_eq_getD_getElem?, List.getElem?_toArray]
  rfl
theorem compact_ded (l : List Int) : ∀ k, Lib.compactUpTo l.toArray k = dedK l k
  | 0 => rfl
  | k + 1 => by
    rw [Lib.compactUpTo_succ, compact_ded l k, dedK, bang_getD]
    unfold Lib.keeps
    rw [bang_getD, bang_getD]
    by_cases h : k = 0 ∨ l.getD k 0 ≠ l.getD (k - 1) 0
    · rw [if_pos h, decide_eq_true h, if_pos rfl]
    · rw [if_neg h, decide_eq_false h, if_neg (by decide), List.append_nil]
theorem compact_dist {l : List Int} (h : l.Pairwise (· ≤ ·)) : Lib.compact l = distZ l := by
  rw [Lib.compact, compact_ded, distZ, ← sortZ_uniq h (List.Perm.refl l)]
theorem compact_len (l : List Int) : (Lib.compact l).length ≤ l.length := by
  rw [Lib.compact, compact_ded]
  exact dedK_len l l.length

/-- Compact at a row that the call owns and that is in order. -/
theorem libCompact {w : World} {base n : Nat} {v : Value} {zs : List Int} (hown : w.ownsRow base 3 1 v n (intCells zs)) (hn : n ≤ 1048576) (hs : zs.Pairwise (· ≤ ·)) :
    Calls Try.prog 46 #[v] w fun e w' => (∃ v', e = .returned v' ∧ w'.ownsRow base 3 1 v' (distZ zs).length (intCells (distZ zs))) ∧ Below base w w' := by
  have hl : zs.length = n := by have := hown.1; rw [intCells_len] at this; omega
  subst hl
  by_cases hv : v = .slice none 0 0
  · subst hv
    have hz : zs = [] := by
      rcases hown.2 with ⟨_, h0⟩ | ⟨g, cap, cur, he, _⟩
      · exact List.eq_nil_of_length_eq_zero h0
      · cases he
    subst hz
    refine (Try.slices_Compact_int_empty none 0 w).mono ?_
    rintro e w1 ⟨rfl, rfl⟩
    exact ⟨⟨_, rfl, hown⟩, Below.refl _ _⟩
  · obtain ⟨g, cap, rfl, hg, hlt, hnc, _, _, hH⟩ := Lib.holds_of_ownsRow hown hv
    refine (Try.slices_Compact_int g 0 cap zs w hH (by omega) hnc).mono ?_
    rintro e w1 ⟨rfl, q, rfl⟩
    have hcl := compact_len zs
    have h1 := Lib.ownsRow_putRow (q := q) (k := (Lib.compact zs).length) (ys := Lib.compact zs ++ List.replicate (zs.length - (Lib.compact zs).length) 0) hown (by simp; omega) hcl
    rw [List.take_left] at h1
    rw [compact_dist hs] at h1 ⊢
    exact ⟨⟨_, rfl, h1⟩, Lib.below_putRow (Below.refl _ _) hg⟩

set_option maxRecDepth 100000 in
set_option maxHeartbeats 1000000 in
/-- A LIST SORTED INTO MEMORY OF ITS OWN. -/
theorem implSorted (zs : List Int) (u : Value) (w : World) (h : IntRow w u zs) (hle : zs.length ≤ 1048576) :
    Calls Try.prog 45 #[u] w fun e w' => (∃ g c, e = .returned (.slice (some ⟨g, 0, none⟩) zs.length c) ∧ w'.ownsRow w.heap.size 3 1 (.slice (some ⟨g, 0, none⟩) zs.length c) zs.length (intCells (sortZ zs))) ∧ Below w.heap.size w w' := by
  obtain ⟨iI, hi, hz0, hz1, hz2⟩ := info_parts infoInt
  obtain ⟨a, c, rfl, hl9, hc⟩ := intRow_form h
  obtain ⟨n, hn⟩ : ∃ n : Nat, zs.length = n := ⟨_, rfl⟩
  obtain ⟨cs, hcs⟩ : ∃ cs, cs = intCells zs := ⟨_, rfl⟩
  have hcl : cs.length = n := by rw [hcs, intCells_len, hn]
  rw [hn] at hl9 hle ⊢
  have HC : Hid (0 < cs.length → ∃ ad, a = some ad ∧ ∀ j v, cs[j]? = some v → w.cell? (ad.add j) = some v) := Lib.hid (by
    intro hp
    obtain ⟨x, hx⟩ : ∃ x, zs[0]? = some x := ⟨_, List.getElem?_eq_getElem (by omega)⟩
    obtain ⟨b, off, ha, _⟩ := hc 0 x hx
    refine ⟨⟨b, off, none⟩, ha, fun j v hj => ?_⟩
    have hjl := (List.getElem?_eq_some_iff.1 hj).1
    obtain ⟨y, hy⟩ : ∃ y, zs[j]? = some y := ⟨_, List.getElem?_eq_getElem (by omega)⟩
    rw [hcs, intCells_at hy] at hj
    injection hj with hj
    subst hj
    obtain ⟨b', off', ha', hcell⟩ := hc j y hy
    rw [ha] at ha'
    injection ha' with ha'
    injection ha' with e1 e2 _
    subst e1
    subst e2
    rw [Lib.addr_add]
    exact hcell)
  have H1 : Hid (∀ v ∈ cs, v.oneCell' = true) := Lib.hid (by
    intro v hv
    rw [hcs] at hv
    obtain ⟨x, _, rfl⟩ := List.mem_map.1 hv
    rfl)
  have HCS := Lib.hid hcs
  have HN := Lib.hid hn
  have hk0 : ¬ (n : Int) < 0 := by omega
  clear h hc hcs hn
  go_enter Try.func45, Try.ntmps45
  go_wp2_with (at_make; refine wpList_make_full _ rfl _ _ 24 rfl w.heap.size 3 iI (.int .i64 0) 1 Try.underlying24 hi hz0 hz1 .i64 .i64 _ _ n rfl rfl rfl rfl ?c1 ?c2 ?c3 ?_)
  case c1 => omega
  case c2 => unfold maxLen; omega
  intro w1 hown1 hg1
  have B1 : Below w.heap.size w w1 := (Below.refl _ _).grown hg1 (Nat.le_refl _) (fun j hj => by cases hj)
  obtain ⟨cur, hcur, hcsz⟩ : ∃ cur, w1.heap[w.heap.size]? = some (.cells cur 3 (0, 0)) ∧ cur.size = n := by
    rcases hown1.2 with ⟨he, _⟩ | ⟨g', cap', cur, he, _, hg', _, _, hs', _⟩
    · cases he
    · injection he with e1 _ e3
      injection e1 with e1
      injection e1 with e1
      subst e1
      subst e3
      exact ⟨cur, hg', by omega⟩
  obtain ⟨L, hL⟩ : ∃ L, cur.toList = L := ⟨_, rfl⟩
  have hcur2 : w1.heap[w.heap.size]? = some (.cells L.toArray 3 (0, 0)) := by rw [← hL]; simpa using hcur
  have hLl : L.length = n := by rw [← hL]; simpa using hcsz
  have HC1 : Hid (0 < cs.length → ∃ ad, a = some ad ∧ ∀ j v, cs[j]? = some v → w1.cell? (ad.add j) = some v) := Lib.hid (by
    intro hp
    obtain ⟨ad, ha, hx⟩ := HC.out hp
    refine ⟨ad, ha, fun j v hj => ?_⟩
    have h := hx j v hj
    exact (B1.cell (p := ad.add j) (World.block_lt_of_cell? w _ h)).trans h)
  have HB1 := Lib.hid B1
  have HQ := Lib.hid hcur2
  have HLL := Lib.hid hLl
  clear hown1 hg1 hcur hcsz hL hcur2 hLl HC B1
  go_wp2_with (with_reducible refine wpList_copy_splice rfl _ _ 24 24 rfl 3 Try.underlying24 ?a1 _ _ _ _ _ _ rfl rfl w.heap.size 0 L 3 HQ.out cs ?a2 ?a3 ?a4 H1.out w.heap.size w HB1.out (Nat.le_refl _) ?_)
  case a1 => rw [hi]; exact congrArg some hz1
  case a2 => rw [hcl]; simp
  case a3 =>
    intro hp
    exact HC1.out (by omega)
  case a4 => rw [HLL.out]; omega
  intro w2 HG2 B2
  have hsp : splice L 0 cs = cs := by
    unfold splice
    rw [List.take_zero, List.nil_append, List.drop_of_length_le (by rw [HLL.out]; omega), List.append_nil]
  have hG2 := HG2.out
  rw [hsp] at hG2
  have hlt2 : w.heap.size < w2.heap.size := by
    rcases Nat.lt_or_ge w.heap.size w2.heap.size with h' | h'
    · exact h'
    · rw [Array.getElem?_eq_none h'] at hG2
      cases hG2
  have hHo : Holds (Value.int .i64) w2 w.heap.size 0 zs.toArray := holds_of_blockI hG2 (by
    show List.take zs.length cs = _
    rw [HCS.out, List.take_of_length_le (by rw [intCells_len]; exact Nat.le_refl _)]
    rfl)
  have HS := Lib.hid (Try.slices_Sort_int w.heap.size 0 n zs w2 hHo hlt2 (by have := HN.out; omega))
  have HO := Lib.hid (fun (m : Nat) (os : Array Obj) => ownsRow_sortedI (n := m) (os := os) (cap := n) (ss := zs) (ts := sortZ zs) (sortZ_len zs) (Nat.le_refl w.heap.size) hG2 (by have := HN.out; omega) (by unfold maxLen; omega) (by simp; omega))
  have HB2 := Lib.hid B2
  rw [HN.out, merge_sortZ] at HS
  rw [HN.out] at HO
  clear hG2 HG2 hHo hlt2 B2 hsp HC1 HB1 HQ HLL H1 hcl
  go_wp2_with fail
  refine HS.out.mono ?_
  rintro e w3 ⟨rfl, m, os, rfl⟩
  go_wp2_with fail
  go_ret
  refine ⟨⟨_, _, rfl, HO.out m os⟩, ?_⟩
  exact HB2.out.grown (grownBy_sortedI _) HB2.out.size (fun j hj => by injection hj with hj; omega)
end Go.Proofs.Ytgknkjiifcnkpaa
namespace Go.Proofs.Ytgknkjiifcnkpaa
open Go.RowKit

/-- Each but the first is greater than the one ahead of it. -/
def ascB (zs : List Int) : Bool := (List.range zs.length).all fun k => k == 0 || decide (zs.getD (k - 1) 0 < zs.getD k 0)
theorem ascB_iff {zs : List Int} : ascB zs = true ↔ ∀ k, k < zs.length → k = 0 ∨ zs.getD (k - 1) 0 < zs.getD k 0 := by
  simp [ascB, List.all_eq_true]
theorem asc_cuts (zs : List Int) : (decide (zs.length < 8) && (zs.all valB && ascB zs)) = cutsB zs := by
  have hv : zs.all valB = (List.range zs.length).all fun k => valB (zs.getD k 0) := by
    rw [Bool.eq_iff_iff, List.all_eq_true, List.all_eq_true]
    refine ⟨fun h k hk => h _ (getD_mem (List.mem_range.1 hk)), fun h x hx => ?_⟩
    obtain ⟨k, hk, rfl⟩ := List.getElem_of_mem hx
    have := h k (List.mem_range.2 hk)
    rwa [getD_eq hk] at this
  have hb : (zs.all valB && ascB zs) = (List.range zs.length).all (okCuts zs) := by
    rw [hv, ascB, Bool.eq_iff_iff, Bool.and_eq_true, List.all_eq_true, List.all_eq_true, List.all_eq_true]
    refine ⟨fun h k hk => ?_, fun h => ⟨fun k hk => ?_, fun k hk => ?_⟩⟩
    · rw [okCuts, Bool.and_eq_true]
      exact ⟨h.1 k hk, h.2 k hk⟩
    · have := h k hk
      rw [okCuts, Bool.and_eq_true] at this
      exact this.1
    · have := h k hk
      rw [okCuts, Bool.and_eq_true] at this
      exact this.2
  rw [hb, cutsB, Bool.and_comm, show decide (zs.length < 8) = decide (zs.length ≤ 7) from decide_eq_decide.2 (by omega)]

set_option maxRecDepth 100000 in
set_option maxHeartbeats 1000000 in
theorem ascends9 (zs : List Int) (u : Value) (w : World) (h : IntRow w u zs) (hle : zs.length ≤ 1048576) :
    Calls Try.prog 89 #[u] w fun e w' => e = .returned (.bool (ascB zs)) ∧ ∃ q, w' = w.drewN q := by
  obtain ⟨a, c, rfl, hl9, hc⟩ := intRow_form h
  have HC := Lib.hid hc
  clear h hc
  obtain ⟨n, hn⟩ : ∃ n : Nat, zs.length = n := ⟨_, rfl⟩
  rw [hn] at hl9 hle ⊢
  have HE := Lib.hid hn
  clear hn
  go_enter Try.func89, Try.ntmps89
  go_wp2_with fail
  go_loopg [3] n (fun g_ i_ wr => ∃ j z : Nat, j ≤ n ∧ g_ = n - j ∧ i_ = .int .i64 ((j + 1 : Nat) : Int) ∧ wr = w.drewN z ∧ ∀ k, k ≤ j → k = 0 ∨ zs.getD (k - 1) 0 < zs.getD k 0)
  case atStart => exact ⟨0, 0, Nat.zero_le _, rfl, rfl, rfl, fun k hk => Or.inl (by omega)⟩
  case round =>
    obtain ⟨j, z, hj, rfl, rfl, rfl, ht⟩ := hrel
    have HT := Lib.hid ht
    clear ht
    by_cases hlt : j + 1 < n
    · have hj1 : ((j + 1 : Nat) : Int) < n := by omega
      have hj0 : (0 : Int) ≤ ((j + 1 : Nat) : Int) := by omega
      have hj2 : (j : Int) < n := by omega
      have hj3 : (0 : Int) ≤ j := by omega
      have hwp : IntKind.i64.wrap (((j + 1 : Nat) : Int) - 1) = (j : Int) := by rw [IntKind.wrap_i64]; omega
      obtain ⟨x, hx⟩ : ∃ x, zs[j]? = some x := ⟨_, List.getElem?_eq_getElem (by rw [HE.out]; omega)⟩
      obtain ⟨y, hy⟩ : ∃ y, zs[j + 1]? = some y := ⟨_, List.getElem?_eq_getElem (by rw [HE.out]; exact hlt)⟩
      have hdx : zs.getD j 0 = x := by rw [List.getD_eq_getElem?_getD, hx]; rfl
      have hdy : zs.getD (j + 1) 0 = y := by rw [List.getD_eq_getElem?_getD, hy]; rfl
      have HXY := Lib.hid (And.intro hdx hdy)
      obtain ⟨b, off, rfl, hcx⟩ := HC.out j x hx
      obtain ⟨b2, off2, he2, hcy⟩ := HC.out (j + 1) y hy
      injection he2 with he2
      injection he2 with e1 e2 _
      subst e1
      subst e2
      have hcellx : (w.drewN z).cell? ⟨b, off + j, none⟩ = some (.int .i64 x) := hcx
      have hcelly : (w.drewN z).cell? ⟨b, off + (j + 1), none⟩ = some (.int .i64 y) := hcy
      clear hx hy hcx hcy hdx hdy
      obtain ⟨wq, hwq⟩ : ∃ wq, w.drewN z = wq := ⟨_, rfl⟩
      rw [hwq] at hcellx hcelly ⊢
      have HW := Lib.hid hwq
      clear hwq
      by_cases hyx : y ≤ x
      · go_wp2_with fail
        go_quiet (fail)
        go_wp2_with fail
        go_ret
        refine ⟨congrArg Ending.returned (congrArg Value.bool ?_), _, by rw [← HW.out, World.drewN_drewN]⟩
        cases hs : ascB zs with
        | false => rfl
        | true =>
          have := ascB_iff.1 hs (j + 1) (by rw [HE.out]; exact hlt)
          rw [show j + 1 - 1 = j by omega, HXY.out.1, HXY.out.2] at this
          omega
      · go_wp2_with fail
        go_quiet (fail)
        go_wp2_with fail
        go_roundg (n - (j + 1))
        case measure => omega
        case rel =>
          refine ⟨j + 1, _, by omega, rfl, by go_num, by rw [← HW.out, World.drewN_drewN], fun k hk => ?_⟩
          by_cases hkj : k ≤ j
          · exact HT.out k hkj
          · obtain rfl : k = j + 1 := by omega
            right
            rw [show j + 1 - 1 = j by omega, HXY.out.1, HXY.out.2]
            omega
    · have hj1 : ¬ ((j + 1 : Nat) : Int) < n := by omega
      have HA : Hid (ascB zs = true) := Lib.hid (ascB_iff.2 fun k hk => HT.out k (by rw [HE.out] at hk; omega))
      go_wp2_with fail
      go_ret
      exact ⟨congrArg Ending.returned (congrArg Value.bool HA.out.symm), z, rfl⟩

set_option maxRecDepth 100000 in
/-- WHETHER CUTS ARE RIGHT. -/
theorem implCutsOk9 (zs : List Int) (u : Value) (w : World) (h : IntRow w u zs) (hle : zs.length ≤ 1048576) :
    Calls Try.prog 63 #[u] w fun e w' => e = .returned (.bool (cutsB zs)) ∧ Below w.heap.size w w' := by
  have h0 := Lib.hid h
  obtain ⟨a, c, rfl, hl9, hc⟩ := intRow_form h
  have HB := Lib.hid (asc_cuts zs)
  clear h hc
  by_cases h8 : zs.length < 8
  · have h81 : (zs.length : Int) < 8 := by omega
    have HD := Lib.hid (decide_eq_true h8)
    go_enter Try.func63, Try.ntmps63
    go_wp2_with fail
    refine (areDec9 _ _ zs zs.length h0.out).mono ?_
    rintro e w1 ⟨rfl, q1, rfl⟩
    rw [decide_eq_true rfl, Bool.true_and]
    cases hv : zs.all valB with
    | false =>
      have HV := Lib.hid hv
      clear hv
      go_wp2_with fail
      go_ret
      exact ⟨congrArg Ending.returned (congrArg Value.bool (by rw [← HB.out, HV.out, HD.out]; rfl)), below_drewN2 (Below.refl _ _) _⟩
    | true =>
      have HV := Lib.hid hv
      clear hv
      go_wp2_with fail
      refine (ascends9 zs _ _ (h0.out.below (below_drewN2 (Below.refl _ _) _)) hle).mono ?_
      rintro e w2 ⟨rfl, q2, rfl⟩
      go_wp2_with fail
      go_ret
      exact ⟨congrArg Ending.returned (congrArg Value.bool (by rw [← HB.out, HV.out, HD.out]; rfl)), below_drewN2 (Below.refl _ _) _⟩
  · have h81 : ¬ (zs.length : Int) < 8 := by omega
    have HD := Lib.hid (decide_eq_false h8)
    go_enter Try.func63, Try.ntmps63
    go_wp2_with fail
    go_ret
    exact ⟨congrArg Ending.returned (congrArg Value.bool (by rw [← HB.out, HD.out]; rfl)), Below.refl _ _⟩
end Go.Proofs.Ytgknkjiifcnkpaa
