/-
  The header of a table, the program's way: slices.Concat and slices.Grow at texts.
-/
import Derived.Test.YtgknkjiifcnkpaaI9N
import Derived.Test.YtgknkjiifcnkpaaTabS
import Derived.Lib.AppendZeros
import Derived.Laws.OwnMore
namespace Go.Proofs.Ytgknkjiifcnkpaa
open Go.RowKit

theorem info_str9 : ∃ i : TypeInfo, Try.prog.info? 9 = some i ∧ i.zero = some (.string ByteArray.empty) ∧ i.size = 1 ∧ i.bytes = 16 := info_parts infoStr
theorem run_append_zero9 {P : Program} {w : World} (base : Nat) (t ty e : TypeId) (i : TypeInfo) (ht : P.underlying t = some (.slice e)) (hi : P.info? e = some i)
    (v : Value) (n : Nat) (xs : List Value) (hown : w.ownsRow base e 1 v n xs) (a : Option Addr) (c : Nat) :
    (Builtin.append_ #[t, t] ty #[v, .slice a 0 c]).run P w = .ok v w := by
  rcases hown.2 with ⟨rfl, rfl⟩ | ⟨g, cap, cur, rfl, _, _, hnc, _⟩
  · cases a <;> simp [Builtin.append_, run_underlying ht, sizeOf, typeInfo, hi, Builtin.lenOf, Builtin.firstCells, loadCells, loadCellsFrom]
  · cases a <;> simp [Builtin.append_, run_underlying ht, sizeOf, typeInfo, hi, Builtin.lenOf, Builtin.firstCells, hnc, storeCells, loadCells, loadCellsFrom]
set_option maxRecDepth 100000 in
set_option maxHeartbeats 1000000 in
theorem grow9 (n : Nat) (h0 : 0 < n) (hn : n ≤ 1048577) (w : World) :
    Calls Try.prog 119 #[.slice none 0 0, .int .i64 n] w fun e w' => (∃ v, e = .returned v ∧ w'.ownsRow w.heap.size 9 1 v 0 []) ∧ Below w.heap.size w w' := by
  obtain ⟨i0, hi, hz0, hz1, hz2⟩ := info_parts infoStr
  have h1 : ¬ ((n : Int) < 0) := by omega
  have h2 : (n : Int) > 0 := by omega
  have hrz := fun ty => Lib.run_append_nil_zeros (P := Try.prog) w 31 3 ty 9 i0 (.string ByteArray.empty) .i64 .i64 Try.underlying31 Try.underlying3 hi hz0 n h0 (by omega) (by omega) (by rw [hz2]; omega)
  have hGn := grownCap_ge w n 0 9
  have hGm := grownCap_le_maxLen w n 0 9 (by unfold maxLen; omega)
  obtain ⟨G, hG⟩ : ∃ G, grownCap w n 0 9 = G := ⟨_, rfl⟩
  rw [hG] at hrz hGn hGm
  have hG63 : G ≤ 9223372036854775807 := by
    unfold maxLen at hGm
    exact hGm
  obtain ⟨cs, hcs⟩ : ∃ cs : Array Value, Builtin.zeroCells (Value.string ByteArray.empty).cells n ++ Builtin.zeroCells (Value.string ByteArray.empty).cells (G - n) = cs := ⟨_, rfl⟩
  have hcl : cs.size = G * 1 := by
    rw [← hcs]
    have e1 : (Value.string ByteArray.empty).cells.size = 1 := rfl
    simp [Builtin.zeroCells, e1]
    omega
  rw [hcs] at hrz
  clear hG hcs
  have HO : Hid ((w.drew.alloc (.cells cs 9)).ownsRow w.heap.size 9 1 (.slice (some ⟨w.heap.size, 0, none⟩) 0 G) 0 []) := Lib.hid ⟨by simp, Or.inr ⟨w.heap.size, G, cs, rfl, Nat.le_refl _, heap_alloc_new w.drew _, Nat.zero_le _, hGm, hcl, by simp⟩⟩
  have HB : Hid (Below w.heap.size w (w.drew.alloc (.cells cs 9))) := Lib.hid (((Below.refl _ _).drew).alloc (Nat.le_refl _) _)
  clear hcl
  go_enter Try.func119, Try.ntmps119
  go_wp2_with (at_builtin; refine Lib.wpList_append_run _ rfl _ _ _ _ rfl _ _ rfl rfl _ _ (hrz _) ?_)
  all_goals (go_ret; exact ⟨⟨_, rfl, HO.out⟩, HB.out⟩)
theorem news_at9 {w : World} {b off : Nat} {L : List (List UInt8)} (h : ∀ (q : Nat) p, L[q]? = some p → w.cell? ⟨b, off + q, none⟩ = some (.string ⟨p.toArray⟩)) : ∀ (j : Nat) u, (strCells L)[j]? = some u → w.cell? ((⟨b, off, none⟩ : Addr).add j) = some u := by
  intro j u hu
  unfold strCells at hu
  rw [List.getElem?_map] at hu
  cases hp : L[j]? with
  | none => rw [hp] at hu; cases hu
  | some p =>
    rw [hp] at hu
    obtain rfl := Option.some.inj hu
    have e : (⟨b, off, none⟩ : Addr).add j = ⟨b, off + j, none⟩ := by unfold Addr.add; split <;> simp_all
    rw [e]
    exact h j p hp
theorem strCells_cell9 (L : List (List UInt8)) : ∀ u ∈ strCells L, u.oneCell' = true := by
  intro y hy
  obtain ⟨q, _, rfl⟩ := List.mem_map.1 hy
  rfl
theorem strCells_app9 (a b : List (List UInt8)) : strCells (a ++ b) = strCells a ++ strCells b := by unfold strCells; simp
theorem flat_succ {L : List (List (List UInt8))} {i : Nat} {r : List (List UInt8)} (h : L[i]? = some r) : (L.take (i + 1)).flatten = (L.take i).flatten ++ r := by
  rw [List.take_add_one, h, List.flatten_append]
  simp
theorem flat_le (L : List (List (List UInt8))) (i : Nat) : (L.take i).flatten.length ≤ L.flatten.length := by
  have e : L.flatten = (L.take i).flatten ++ (L.drop i).flatten := by rw [← List.flatten_append, List.take_append_drop]
  rw [e, List.length_append]
  omega
set_option maxRecDepth 100000 in
set_option maxHeartbeats 2000000 in
/-- ROWS OF TEXTS, ONE BEHIND THE OTHER. -/
theorem concat9 (w : World) (b off c : Nat) (L : List (List (List UInt8))) (hl : L.length ≤ 1048576) (h0 : 0 < L.flatten.length) (hn : L.flatten.length ≤ 1048577)
    (hc : ∀ (j : Nat) row, L[j]? = some row → ∃ u, w.cell? ⟨b, off + j, none⟩ = some u ∧ StrRow w u row) :
    Calls Try.prog 99 #[.slice (some ⟨b, off, none⟩) L.length c] w fun e w' => (∃ v, e = .returned v ∧ w'.ownsRow w.heap.size 9 1 v L.flatten.length (strCells L.flatten)) ∧ Below w.heap.size w w' := by
  obtain ⟨iS, hi, hz0, hz1, hz2⟩ := info_parts infoStr
  have HC := Lib.hid hc
  have hle := flat_le L
  obtain ⟨F, hF⟩ : ∃ F, L.flatten = F := ⟨_, rfl⟩
  rw [hF] at h0 hn hle ⊢
  have HLE := Lib.hid hle
  have HFF := Lib.hid hF
  clear hF hle
  obtain ⟨n, hnn⟩ : ∃ n : Nat, L.length = n := ⟨_, rfl⟩
  obtain ⟨m, hmm⟩ : ∃ m : Nat, F.length = m := ⟨_, rfl⟩
  rw [hnn] at hl ⊢
  rw [hmm] at h0 hn HLE ⊢
  have HE := Lib.hid hnn
  have HM := Lib.hid hmm
  clear hc hnn hmm
  go_enter Try.func99, Try.ntmps99
  go_wp2_with fail
  go_loopg [3, 5, 11] n (fun g q _ i wr => ∃ j k : Nat, j ≤ n ∧ g = n - j ∧ i = .int .i64 j ∧ q = .int .i64 k ∧ (L.take j).flatten.length = k ∧ w = wr)
  case atStart => exact ⟨0, 0, Nat.zero_le _, rfl, rfl, rfl, by simp, rfl⟩
  case round =>
    obtain ⟨j, k, hj, rfl, rfl, rfl, hk, rfl⟩ := hrel
    have HK := Lib.hid hk
    clear hk
    by_cases hlt : j < n
    · have hj1 : (j : Int) < n := by omega
      have hj0 : (0 : Int) ≤ j := by omega
      obtain ⟨r, hr⟩ : ∃ r, L[j]? = some r := ⟨_, List.getElem?_eq_getElem (by rw [HE.out]; exact hlt)⟩
      obtain ⟨u, hcu, hsu⟩ := HC.out j r hr
      obtain ⟨a, d, rfl, hrl⟩ := sRow_form hsu
      have hS : (L.take (j + 1)).flatten.length = k + r.length := by rw [flat_succ hr, List.length_append, HK.out]
      have hS2 := HLE.out (j + 1)
      rw [hS] at hS2
      have HS := Lib.hid hS
      have hneg : ¬ (k : Int) + r.length < 0 := by omega
      clear hr hsu hS
      go_wp2_with fail
      go_roundg (n - (j + 1))
      case measure => omega
      case rel => exact ⟨j + 1, k + r.length, by omega, rfl, by go_num, by go_num, HS.out, rfl⟩
    · have hj1 : ¬ (j : Int) < n := by omega
      obtain rfl : j = n := by omega
      obtain rfl : k = m := by
        have h := HK.out
        rw [List.take_of_length_le (by rw [HE.out]; exact Nat.le_refl _), HFF.out, HM.out] at h
        exact h.symm
      clear HK
      go_wp2_with fail
      refine (grow9 k h0 hn _).mono ?_
      rintro e w1 ⟨⟨v1, rfl, hO1⟩, hB1⟩
      have HO1 := Lib.hid hO1
      have HB1 := Lib.hid hB1
      clear hO1 hB1
      go_wp2_with fail
      go_loopg [6, 8, 27] j (fun g v_ _ i wx => ∃ (q : Nat) (vo : Value), q ≤ j ∧ g = j - q ∧ i = .int .i64 q ∧ vo = v_ ∧ wx.ownsRow w.heap.size 9 1 vo (L.take q).flatten.length (strCells (L.take q).flatten) ∧ Below w.heap.size w wx)
      case atStart => exact ⟨0, _, Nat.zero_le _, rfl, rfl, rfl, HO1.out, HB1.out⟩
      case round =>
        clear HO1 HB1
        obtain ⟨q, vo, hq, rfl, rfl, rfl, hO, hB⟩ := hrel
        have HO := Lib.hid hO
        have HB := Lib.hid hB
        clear hO hB
        by_cases hlq : q < j
        · have hq1 : (q : Int) < j := by omega
          have hq0 : (0 : Int) ≤ q := by omega
          obtain ⟨r, hr⟩ : ∃ r, L[q]? = some r := ⟨_, List.getElem?_eq_getElem (by rw [HE.out]; exact hlq)⟩
          obtain ⟨u, hcu0, hsu0⟩ := HC.out q r hr
          have hcu := (HB.out.cell (p := ⟨b, off + q, none⟩) (World.block_lt_of_cell? w _ hcu0)).trans hcu0
          have HSU := Lib.hid (hsu0.below HB.out)
          have hF := flat_succ hr
          have hS2 := HLE.out (q + 1)
          rw [hF, List.length_append] at hS2
          have HF := Lib.hid hF
          obtain ⟨p, hp⟩ : ∃ p : Nat, (L.take q).flatten.length = p := ⟨_, rfl⟩
          have hown := HO.out
          rw [hp] at hown hS2
          have hP := Lib.hid hp
          clear hcu0 hsu0 hr hF hp
          by_cases hz : r.length = 0
          · obtain rfl : r = [] := List.length_eq_zero_iff.1 hz
            obtain ⟨a, d, rfl, _⟩ := sRow_form HSU.out
            have hap := fun ty => run_append_zero9 (P := Try.prog) w.heap.size 31 ty 9 iS Try.underlying31 hi vo p _ hown a d
            have HE2 : Hid ((L.take (q + 1)).flatten = (L.take q).flatten) := Lib.hid (by rw [HF.out, List.append_nil])
            clear hz
            go_wp2_with (at_builtin; refine Lib.wpList_append_run _ rfl _ _ _ _ rfl _ _ rfl rfl _ _ (hap _) ?_)
            go_wp2_with fail
            go_roundg (j - (q + 1))
            case measure => omega
            case rel => exact ⟨q + 1, vo, by omega, rfl, by go_num, rfl, by rw [HE2.out]; exact HO.out, HB.out⟩
          · obtain ⟨b2, o2, d, rfl, hcs⟩ : ∃ b2 o2 d, u = .slice (some ⟨b2, o2, none⟩) r.length d ∧ ∀ (q : Nat) p, r[q]? = some p → wr.cell? ⟨b2, o2 + q, none⟩ = some (.string ⟨p.toArray⟩) := by
              rcases HSU.out with ⟨rfl, _⟩ | ⟨b2, o2, d, rfl, _, _, h⟩
              · exact absurd rfl hz
              · exact ⟨b2, o2, d, rfl, h⟩
            have HCS := Lib.hid hcs
            clear hcs hz
            go_wp2_with (at_builtin; refine wpList_append_own _ rfl _ _ 31 rfl w.heap.size 9 iS (.string ByteArray.empty) 1 16 Try.underlying31 hi hz0 hz1 hz2 rfl (by decide) _ _ _ rfl hown ⟨b2, o2, none⟩ r.length d (strCells r) rfl (by rw [strCells_len, Nat.mul_one]) (news_at9 HCS.out) (strCells_cell9 r) ?a3 ?a4 HB.out.size ?_)
            case a3 => unfold maxLen; omega
            case a4 => omega
            intro v3 w3 hown3 hg3 _
            have HO3 : Hid (w3.ownsRow w.heap.size 9 1 v3 (L.take (q + 1)).flatten.length (strCells (L.take (q + 1)).flatten)) := Lib.hid (by
              rw [HF.out, List.length_append, hP.out, strCells_app9]
              exact hown3)
            have HB3 := Lib.hid (HB.out.grown hg3 HB.out.size (fun x hx => (hown.lt x hx).1))
            clear hown3 hg3
            go_wp2_with fail
            go_roundg (j - (q + 1))
            case measure => omega
            case rel => exact ⟨q + 1, v3, by omega, rfl, by go_num, rfl, HO3.out, HB3.out⟩
        · have hq1 : ¬ (q : Int) < j := by omega
          have hqe : q = j := by omega
          have HT : Hid ((L.take q).flatten = F) := Lib.hid (by rw [List.take_of_length_le (by rw [HE.out]; omega), HFF.out])
          clear hqe
          go_wp2_with fail
          go_ret
          exact ⟨⟨_, rfl, by have h := HO.out; rw [HT.out, HM.out] at h; exact h⟩, HB.out⟩
set_option maxRecDepth 100000 in
set_option maxHeartbeats 1000000 in
/-- THE NAMES AND THE TARGET, ONE BEHIND THE OTHER. -/
theorem header9 (T : Tab) (u1 u2 u3 : Value) (w : World) (h : TabRow w T u1 u2 u3) (hl : T.ns.length ≤ 1048576) :
    Calls Try.prog 84 #[.agg #[u1, .string ⟨T.y.toArray⟩, u2, u3]] w fun e w' => (∃ v, e = .returned v ∧ w'.ownsRow w.heap.size 9 1 v (T.ns ++ [T.y]).length (strCells (T.ns ++ [T.y]))) ∧ Below w.heap.size w w' := by
  obtain ⟨p1, p2, p3⟩ := h
  obtain ⟨a1, c1, rfl, _⟩ := sRow_form p1
  obtain ⟨a2, c2, rfl, _⟩ := iiRow_form p2
  obtain ⟨a3, c3, rfl, _⟩ := intRow_form p3
  obtain ⟨n, hn⟩ : ∃ n : Nat, T.ns.length = n := ⟨_, rfl⟩
  have hA := bl_al w (.cells #[.slice a1 T.ns.length c1, .string ⟨T.y.toArray⟩, .slice a2 T.rs.length c2, .slice a3 T.ys.length c3] 34)
  have hx0 := alloc_blk w #[.slice a1 T.ns.length c1, .string ⟨T.y.toArray⟩, .slice a2 T.rs.length c2, .slice a3 T.ys.length c3] 34
  obtain ⟨w1, hw1⟩ : ∃ w1, w.alloc (.cells #[.slice a1 T.ns.length c1, .string ⟨T.y.toArray⟩, .slice a2 T.rs.length c2, .slice a3 T.ys.length c3] 34) = w1 := ⟨_, rfl⟩
  have hB2 := bt (bl_al w1 (.cells #[.string ⟨T.y.toArray⟩] 9)) (bl_al _ (.cells #[.slice a1 n c1, .slice (some ⟨w1.heap.size, 0, none⟩) 1 1] 31))
  have y0 := blk_al (alloc_blk w1 #[.string ⟨T.y.toArray⟩] 9) (.cells #[.slice a1 n c1, .slice (some ⟨w1.heap.size, 0, none⟩) 1 1] 31)
  have y1 := alloc_blk (w1.alloc (.cells #[.string ⟨T.y.toArray⟩] 9)) #[.slice a1 n c1, .slice (some ⟨w1.heap.size, 0, none⟩) 1 1] 31
  rw [sz_alloc] at y1
  have p1b := (p1.below hA)
  rw [hw1] at p1b hA hx0
  have q1 := p1b.below hB2
  have HC : Hid (Calls Try.prog 99 #[.slice (some ⟨w1.heap.size + 1, 0, none⟩) 2 2] ((w1.alloc (.cells #[.string ⟨T.y.toArray⟩] 9)).alloc (.cells #[.slice a1 n c1, .slice (some ⟨w1.heap.size, 0, none⟩) 1 1] 31)) fun e w' => (∃ v, e = .returned v ∧ w'.ownsRow ((w1.alloc (.cells #[.string ⟨T.y.toArray⟩] 9)).alloc (.cells #[.slice a1 n c1, .slice (some ⟨w1.heap.size, 0, none⟩) 1 1] 31)).heap.size 9 1 v (T.ns ++ [T.y]).length (strCells (T.ns ++ [T.y]))) ∧ Below ((w1.alloc (.cells #[.string ⟨T.y.toArray⟩] 9)).alloc (.cells #[.slice a1 n c1, .slice (some ⟨w1.heap.size, 0, none⟩) 1 1] 31)).heap.size ((w1.alloc (.cells #[.string ⟨T.y.toArray⟩] 9)).alloc (.cells #[.slice a1 n c1, .slice (some ⟨w1.heap.size, 0, none⟩) 1 1] 31)) w') := Lib.hid (by
    have h := concat9 ((w1.alloc (.cells #[.string ⟨T.y.toArray⟩] 9)).alloc (.cells #[.slice a1 n c1, .slice (some ⟨w1.heap.size, 0, none⟩) 1 1] 31)) (w1.heap.size + 1) 0 2 [T.ns, [T.y]] (by simp) (by simp) (by simp; omega) (fun j row hj => by
      match j, hj with
      | 0, hj =>
        obtain rfl : T.ns = row := by simpa using hj
        exact ⟨_, cell_blk y1 0, by rw [← hn]; rw [← hn] at q1; exact q1⟩
      | 1, hj =>
        obtain rfl : [T.y] = row := by simpa using hj
        refine ⟨_, cell_blk y1 1, Or.inr ⟨w1.heap.size, 0, 1, rfl, by simp, by simp, fun q p hp => ?_⟩⟩
        match q, hp with
        | 0, hp =>
          obtain rfl : T.y = p := by simpa using hp
          exact cell_blk y0 0
        | q + 1, hp => simp at hp
      | j + 2, hj => simp at hj)
    simpa using h)
  have r0 := cell_blk hx0 0
  have r1 := cell_blk hx0 1
  have lr := blk_lt hx0
  have HA := Lib.hid hA
  have HB2 := Lib.hid hB2
  obtain ⟨M, hM⟩ : ∃ M, T.ns ++ [T.y] = M := ⟨_, rfl⟩
  rw [hM] at HC ⊢
  rw [hn] at hw1 r0
  clear p1 p2 p3 p1b q1 y0 y1 hA hB2
  rw [hn]
  go_enter Try.func84, Try.ntmps84
  go_wp2_with fail
  refine HC.out.mono ?_
  rintro e w2 ⟨⟨v, rfl, hO⟩, hB⟩
  have HO := Lib.hid (World.ownsRow.mono hO (Nat.le_trans HA.out.size HB2.out.size))
  have HBB := Lib.hid (bt HA.out (bt HB2.out hB))
  clear hO hB
  go_wp2_with fail
  go_ret
  exact ⟨⟨v, rfl, HO.out⟩, HBB.out⟩
end Go.Proofs.Ytgknkjiifcnkpaa
