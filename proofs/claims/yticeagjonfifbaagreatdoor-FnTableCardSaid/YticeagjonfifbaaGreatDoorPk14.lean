/-
  The header of a table, the program's way: slices.Concat and slices.Grow at texts.
  Whether numbers are decimals, the program's way.
  Whether two tables are the same, the program's way.
  The draw of a small decimal: what it is, and what it leaves alone.
  The draws of tables: what a walk keeps (the cursor, the box of the table, its parts, the row that is drawn, the result's box).
-/
import Derived.Test.YticeagjonfifbaaGreatDoorI9N
import Derived.Test.YticeagjonfifbaaGreatDoorTabS
import Derived.Lib.AppendZeros
import Derived.Laws.OwnMore
import Derived.Test.YticeagjonfifbaaGreatDoorTabO
import Derived.Test.YticeagjonfifbaaGreatDoorPk13
import Derived.Test.YticeagjonfifbaaGreatDoorShEq
import Derived.Test.YticeagjonfifbaaGreatDoorShEqI
import Derived.Test.YticeagjonfifbaaGreatDoorPk3
import Derived.Test.YticeagjonfifbaaGreatDoorPk2
import Derived.Test.YticeagjonfifbaaGreatDoorPk6
import Derived.Test.YticeagjonfifbaaGreatDoorPk12
namespace Go.Proofs.YticeagjonfifbaaGreatDoor
open Go.RowKit

theorem info_str9 : ∃ i : TypeInfo, Tryz.prog.info? 9 = some i ∧ i.zero = some (.string ByteArray.empty) ∧ i.size = 1 ∧ i.bytes = 16 := info_parts infoStr
theorem run_append_zero9 {P : Program} {w : World} (base : Nat) (t ty e : TypeId) (i : TypeInfo) (ht : P.underlying t = some (.slice e)) (hi : P.info? e = some i)
    (v : Value) (n : Nat) (xs : List Value) (hown : w.ownsRow base e 1 v n xs) (a : Option Addr) (c : Nat) :
    (Builtin.append_ #[t, t] ty #[v, .slice a 0 c]).run P w = .ok v w := by
  rcases hown.2 with ⟨rfl, rfl⟩ | ⟨g, cap, cur, rfl, _, _, hnc, _⟩
  · cases a <;> simp [Builtin.append_, run_underlying ht, sizeOf, typeInfo, hi, Builtin.lenOf, Builtin.firstCells, loadCells, loadCellsFrom]
  · cases a <;> simp [Builtin.append_, run_underlying ht, sizeOf, typeInfo, hi, Builtin.lenOf, Builtin.firstCells, hnc, storeCells, loadCells, loadCellsFrom]
set_option maxRecDepth 100000 in
set_option maxHeartbeats 1000000 in
theorem grow9 (n : Nat) (h0 : 0 < n) (hn : n ≤ 1048577) (w : World) :
    Calls Tryz.prog 98 #[.slice none 0 0, .int .i64 n] w fun e w' => (∃ v, e = .returned v ∧ w'.ownsRow w.heap.size 9 1 v 0 []) ∧ Below w.heap.size w w' := by
  obtain ⟨i0, hi, hz0, hz1, hz2⟩ := info_parts infoStr
  have h1 : ¬ ((n : Int) < 0) := by omega
  have h2 : (n : Int) > 0 := by omega
  have hrz := fun ty => Lib.run_append_nil_zeros (P := Tryz.prog) w 24 3 ty 9 i0 (.string ByteArray.empty) .i64 .i64 Tryz.underlying24 Tryz.underlying3 hi hz0 n h0 (by omega) (by omega) (by rw [hz2]; omega)
  have hGn := grownCap_ge w n 0 9
  have hGm := grownCap_le_maxLen w n 0 9 (by unfold maxLen; omega)
  obtain ⟨G, hG⟩ : ∃ G, grownCap w n 0 9 = G := ⟨_, rfl⟩
  rw [hG] at hrz hGn hGm
  have hG63 : G ≤ 9223372036854775807 := by
    unfold maxLen at hGm
    exact hGm
  obtain ⟨cs, hcs⟩ : ∃ cs : Array Value, Builtin.zeroCells (Value.string ByteArray.empty).cells n ++ Builtin.zeroCells (Value.string ByteArray.empty).cells (G - n) = cs := ⟨_, rfl⟩
  have hcl : cs.size = G * 1 := by
    rw [← hcs]
    have e1 : (Value.string ByteArray.empty).cells.size = 1 := rfl
    simp [Builtin.zeroCells, e1]
    omega
  rw [hcs] at hrz
  clear hG hcs
  have HO : Hid ((w.drew.alloc (.cells cs 9)).ownsRow w.heap.size 9 1 (.slice (some ⟨w.heap.size, 0, none⟩) 0 G) 0 []) := Lib.hid ⟨by simp, Or.inr ⟨w.heap.size, G, cs, rfl, Nat.le_refl _, heap_alloc_new w.drew _, Nat.zero_le _, hGm, hcl, by simp⟩⟩
  have HB : Hid (Below w.heap.size w (w.drew.alloc (.cells cs 9))) := Lib.hid (((Below.refl _ _).drew).alloc (Nat.le_refl _) _)
  clear hcl
  go_enter Tryz.func98, Tryz.ntmps98
  go_wp2_with (at_builtin; refine Lib.wpList_append_run _ rfl _ _ _ _ rfl _ _ rfl rfl _ _ (hrz _) ?_)
  all_goals (go_ret; exact ⟨⟨_, rfl, HO.out⟩, HB.out⟩)
theorem news_at9 {w : World} {b off : Nat} {L : List (List UInt8)} (h : ∀ (q : Nat) p, L[q]? = some p → w.cell? ⟨b, off + q, none⟩ = some (.string ⟨p.toArray⟩)) : ∀ (j : Nat) u, (strCells L)[j]? = some u → w.cell? ((⟨b, off, none⟩ : Addr).add j) = some u := by
  intro j u hu
  unfold strCells at hu
  rw [List.getElem?_map] at hu
  cases hp : L[j]? with
  | none => rw [hp] at hu; cases hu
  | some p =>
    rw [hp] at hu
    obtain rfl := Option.some.inj hu
    have e : (⟨b, off, none⟩ : Addr).add j = ⟨b, off + j, none⟩ := by unfold Addr.add; split <;> simp_all
    rw [e]
    exact h j p hp
theorem strCells_cell9 (L : List (List UInt8)) : ∀ u ∈ strCells L, u.oneCell' = true := by
  intro y hy
  obtain ⟨q, _, rfl⟩ := List.mem_map.1 hy
  rfl
theorem strCells_app9 (a b : List (List UInt8)) : strCells (a ++ b) = strCells a ++ strCells b := by unfold strCells; simp
theorem flat_succ {L : List (List (List UInt8))} {i : Nat} {r : List (List UInt8)} (h : L[i]? = some r) : (L.take (i + 1)).flatten = (L.take i).flatten ++ r := by
  rw [List.take_add_one, h, List.flatten_append]
  simp
theorem flat_le (L : List (List (List UInt8))) (i : Nat) : (L.take i).flatten.length ≤ L.flatten.length := by
  have e : L.flatten = (L.take i).flatten ++ (L.drop i).flatten := by rw [← List.flatten_append, List.take_append_drop]
  rw [e, List.length_append]
  omega
set_option maxRecDepth 100000 in
set_option maxHeartbeats 2000000 in
/-- ROWS OF TEXTS, ONE BEHIND THE OTHER. -/
theorem concat9 (w : World) (b off c : Nat) (L : List (List (List UInt8))) (hl : L.length ≤ 1048576) (h0 : 0 < L.flatten.length) (hn : L.flatten.length ≤ 1048577)
    (hc : ∀ (j : Nat) row, L[j]? = some row → ∃ u, w.cell? ⟨b, off + j, none⟩ = some u ∧ StrRow w u row) :
    Calls Tryz.prog 73 #[.slice (some ⟨b, off, none⟩) L.length c] w fun e w' => (∃ v, e = .returned v ∧ w'.ownsRow w.heap.size 9 1 v L.flatten.length (strCells L.flatten)) ∧ Below w.heap.size w w' := by
  obtain ⟨iS, hi, hz0, hz1, hz2⟩ := info_parts infoStr
  have HC := Lib.hid hc
  have hle := flat_le L
  obtain ⟨F, hF⟩ : ∃ F, L.flatten = F := ⟨_, rfl⟩
  rw [hF] at h0 hn hle ⊢
  have HLE := Lib.hid hle
  have HFF := Lib.hid hF
  clear hF hle
  obtain ⟨n, hnn⟩ : ∃ n : Nat, L.length = n := ⟨_, rfl⟩
  obtain ⟨m, hmm⟩ : ∃ m : Nat, F.length = m := ⟨_, rfl⟩
  rw [hnn] at hl ⊢
  rw [hmm] at h0 hn HLE ⊢
  have HE := Lib.hid hnn
  have HM := Lib.hid hmm
  clear hc hnn hmm
  go_enter Tryz.func73, Tryz.ntmps73
  go_wp2_with fail
  go_loopg [3, 5, 11] n (fun g q _ i wr => ∃ j k : Nat, j ≤ n ∧ g = n - j ∧ i = .int .i64 j ∧ q = .int .i64 k ∧ (L.take j).flatten.length = k ∧ w = wr)
  case atStart => exact ⟨0, 0, Nat.zero_le _, rfl, rfl, rfl, by simp, rfl⟩
  case round =>
    obtain ⟨j, k, hj, rfl, rfl, rfl, hk, rfl⟩ := hrel
    have HK := Lib.hid hk
    clear hk
    by_cases hlt : j < n
    · have hj1 : (j : Int) < n := by omega
      have hj0 : (0 : Int) ≤ j := by omega
      obtain ⟨r, hr⟩ : ∃ r, L[j]? = some r := ⟨_, List.getElem?_eq_getElem (by rw [HE.out]; exact hlt)⟩
      obtain ⟨u, hcu, hsu⟩ := HC.out j r hr
      obtain ⟨a, d, rfl, hrl⟩ := sRow_form hsu
      have hS : (L.take (j + 1)).flatten.length = k + r.length := by rw [flat_succ hr, List.length_append, HK.out]
      have hS2 := HLE.out (j + 1)
      rw [hS] at hS2
      have HS := Lib.hid hS
      have hneg : ¬ (k : Int) + r.length < 0 := by omega
      clear hr hsu hS
      go_wp2_with fail
      go_roundg (n - (j + 1))
      case measure => omega
      case rel => exact ⟨j + 1, k + r.length, by omega, rfl, by go_num, by go_num, HS.out, rfl⟩
    · have hj1 : ¬ (j : Int) < n := by omega
      obtain rfl : j = n := by omega
      obtain rfl : k = m := by
        have h := HK.out
        rw [List.take_of_length_le (by rw [HE.out]; exact Nat.le_refl _), HFF.out, HM.out] at h
        exact h.symm
      clear HK
      go_wp2_with fail
      refine (grow9 k h0 hn _).mono ?_
      rintro e w1 ⟨⟨v1, rfl, hO1⟩, hB1⟩
      have HO1 := Lib.hid hO1
      have HB1 := Lib.hid hB1
      clear hO1 hB1
      go_wp2_with fail
      go_loopg [6, 8, 27] j (fun g v_ _ i wx => ∃ (q : Nat) (vo : Value), q ≤ j ∧ g = j - q ∧ i = .int .i64 q ∧ vo = v_ ∧ wx.ownsRow w.heap.size 9 1 vo (L.take q).flatten.length (strCells (L.take q).flatten) ∧ Below w.heap.size w wx)
      case atStart => exact ⟨0, _, Nat.zero_le _, rfl, rfl, rfl, HO1.out, HB1.out⟩
      case round =>
        clear HO1 HB1
        obtain ⟨q, vo, hq, rfl, rfl, rfl, hO, hB⟩ := hrel
        have HO := Lib.hid hO
        have HB := Lib.hid hB
        clear hO hB
        by_cases hlq : q < j
        · have hq1 : (q : Int) < j := by omega
          have hq0 : (0 : Int) ≤ q := by omega
          obtain ⟨r, hr⟩ : ∃ r, L[q]? = some r := ⟨_, List.getElem?_eq_getElem (by rw [HE.out]; exact hlq)⟩
          obtain ⟨u, hcu0, hsu0⟩ := HC.out q r hr
          have hcu := (HB.out.cell (p := ⟨b, off + q, none⟩) (World.block_lt_of_cell? w _ hcu0)).trans hcu0
          have HSU := Lib.hid (hsu0.below HB.out)
          have hF := flat_succ hr
          have hS2 := HLE.out (q + 1)
          rw [hF, List.length_append] at hS2
          have HF := Lib.hid hF
          obtain ⟨p, hp⟩ : ∃ p : Nat, (L.take q).flatten.length = p := ⟨_, rfl⟩
          have hown := HO.out
          rw [hp] at hown hS2
          have hP := Lib.hid hp
          clear hcu0 hsu0 hr hF hp
          by_cases hz : r.length = 0
          · obtain rfl : r = [] := List.length_eq_zero_iff.1 hz
            obtain ⟨a, d, rfl, _⟩ := sRow_form HSU.out
            have hap := fun ty => run_append_zero9 (P := Tryz.prog) w.heap.size 24 ty 9 iS Tryz.underlying24 hi vo p _ hown a d
            have HE2 : Hid ((L.take (q + 1)).flatten = (L.take q).flatten) := Lib.hid (by rw [HF.out, List.append_nil])
            clear hz
            go_wp2_with (at_builtin; refine Lib.wpList_append_run _ rfl _ _ _ _ rfl _ _ rfl rfl _ _ (hap _) ?_)
            go_wp2_with fail
            go_roundg (j - (q + 1))
            case measure => omega
            case rel => exact ⟨q + 1, vo, by omega, rfl, by go_num, rfl, by rw [HE2.out]; exact HO.out, HB.out⟩
          · obtain ⟨b2, o2, d, rfl, hcs⟩ : ∃ b2 o2 d, u = .slice (some ⟨b2, o2, none⟩) r.length d ∧ ∀ (q : Nat) p, r[q]? = some p → wr.cell? ⟨b2, o2 + q, none⟩ = some (.string ⟨p.toArray⟩) := by
              rcases HSU.out with ⟨rfl, _⟩ | ⟨b2, o2, d, rfl, _, _, h⟩
              · exact absurd rfl hz
              · exact ⟨b2, o2, d, rfl, h⟩
            have HCS := Lib.hid hcs
            clear hcs hz
            go_wp2_with (at_builtin; refine wpList_append_own _ rfl _ _ 24 rfl w.heap.size 9 iS (.string ByteArray.empty) 1 16 Tryz.underlying24 hi hz0 hz1 hz2 rfl (by decide) _ _ _ rfl hown ⟨b2, o2, none⟩ r.length d (strCells r) rfl (by rw [strCells_len, Nat.mul_one]) (news_at9 HCS.out) (strCells_cell9 r) ?a3 ?a4 HB.out.size ?_)
            case a3 => unfold maxLen; omega
            case a4 => omega
            intro v3 w3 hown3 hg3 _
            have HO3 : Hid (w3.ownsRow w.heap.size 9 1 v3 (L.take (q + 1)).flatten.length (strCells (L.take (q + 1)).flatten)) := Lib.hid (by
              rw [HF.out, List.length_append, hP.out, strCells_app9]
              exact hown3)
            have HB3 := Lib.hid (HB.out.grown hg3 HB.out.size (fun x hx => (hown.lt x hx).1))
            clear hown3 hg3
            go_wp2_with fail
            go_roundg (j - (q + 1))
            case measure => omega
            case rel => exact ⟨q + 1, v3, by omega, rfl, by go_num, rfl, HO3.out, HB3.out⟩
        · have hq1 : ¬ (q : Int) < j := by omega
          have hqe : q = j := by omega
          have HT : Hid ((L.take q).flatten = F) := Lib.hid (by rw [List.take_of_length_le (by rw [HE.out]; omega), HFF.out])
          clear hqe
          go_wp2_with fail
          go_ret
          exact ⟨⟨_, rfl, by have h := HO.out; rw [HT.out, HM.out] at h; exact h⟩, HB.out⟩
set_option maxRecDepth 100000 in
set_option maxHeartbeats 1000000 in
/-- THE NAMES AND THE TARGET, ONE BEHIND THE OTHER. -/
theorem header9 (T : Tab) (u1 u2 u3 : Value) (w : World) (h : TabRow w T u1 u2 u3) (hl : T.ns.length ≤ 1048576) :
    Calls Tryz.prog 25 #[.agg #[u1, .string ⟨T.y.toArray⟩, u2, u3]] w fun e w' => (∃ v, e = .returned v ∧ w'.ownsRow w.heap.size 9 1 v (T.ns ++ [T.y]).length (strCells (T.ns ++ [T.y]))) ∧ Below w.heap.size w w' := by
  obtain ⟨p1, p2, p3⟩ := h
  obtain ⟨a1, c1, rfl, _⟩ := sRow_form p1
  obtain ⟨a2, c2, rfl, _⟩ := iiRow_form p2
  obtain ⟨a3, c3, rfl, _⟩ := intRow_form p3
  obtain ⟨n, hn⟩ : ∃ n : Nat, T.ns.length = n := ⟨_, rfl⟩
  have hA := bl_al w (.cells #[.slice a1 T.ns.length c1, .string ⟨T.y.toArray⟩, .slice a2 T.rs.length c2, .slice a3 T.ys.length c3] 28)
  have hx0 := alloc_blk w #[.slice a1 T.ns.length c1, .string ⟨T.y.toArray⟩, .slice a2 T.rs.length c2, .slice a3 T.ys.length c3] 28
  obtain ⟨w1, hw1⟩ : ∃ w1, w.alloc (.cells #[.slice a1 T.ns.length c1, .string ⟨T.y.toArray⟩, .slice a2 T.rs.length c2, .slice a3 T.ys.length c3] 28) = w1 := ⟨_, rfl⟩
  have hB2 := bt (bl_al w1 (.cells #[.string ⟨T.y.toArray⟩] 9)) (bl_al _ (.cells #[.slice a1 n c1, .slice (some ⟨w1.heap.size, 0, none⟩) 1 1] 24))
  have y0 := blk_al (alloc_blk w1 #[.string ⟨T.y.toArray⟩] 9) (.cells #[.slice a1 n c1, .slice (some ⟨w1.heap.size, 0, none⟩) 1 1] 24)
  have y1 := alloc_blk (w1.alloc (.cells #[.string ⟨T.y.toArray⟩] 9)) #[.slice a1 n c1, .slice (some ⟨w1.heap.size, 0, none⟩) 1 1] 24
  rw [sz_alloc] at y1
  have p1b := (p1.below hA)
  rw [hw1] at p1b hA hx0
  have q1 := p1b.below hB2
  have HC : Hid (Calls Tryz.prog 73 #[.slice (some ⟨w1.heap.size + 1, 0, none⟩) 2 2] ((w1.alloc (.cells #[.string ⟨T.y.toArray⟩] 9)).alloc (.cells #[.slice a1 n c1, .slice (some ⟨w1.heap.size, 0, none⟩) 1 1] 24)) fun e w' => (∃ v, e = .returned v ∧ w'.ownsRow ((w1.alloc (.cells #[.string ⟨T.y.toArray⟩] 9)).alloc (.cells #[.slice a1 n c1, .slice (some ⟨w1.heap.size, 0, none⟩) 1 1] 24)).heap.size 9 1 v (T.ns ++ [T.y]).length (strCells (T.ns ++ [T.y]))) ∧ Below ((w1.alloc (.cells #[.string ⟨T.y.toArray⟩] 9)).alloc (.cells #[.slice a1 n c1, .slice (some ⟨w1.heap.size, 0, none⟩) 1 1] 24)).heap.size ((w1.alloc (.cells #[.string ⟨T.y.toArray⟩] 9)).alloc (.cells #[.slice a1 n c1, .slice (some ⟨w1.heap.size, 0, none⟩) 1 1] 24)) w') := Lib.hid (by
    have h := concat9 ((w1.alloc (.cells #[.string ⟨T.y.toArray⟩] 9)).alloc (.cells #[.slice a1 n c1, .slice (some ⟨w1.heap.size, 0, none⟩) 1 1] 24)) (w1.heap.size + 1) 0 2 [T.ns, [T.y]] (by simp) (by simp) (by simp; omega) (fun j row hj => by
      match j, hj with
      | 0, hj =>
        obtain rfl : T.ns = row := by simpa using hj
        exact ⟨_, cell_blk y1 0, by rw [← hn]; rw [← hn] at q1; exact q1⟩
      | 1, hj =>
        obtain rfl : [T.y] = row := by simpa using hj
        refine ⟨_, cell_blk y1 1, Or.inr ⟨w1.heap.size, 0, 1, rfl, by simp, by simp, fun q p hp => ?_⟩⟩
        match q, hp with
        | 0, hp =>
          obtain rfl : T.y = p := by simpa using hp
          exact cell_blk y0 0
        | q + 1, hp => simp at hp
      | j + 2, hj => simp at hj)
    simpa using h)
  have r0 := cell_blk hx0 0
  have r1 := cell_blk hx0 1
  have lr := blk_lt hx0
  have HA := Lib.hid hA
  have HB2 := Lib.hid hB2
  obtain ⟨M, hM⟩ : ∃ M, T.ns ++ [T.y] = M := ⟨_, rfl⟩
  rw [hM] at HC ⊢
  rw [hn] at hw1 r0
  clear p1 p2 p3 p1b q1 y0 y1 hA hB2
  rw [hn]
  go_enter Tryz.func25, Tryz.ntmps25
  go_wp2_with fail
  refine HC.out.mono ?_
  rintro e w2 ⟨⟨v, rfl, hO⟩, hB⟩
  have HO := Lib.hid (World.ownsRow.mono hO (Nat.le_trans HA.out.size HB2.out.size))
  have HBB := Lib.hid (bt HA.out (bt HB2.out hB))
  clear hO hB
  go_wp2_with fail
  go_ret
  exact ⟨⟨v, rfl, HO.out⟩, HBB.out⟩
end Go.Proofs.YticeagjonfifbaaGreatDoor
namespace Go.Proofs.YticeagjonfifbaaGreatDoor
open Go.RowKit

set_option maxRecDepth 100000 in
theorem isDecimal9 (x : Int) (w : World) :
    Calls Tryz.prog 74 #[.int .i64 x] w fun e w' => e = .returned (.bool (valB x)) ∧ w = w' := by
  by_cases h : -2147483647 ≤ x
  · have HE := Lib.hid (inZ_le9 (hi := 2147483647) h)
    go_enter Tryz.func74, Tryz.ntmps74
    go_wp2_with fail
    go_ret
    exact ⟨ret_bool9 HE.out.symm, rfl⟩
  · have HE := Lib.hid (inZ_gt9 (hi := 2147483647) h)
    go_enter Tryz.func74, Tryz.ntmps74
    go_wp2_with fail
    go_ret
    exact ⟨ret_bool9 HE.out.symm, rfl⟩
def notV (z : Int) : Bool := !valB z
set_option maxRecDepth 100000 in
theorem notDec9 (x : Int) (w : World) :
    Calls Tryz.prog 86 #[.int .i64 x] w fun e w' => e = .returned (.bool (notV x)) ∧ w = w' := by
  go_enter Tryz.func86, Tryz.ntmps86
  go_wp2_with fail
  refine (isDecimal9 _ _).mono ?_
  rintro e w1 ⟨rfl, rfl⟩
  go_wp2_with fail
  go_ret
  exact ⟨rfl, rfl⟩
theorem anyV_take {s : List Int} {j : Nat} {z : Int} (h : s[j]? = some z) : (s.take (j + 1)).any notV = ((s.take j).any notV || notV z) := by
  rw [List.take_add_one, h, List.any_append]
  simp
theorem anyV_all (s : List Int) : s.any notV = !s.all valB := by
  induction s with
  | nil => rfl
  | cons x t ih => simp [notV, ih]
set_option maxRecDepth 100000 in
set_option maxHeartbeats 1000000 in
theorem indexDec9 (w : World) (a : Option Addr) (c : Nat) (s : List Int) (hl : s.length ≤ 9223372036854775807) (hc : ∀ (q : Nat) z, s[q]? = some z → ∃ b off, a = some ⟨b, off, none⟩ ∧ w.cell? ⟨b, off + q, none⟩ = some (.int .i64 z)) :
    Calls Tryz.prog 111 #[.slice a s.length c, .func (.func 86) #[] #[]] w fun e w' => (∃ z : Int, e = .returned (.int .i64 z) ∧ decide (0 ≤ z) = s.any notV) ∧ ∃ q, w' = w.drewN q := by
  have HC := Lib.hid hc
  clear hc
  obtain ⟨n, hn⟩ : ∃ n : Nat, s.length = n := ⟨_, rfl⟩
  rw [hn] at hl ⊢
  have HE := Lib.hid hn
  clear hn
  go_enter Tryz.func111, Tryz.ntmps111
  go_wp2_with fail
  go_loopg [5, 8] n (fun g _ i wr => ∃ j z : Nat, j ≤ n ∧ g = n - j ∧ i = .int .i64 j ∧ wr = w.drewN z ∧ (s.take j).any notV = false)
  case atStart => exact ⟨0, 0, Nat.zero_le _, rfl, rfl, rfl, rfl⟩
  case round =>
    obtain ⟨j, z, hj, rfl, rfl, rfl, ht⟩ := hrel
    have HT := Lib.hid ht
    clear ht
    by_cases hlt : j < n
    · have hj1 : (j : Int) < n := by omega
      have hj0 : (0 : Int) ≤ j := by omega
      obtain ⟨x, hx⟩ : ∃ x, s[j]? = some x := ⟨_, List.getElem?_eq_getElem (by rw [HE.out]; exact hlt)⟩
      obtain ⟨b, off, rfl, hcx⟩ := HC.out j x hx
      have HX := Lib.hid hx
      have hcell : (w.drewN z).cell? ⟨b, off + j, none⟩ = some (.int .i64 x) := hcx
      clear hx hcx
      obtain ⟨wq, hwq⟩ : ∃ wq, w.drewN z = wq := ⟨_, rfl⟩
      rw [hwq] at hcell ⊢
      have HW := Lib.hid hwq
      clear hwq
      cases hp : notV x with
      | true =>
        go_wp2_with fail
        refine (notDec9 x _).mono ?_
        rintro e w1 ⟨rfl, rfl⟩
        rw [hp]
        go_wp2_with fail
        go_ret
        refine ⟨⟨_, rfl, ?_⟩, z, by rw [← HW.out]⟩
        rw [decide_eq_true hj0]
        have h2 : (s.take (j + 1)).any notV = true := by rw [anyV_take HX.out, hp]; simp
        obtain ⟨y, hy, hy2⟩ := List.any_eq_true.1 h2
        exact (List.any_eq_true.2 ⟨y, List.mem_of_mem_take hy, hy2⟩).symm
      | false =>
        go_wp2_with fail
        refine (notDec9 x _).mono ?_
        rintro e w1 ⟨rfl, rfl⟩
        rw [hp]
        go_wp2_with fail
        go_roundg (n - (j + 1))
        case measure => omega
        case rel => exact ⟨j + 1, z, by omega, rfl, by go_num, HW.out.symm, by rw [anyV_take HX.out, HT.out, hp]; rfl⟩
    · have hje : j = n := by omega
      have hj1 : ¬ (j : Int) < n := by omega
      have HA : Hid (s.any notV = false) := Lib.hid (by
        have h := HT.out
        rwa [hje, List.take_of_length_le (by rw [HE.out]; exact Nat.le_refl _)] at h)
      clear hje
      go_wp2_with fail
      go_ret
      exact ⟨⟨_, rfl, HA.out.symm⟩, z, rfl⟩
set_option maxRecDepth 100000 in
theorem containsDec9 (w : World) (v : Value) (s : List Int) (h : IntRow w v s) :
    Calls Tryz.prog 85 #[v, .func (.func 86) #[] #[]] w fun e w' => e = .returned (.bool (!s.all valB)) ∧ ∃ q, w' = w.drewN q := by
  obtain ⟨a, c, rfl, hl, hc⟩ := intRow_form h
  have HC := Lib.hid (indexDec9 w a c s hl hc)
  clear hc h
  go_enter Tryz.func85, Tryz.ntmps85
  go_wp2_with fail
  refine HC.out.mono ?_
  rintro e w1 ⟨⟨z, rfl, hz⟩, q, rfl⟩
  rw [anyV_all] at hz
  have HZ := Lib.hid hz
  clear hz
  go_wp2_with fail
  go_ret
  exact ⟨ret_bool9 HZ.out, q, rfl⟩
set_option maxRecDepth 100000 in
set_option maxHeartbeats 1000000 in
/-- WHETHER A LIST HOLDS SO MANY DECIMALS. -/
theorem areDec9 (w : World) (v : Value) (s : List Int) (m : Nat) (h : IntRow w v s) :
    Calls Tryz.prog 32 #[v, .int .i64 m] w fun e w' => e = .returned (.bool (decide (s.length = m) && s.all valB)) ∧ ∃ q, w' = w.drewN q := by
  have h0 := h
  obtain ⟨a, c, rfl, hl, hc⟩ := intRow_form h
  clear hc
  by_cases hm : s.length = m
  · have HC := Lib.hid (containsDec9 w _ s h0)
    have hm1 : (s.length : Int) = m := by omega
    have hd : decide (s.length = m) = true := decide_eq_true hm
    have HD := Lib.hid hd
    clear h h0 hm hd
    go_enter Tryz.func32, Tryz.ntmps32
    go_wp2_with fail
    refine HC.out.mono ?_
    rintro e w1 ⟨rfl, q, rfl⟩
    go_wp2_with fail
    go_ret
    exact ⟨ret_bool9 (by rw [HD.out]; simp), q, rfl⟩
  · have hm1 : ¬ (s.length : Int) = m := by omega
    have hm2 : ((s.length : Int) == (m : Int)) = false := beq_eq_false_iff_ne.2 hm1
    have HD := Lib.hid (decide_eq_false hm)
    clear hm
    go_enter Tryz.func32, Tryz.ntmps32
    go_wp2_with fail
    go_ret
    exact ⟨ret_bool9 (by rw [HD.out]; rfl), 0, rfl⟩
end Go.Proofs.YticeagjonfifbaaGreatDoor
namespace Go.Proofs.YticeagjonfifbaaGreatDoor
open Go.RowKit

theorem strs_at9 {r : List (List UInt8)} {j : Nat} (h : j < (r.map fun p => (⟨p.toArray⟩ : ByteArray)).length) : ∃ p, r[j]? = some p ∧ (r.map fun p => (⟨p.toArray⟩ : ByteArray)).getD j ByteArray.empty = ⟨p.toArray⟩ := by
  have hj : j < r.length := by simpa using h
  refine ⟨r[j], List.getElem?_eq_getElem hj, ?_⟩
  simp [List.getD, hj]
theorem strs_inj9 : ∀ {a b : List (List UInt8)}, (a.map fun p => (⟨p.toArray⟩ : ByteArray)) = (b.map fun p => (⟨p.toArray⟩ : ByteArray)) → a = b
  | [], [], _ => rfl
  | [], _ :: _, h => by simp at h
  | _ :: _, [], h => by simp at h
  | x :: a, y :: b, h => by
    simp only [List.map_cons, List.cons.injEq, ByteArray.mk.injEq] at h
    have hx : x = y := by simpa using congrArg Array.toList h.1
    rw [hx, strs_inj9 h.2]
theorem slEq9 (w : World) (u1 u2 : Value) (r1 r2 : List (List UInt8)) (h1 : StrRow w u1 r1) (h2 : StrRow w u2 r2) :
    Calls Tryz.prog 40 #[u1, u2] w fun e w' => e = .returned (.bool (decide (r1 = r2))) ∧ ∃ q, w' = w.drewN q := by
  obtain ⟨a1, c1, rfl, hl1, hf1⟩ := sRow_cells h1
  obtain ⟨a2, c2, rfl, hl2, hf2⟩ := sRow_cells h2
  by_cases hn : r1.length = r2.length
  · cases r1 with
    | nil =>
      obtain rfl : r2 = [] := List.length_eq_zero_iff.1 hn.symm
      refine (Tryz.slices_Equal_string_empty a1 a2 c1 0 c2 w (by omega)).mono fun e w' ⟨he, hw⟩ => ⟨?_, 0, hw⟩
      rw [he]
      rfl
    | cons x t =>
      obtain ⟨y, u, rfl⟩ : ∃ y u, r2 = y :: u := by
        cases r2 with
        | nil => simp at hn
        | cons y u => exact ⟨y, u, rfl⟩
      obtain ⟨b1, o1, rfl, _⟩ := hf1 0 x rfl
      obtain ⟨b2, o2, rfl, _⟩ := hf2 0 y rfl
      refine (Tryz.slices_Equal_string b1 o1 _ c1 b2 o2 _ c2 ((x :: t).map fun p => ⟨p.toArray⟩) ((y :: u).map fun p => ⟨p.toArray⟩) w (by simp) (by simp) hl1 hl2 ?_ ?_).mono fun e w' ⟨he, hw⟩ => ⟨?_, hw⟩
      · intro j hj
        obtain ⟨p, hp, hg⟩ := strs_at9 hj
        obtain ⟨b, o, hb, hc⟩ := hf1 j p hp
        injection hb with hb
        injection hb with hb ho _
        subst hb
        subst ho
        rw [hg]
        exact hc
      · intro j hj
        obtain ⟨p, hp, hg⟩ := strs_at9 hj
        obtain ⟨b, o, hb, hc⟩ := hf2 j p hp
        injection hb with hb
        injection hb with hb ho _
        subst hb
        subst ho
        rw [hg]
        exact hc
      · rw [he, List.take_of_length_le (by simp), List.take_of_length_le (by simp)]
        congr 2
        rw [decide_eq_decide]
        exact ⟨strs_inj9, fun e => by rw [e]⟩
  · refine (Tryz.slices_Equal_string_lens a1 a2 r1.length c1 r2.length c2 w hn).mono fun e w' ⟨he, hw⟩ => ⟨?_, 0, hw⟩
    rw [he, decide_eq_false (fun e => hn (by rw [e]))]

theorem slEqI9 (w : World) (u1 u2 : Value) (s1 s2 : List Int) (h1 : IntRow w u1 s1) (h2 : IntRow w u2 s2) :
    Calls Tryz.prog 42 #[u1, u2] w fun e w' => e = .returned (.bool (decide (s1 = s2))) ∧ ∃ q, w' = w.drewN q := by
  obtain ⟨a1, c1, rfl, hl1, hf1⟩ := intRow_form h1
  obtain ⟨a2, c2, rfl, hl2, hf2⟩ := intRow_form h2
  have at1 : ∀ (s : List Int) (j : Nat), j < s.length → s[j]? = some (s.getD j 0) := fun s j hj => by simp [List.getD, hj]
  by_cases hn : s1.length = s2.length
  · cases s1 with
    | nil =>
      obtain rfl : s2 = [] := List.length_eq_zero_iff.1 hn.symm
      refine (Tryz.slices_Equal_int_empty a1 a2 c1 0 c2 w (by omega)).mono fun e w' ⟨he, hw⟩ => ⟨?_, 0, hw⟩
      rw [he]
      rfl
    | cons x t =>
      obtain ⟨y, u, rfl⟩ : ∃ y u, s2 = y :: u := by
        cases s2 with
        | nil => simp at hn
        | cons y u => exact ⟨y, u, rfl⟩
      obtain ⟨b1, o1, rfl, _⟩ := hf1 0 x rfl
      obtain ⟨b2, o2, rfl, _⟩ := hf2 0 y rfl
      refine (Tryz.slices_Equal_int b1 o1 _ c1 b2 o2 _ c2 (x :: t) (y :: u) w (Nat.le_refl _) (Nat.le_refl _) hl1 hl2 ?_ ?_).mono fun e w' ⟨he, hw⟩ => ⟨?_, hw⟩
      · intro j hj
        obtain ⟨b, o, hb, hc⟩ := hf1 j _ (at1 _ j hj)
        injection hb with hb
        injection hb with hb ho _
        subst hb
        subst ho
        exact hc
      · intro j hj
        obtain ⟨b, o, hb, hc⟩ := hf2 j _ (at1 _ j hj)
        injection hb with hb
        injection hb with hb ho _
        subst hb
        subst ho
        exact hc
      · rw [he, List.take_of_length_le (Nat.le_refl _), List.take_of_length_le (Nat.le_refl _)]
        by_cases he : x :: t = y :: u
        · rw [he]; simp
        · rw [decide_eq_false he, beq_eq_false_iff_ne.2 he]
  · refine (Tryz.slices_Equal_int_lens a1 a2 s1.length c1 s2.length c2 w hn).mono fun e w' ⟨he, hw⟩ => ⟨?_, 0, hw⟩
    rw [he, decide_eq_false (fun e => hn (by rw [e]))]
theorem ret_boolE {a b : Bool} (h : b = a) : Ending.returned (.bool a) = .returned (.bool b) := by rw [h]
set_option maxRecDepth 100000 in
set_option maxHeartbeats 4000000 in
theorem eqFn9 (w : World) (a1 a2 : Option Addr) (c1 c2 : Nat) (L1 L2 : List (List Int)) (hl : L1.length ≤ 9223372036854775807) (hl2 : L2.length ≤ 9223372036854775807)
    (h1 : ∀ (j : Nat) row, L1[j]? = some row → ∃ b off u, a1 = some ⟨b, off, none⟩ ∧ w.cell? ⟨b, off + j, none⟩ = some u ∧ IntRow w u row) (h2 : ∀ (j : Nat) row, L2[j]? = some row → ∃ b off u, a2 = some ⟨b, off, none⟩ ∧ w.cell? ⟨b, off + j, none⟩ = some u ∧ IntRow w u row) :
    Calls Tryz.prog 41 #[.slice a1 L1.length c1, .slice a2 L2.length c2, .func (.func 42) #[] #[]] w fun e w' => e = .returned (.bool (sameG9 L1 L2)) ∧ ∃ k, w' = w.drewN k := by
  have H1 := Lib.hid h1
  have H2 := Lib.hid h2
  clear h1 h2
  obtain ⟨n, hn⟩ : ∃ n : Nat, L1.length = n := ⟨_, rfl⟩
  obtain ⟨n2, hn2⟩ : ∃ n : Nat, L2.length = n := ⟨_, rfl⟩
  rw [hn] at hl ⊢
  rw [hn2] at hl2 ⊢
  by_cases hnn : n = n2
  · obtain rfl := hnn
    have HE1 := Lib.hid hn
    have HE2 := Lib.hid hn2
    clear hn hn2
    go_enter Tryz.func41, Tryz.ntmps41
    go_wp2_with fail
    go_loopg [6, 7, 8, 9, 17] n (fun g _ _ _ _ i wr => ∃ j z : Nat, j ≤ n ∧ g = n - j ∧ i = .int .i64 j ∧ wr = w.drewN z ∧ L1.take j = L2.take j)
    case atStart => exact ⟨0, 0, Nat.zero_le _, rfl, rfl, rfl, rfl⟩
    case round =>
      obtain ⟨j, z, hj, rfl, rfl, rfl, ht⟩ := hrel
      have HT := Lib.hid ht
      clear ht
      by_cases hlt : j < n
      · have hj1 : (j : Int) < n := by omega
        have hj0 : (0 : Int) ≤ j := by omega
        obtain ⟨r1, hr1⟩ : ∃ r, L1[j]? = some r := ⟨_, List.getElem?_eq_getElem (by rw [HE1.out]; exact hlt)⟩
        obtain ⟨r2, hr2⟩ : ∃ r, L2[j]? = some r := ⟨_, List.getElem?_eq_getElem (by rw [HE2.out]; exact hlt)⟩
        obtain ⟨b1, o1, u1, rfl, hc1, hs1⟩ := H1.out j r1 hr1
        obtain ⟨b2, o2, u2, rfl, hc2, hs2⟩ := H2.out j r2 hr2
        have hB : Below w.heap.size w (w.drewN z) := below_drewN2 (Below.refl _ _) z
        have S1 := Lib.hid (hs1.below hB)
        have S2 := Lib.hid (hs2.below hB)
        have HR1 := Lib.hid hr1
        have HR2 := Lib.hid hr2
        have g1 : (w.drewN z).cell? ⟨b1, o1 + j, none⟩ = some u1 := hc1
        have g2 : (w.drewN z).cell? ⟨b2, o2 + j, none⟩ = some u2 := hc2
        clear hr1 hr2 hs1 hs2 hc1 hc2 hB
        obtain ⟨wq, hwq⟩ : ∃ wq, w.drewN z = wq := ⟨_, rfl⟩
        rw [hwq] at g1 g2 S1 S2 ⊢
        have HW := Lib.hid hwq
        clear hwq
        by_cases hrr : r1 = r2
        · have HRR := Lib.hid hrr
          have hd : decide (r1 = r2) = true := decide_eq_true hrr
          clear hrr
          go_wp2_with fail
          refine (slEqI9 wq u1 u2 r1 r2 S1.out S2.out).mono ?_
          rintro e w1 ⟨rfl, q, rfl⟩
          rw [hd]
          go_wp2_with fail
          go_roundg (n - (j + 1))
          case measure => omega
          case rel => exact ⟨j + 1, _, by omega, rfl, by go_num, by rw [← HW.out, World.drewN_drewN], take_bothG HR1.out HR2.out HT.out HRR.out⟩
        · have HRR := Lib.hid hrr
          have hd : decide (r1 = r2) = false := decide_eq_false hrr
          clear hrr
          go_wp2_with fail
          refine (slEqI9 wq u1 u2 r1 r2 S1.out S2.out).mono ?_
          rintro e w1 ⟨rfl, q, rfl⟩
          rw [hd]
          go_wp2_with fail
          go_ret
          exact ⟨ret_boolE (sameG9_no (at_neG HR1.out HR2.out HRR.out)), _, by rw [← HW.out, World.drewN_drewN]⟩
      · have hje : j = n := by omega
        have hj1 : ¬ (j : Int) < n := by omega
        have HLL : Hid (L1 = L2) := Lib.hid (by
          have h := HT.out
          rw [hje, show L1.take n = L1 from List.take_of_length_le (by rw [HE1.out]; exact Nat.le_refl _), show L2.take n = L2 from List.take_of_length_le (by rw [HE2.out]; exact Nat.le_refl _)] at h
          exact h)
        clear hje
        go_wp2_with fail
        go_ret
        exact ⟨ret_boolE (sameG9_yes HLL.out), z, rfl⟩
  · have HNE : Hid (¬ L1 = L2) := Lib.hid (by
      intro e
      rw [e, hn2] at hn
      exact hnn hn.symm)
    have hne : ¬ (n : Int) = n2 := by omega
    have hneN : (n == n2) = false := beq_eq_false_iff_ne.2 hnn
    clear hn hn2
    go_enter Tryz.func41, Tryz.ntmps41
    go_wp2_with fail
    go_ret
    exact ⟨ret_boolE (sameG9_no HNE.out), 0, rfl⟩

theorem below_of_drew {w w' : World} {k : Nat} (h : w' = w.drewN k) : Below w.heap.size w w' := h ▸ below_drewN2 (Below.refl _ _) k
theorem iiRow_cellsE {w : World} {v : Value} {L : List (List Int)} (h : IIRow w v L) : ∃ a c, v = .slice a L.length c ∧ L.length ≤ 9223372036854775807 ∧ (∀ (j : Nat) row, L[j]? = some row → ∃ b off u, a = some ⟨b, off, none⟩ ∧ w.cell? ⟨b, off + j, none⟩ = some u ∧ IntRow w u row) := by
  rcases h with ⟨rfl, a, c, rfl⟩ | ⟨b, off, c, rfl, hl, _, hc⟩
  · exact ⟨a, c, rfl, by simp, by simp⟩
  · refine ⟨_, c, rfl, hl, fun j row hj => ?_⟩
    obtain ⟨u, h1, h2⟩ := hc j row hj
    exact ⟨b, off, u, rfl, h1, h2⟩
theorem eqGrid9 (w : World) (v1 v2 : Value) (L1 L2 : List (List Int)) (h1 : IIRow w v1 L1) (h2 : IIRow w v2 L2) :
    Calls Tryz.prog 41 #[v1, v2, .func (.func 42) #[] #[]] w fun e w' => e = .returned (.bool (sameG9 L1 L2)) ∧ ∃ k, w' = w.drewN k := by
  obtain ⟨a1, c1, rfl, hl1, hf1⟩ := iiRow_cellsE h1
  obtain ⟨a2, c2, rfl, hl2, hf2⟩ := iiRow_cellsE h2
  exact eqFn9 w a1 a2 c1 c2 L1 L2 hl1 hl2 hf1 hf2

set_option maxRecDepth 100000 in
set_option maxHeartbeats 2000000 in
/-- WHETHER TWO TABLES ARE THE SAME. -/
theorem implSameT (A B : Tab) (u1 u2 u3 v1 v2 v3 : Value) (w : World) (h1 : TabRow w A u1 u2 u3) (h2 : TabRow w B v1 v2 v3) :
    Calls Tryz.prog 13 #[.agg #[u1, .string ⟨A.y.toArray⟩, u2, u3], .agg #[v1, .string ⟨B.y.toArray⟩, v2, v3]] w fun e w' => e = .returned (.bool (sameT A B)) ∧ Below w.heap.size w w' := by
  obtain ⟨p1, p2, p3⟩ := h1
  obtain ⟨q1, q2, q3⟩ := h2
  obtain ⟨a1, c1, rfl, _⟩ := sRow_form p1
  obtain ⟨a2, c2, rfl, _⟩ := iiRow_form p2
  obtain ⟨a3, c3, rfl, _⟩ := intRow_form p3
  obtain ⟨b1, d1, rfl, _⟩ := sRow_form q1
  obtain ⟨b2, d2, rfl, _⟩ := iiRow_form q2
  obtain ⟨b3, d3, rfl, _⟩ := intRow_form q3
  have hA := bl_al w (.cells #[.slice a1 A.ns.length c1, .string ⟨A.y.toArray⟩, .slice a2 A.rs.length c2, .slice a3 A.ys.length c3] 28)
  have hA2 := bt hA (bl_al _ (.cells #[.slice b1 B.ns.length d1, .string ⟨B.y.toArray⟩, .slice b2 B.rs.length d2, .slice b3 B.ys.length d3] 28))
  have x1 := blk_al (alloc_blk w #[.slice a1 A.ns.length c1, .string ⟨A.y.toArray⟩, .slice a2 A.rs.length c2, .slice a3 A.ys.length c3] 28) (.cells #[.slice b1 B.ns.length d1, .string ⟨B.y.toArray⟩, .slice b2 B.rs.length d2, .slice b3 B.ys.length d3] 28)
  have x2 := alloc_blk (w.alloc (.cells #[.slice a1 A.ns.length c1, .string ⟨A.y.toArray⟩, .slice a2 A.rs.length c2, .slice a3 A.ys.length c3] 28)) #[.slice b1 B.ns.length d1, .string ⟨B.y.toArray⟩, .slice b2 B.rs.length d2, .slice b3 B.ys.length d3] 28
  rw [sz_alloc] at x2
  obtain ⟨r, hr⟩ : ∃ r, sameT A B = r := ⟨_, rfl⟩
  rw [hr]
  have HR := Lib.hid hr
  obtain ⟨e1, he1⟩ : ∃ r, decide (A.ns = B.ns) = r := ⟨_, rfl⟩
  obtain ⟨e3, he3⟩ : ∃ r, sameG9 A.rs B.rs = r := ⟨_, rfl⟩
  obtain ⟨e4, he4⟩ : ∃ r, decide (A.ys = B.ys) = r := ⟨_, rfl⟩
  have K1 := Lib.hid (fun w => he1 ▸ slEq9 w (.slice a1 A.ns.length c1) (.slice b1 B.ns.length d1) A.ns B.ns)
  have K3 := Lib.hid (fun w => he3 ▸ eqGrid9 w (.slice a2 A.rs.length c2) (.slice b2 B.rs.length d2) A.rs B.rs)
  have K4 := Lib.hid (fun w => he4 ▸ slEqI9 w (.slice a3 A.ys.length c3) (.slice b3 B.ys.length d3) A.ys B.ys)
  have hsT : sameT A B = (decide (A.ns = B.ns) && decide (A.y = B.y) && sameG9 A.rs B.rs && decide (A.ys = B.ys)) := by simp [sameT, sameB, sameI9]
  have HT := Lib.hid hsT
  clear hsT
  have E1 := Lib.hid he1
  have E3 := Lib.hid he3
  have E4 := Lib.hid he4
  clear hr he1 he3 he4
  have l0 := cell_blk x1 0
  have l1 := cell_blk x1 1
  have l2 := cell_blk x1 2
  have l3 := cell_blk x1 3
  have m0 := cell_blk x2 0
  have m1 := cell_blk x2 1
  have m2 := cell_blk x2 2
  have m3 := cell_blk x2 3
  have HA2 := Lib.hid hA2
  clear hA hA2
  by_cases hy : A.y = B.y
  · have hq : (A.y == B.y) = true := beq_iff_eq.2 hy
    have HY := Lib.hid (decide_eq_true hy)
    clear hy
    go_enter Tryz.func13, Tryz.ntmps13
    go_wp2_with fail
    refine (K1.out _ (p1.below HA2.out) (q1.below HA2.out)).mono ?_
    rintro e w1 ⟨rfl, k1, hw1⟩
    have hB1 := below_of_drew hw1
    have HC1 := Lib.hid (bt HA2.out hB1)
    have y1 := blk_next x1 hB1
    have y2 := blk_next x2 hB1
    clear hw1 hB1 l0 l1 l2 l3 m0 m1 m2 m3
    have l0 := cell_blk y1 0
    have l1 := cell_blk y1 1
    have l2 := cell_blk y1 2
    have l3 := cell_blk y1 3
    have m0 := cell_blk y2 0
    have m1 := cell_blk y2 1
    have m2 := cell_blk y2 2
    have m3 := cell_blk y2 3
    cases e1 with
    | false =>
      go_wp2_with fail
      go_ret
      exact ⟨ret_bool9 (by rw [← HR.out, HT.out, E1.out]; rfl), HC1.out⟩
    | true =>
      go_wp2_with fail
      refine (K3.out _ (p2.below HC1.out) (q2.below HC1.out)).mono ?_
      rintro e w2 ⟨rfl, k2, hw2⟩
      have hB2 := below_of_drew hw2
      have HC2 := Lib.hid (bt HC1.out hB2)
      have z1 := blk_next y1 hB2
      have z2 := blk_next y2 hB2
      clear hw2 hB2 l0 l1 l2 l3 m0 m1 m2 m3
      have l0 := cell_blk z1 0
      have l1 := cell_blk z1 1
      have l2 := cell_blk z1 2
      have l3 := cell_blk z1 3
      have m0 := cell_blk z2 0
      have m1 := cell_blk z2 1
      have m2 := cell_blk z2 2
      have m3 := cell_blk z2 3
      cases e3 with
      | false =>
        go_wp2_with fail
        go_ret
        exact ⟨ret_bool9 (by rw [← HR.out, HT.out, E3.out]; simp), HC2.out⟩
      | true =>
        go_wp2_with fail
        refine (K4.out _ (p3.below HC2.out) (q3.below HC2.out)).mono ?_
        rintro e w3 ⟨rfl, k3, hw3⟩
        have hB3 := below_of_drew hw3
        have HC3 := Lib.hid (bt HC2.out hB3)
        clear hw3 hB3
        go_wp2_with fail
        go_ret
        exact ⟨ret_bool9 (by rw [← HR.out, HT.out, E1.out, E3.out, E4.out, HY.out]; simp), HC3.out⟩
  · have hq : (A.y == B.y) = false := beq_eq_false_iff_ne.2 hy
    have hn := hy
    have hn2 := str_ne hy
    have HY := Lib.hid (decide_eq_false hy)
    clear hy
    go_enter Tryz.func13, Tryz.ntmps13
    go_wp2_with fail
    go_ret
    exact ⟨ret_bool9 (by rw [← HR.out, HT.out, HY.out]; simp), HA2.out⟩
end Go.Proofs.YticeagjonfifbaaGreatDoor
namespace Go.Proofs.YticeagjonfifbaaGreatDoor
open Go.RowKit

theorem valI {n : Int} (h0 : -2147483647 ≤ n) (h1 : n ≤ 2147483647) : valB n = true := inZ_iff.2 ⟨h0, h1⟩
/-- A literal list of right decimals. -/
theorem valList {w : World} {cs : Array Value} {T : TypeId} {n : Nat} (hn : n = cs.size) (h : cs.toList.all (fun v => match v with | .int .i64 z => decide (-2147483647 ≤ z) && decide (z ≤ 2147483647) | _ => false) = true) :
    ∀ j, j < n → ∃ z : Int, -2147483647 ≤ z ∧ z ≤ 2147483647 ∧ (w.alloc (.cells cs T)).cell? ⟨w.heap.size, j, none⟩ = some (.int .i64 z) := by
  subst hn
  intro j hj
  have hb : (w.alloc (.cells cs T)).heap[w.heap.size]? = some (.cells cs T (0, 0)) := by
    show (w.heap.push _)[w.heap.size]? = _
    simp
  rw [cell_blk hb]
  have hm : cs[j] ∈ cs.toList := by simp
  have h1 := List.all_eq_true.1 h _ hm
  rw [Array.getElem?_eq_getElem hj]
  split at h1
  · rename_i z hz
    simp only [Bool.and_eq_true, decide_eq_true_eq] at h1
    exact ⟨z, h1.1, h1.2, by rw [hz]⟩
  · cases h1
set_option maxRecDepth 100000 in
theorem l1PickV (W w : World) (p lb k : Nat) (h1 : 1 ≤ k) (h2 : k ≤ 4294967296) (hne : lb ≠ p) (hcell : ∀ j, j < k → ∃ z : Int, -2147483647 ≤ z ∧ z ≤ 2147483647 ∧ w.cell? ⟨lb, j, none⟩ = some (.int .i64 z)) (hc : Cur W w p) :
    Calls Tryz.prog 71 #[.pointer (some ⟨p, 0, none⟩), .slice (some ⟨lb, 0, none⟩) k k] w fun e w' => (∃ z : Int, e = .returned (.int .i64 z) ∧ valB z = true) ∧ Cur W w' p ∧ w.grownBy w' (some p) := by
  have HC := Lib.hid hcell
  clear hcell
  go_enter Tryz.func71, Tryz.ntmps71
  go_wp2_with fail
  refine (l1Below W _ p k h1 h2 hc).mono ?_
  rintro e w1 ⟨⟨m, hm, rfl⟩, hc1, hg1⟩
  obtain ⟨z, z0, z1, hcs⟩ := HC.out m hm
  have hcs1 := grown_cell hg1 hne hcs
  have hm1 : (m : Int) < k := by omega
  clear hcs
  go_wp2_with fail
  go_ret
  exact ⟨⟨z, rfl, valI z0 z1⟩, hc1, hg1⟩
set_option maxRecDepth 100000 in
set_option maxHeartbeats 1000000 in
theorem l6SmallV (W w : World) (p : Nat) (hc : Cur W w p) :
    Calls Tryz.prog 92 #[.pointer (some ⟨p, 0, none⟩)] w fun e w' => (∃ z : Int, e = .returned (.int .i64 z) ∧ valB z = true) ∧ Cur W w' p ∧ w.grownBy w' (some p) := by
  go_enter Tryz.func92, Tryz.ntmps92
  go_wp2_with fail
  refine (l1Once W w p 20 (by omega) (by omega) hc).mono ?_
  rintro e w2 ⟨⟨b, rfl⟩, hc2, hg2⟩
  cases b with
  | true =>
    have hl := hc2.lt
    go_wp2_with fail
    refine (l1PickV W _ p w2.heap.size 5 (by omega) (by omega) (by omega) ?_ (hc2.alloc _)).mono ?_
    · refine valList ?_ ?_
      · rfl
      · decide
    rintro e w3 ⟨⟨z, rfl, hz⟩, hc3, hg3⟩
    go_wp2_with fail
    go_ret
    exact ⟨⟨z, rfl, hz⟩, hc3, grownBy_trans (grownBy_trans hg2 (grow_al _ _ _)) hg3⟩
  | false =>
    go_wp2_with fail
    refine (l1Once W _ p 2 (by omega) (by omega) hc2).mono ?_
    rintro e w3 ⟨⟨b, rfl⟩, hc3, hg3⟩
    cases b with
    | true =>
      go_wp2_with fail
      refine (l1Below W _ p 9 (by omega) (by omega) hc3).mono ?_
      rintro e w4 ⟨⟨m, hm, rfl⟩, hc4, hg4⟩
      go_wp2_with fail
      go_ret
      exact ⟨⟨_, rfl, valI (by omega) (by omega)⟩, hc4, grownBy_trans (grownBy_trans hg2 hg3) hg4⟩
    | false =>
      go_wp2_with fail
      refine (l1Below W _ p 41 (by omega) (by omega) hc3).mono ?_
      rintro e w4 ⟨⟨m, hm, rfl⟩, hc4, hg4⟩
      go_wp2_with fail
      go_ret
      exact ⟨⟨_, rfl, valI (by omega) (by omega)⟩, hc4, grownBy_trans (grownBy_trans hg2 hg3) hg4⟩
end Go.Proofs.YticeagjonfifbaaGreatDoor
namespace Go.Proofs.YticeagjonfifbaaGreatDoor
open Go.RowKit

/-- The cursor stands where others are written. -/
theorem Cur.grownT {W w w' : World} {p : Nat} {r : Option Nat} (h : Cur W w p) (hg : w.grownBy w' r) (hr : ∀ k, r = some k → W.heap.size ≤ k ∧ k ≠ p) : Cur W w' p := by
  have hlt := h.lt
  obtain ⟨hp, hB, v, n, i, x, hb, hi, h0, h1, hblk⟩ := h
  exact ⟨hp, hB.grown hg hB.size (fun k hk => (hr k hk).1), v, n, i, x, hb, hi, h0, h1, (hg.block p hlt (fun e => (hr p e.symm).2 rfl)).trans hblk⟩
theorem Cur.blkT {W w : World} {p : Nat} (h : Cur W w p) : ∃ cs, w.heap[p]? = some (.cells cs 87 (0, 0)) := by
  obtain ⟨_, _, v, n, i, x, _, _, _, _, hblk⟩ := h
  exact ⟨_, hblk⟩
theorem blk_far {w w' : World} {b p : Nat} {cs cs' : Array Value} {T T' : TypeId} (h : w.heap[b]? = some (.cells cs T (0, 0))) (hp : w.heap[p]? = some (.cells cs' T' (0, 0))) (hT : T ≠ T') (hg : w.grownBy w' (some p)) : w'.heap[b]? = some (.cells cs T (0, 0)) := by
  rw [hg.block b (blk_lt h) (fun e => ?_)]
  · exact h
  · obtain rfl := Option.some.inj e
    rw [h] at hp
    injection hp with hp
    injection hp with _ hp
    exact hT hp
/-- A draw leaves a table be. -/
theorem TabOwn.draw {W wr w' : World} {p base : Nat} {T : Tab} {vs : List Value} {u1 u2 u3 : Value} (h : TabOwn wr base T vs u1 u2 u3) (hc : Cur W wr p) (hg : wr.grownBy w' (some p)) : TabOwn w' base T vs u1 u2 u3 := by
  obtain ⟨cs, hb⟩ := hc.blkT
  have ne := h.ne hb (by decide) (by decide) (by decide)
  exact ⟨owns_far h.1 hg (fun g e => by obtain rfl := Option.some.inj e; exact ne.n1), owns_far h.2.1 hg (fun g e => by obtain rfl := Option.some.inj e; exact ne.n2), h.2.2.1.kept hg (fun j u g hu hb e => ne.nv j u hu (by rw [hb, e])), owns_far h.2.2.2.1 hg (fun g e => by obtain rfl := Option.some.inj e; exact ne.n3), h.2.2.2.2⟩
/-- A world cut off at so many blocks: a base for what is kept of tables. -/
def cutW (w : World) (B : Nat) : World := { w with heap := w.heap.extract 0 B }
theorem cut_size {w : World} {B : Nat} (h : B ≤ w.heap.size) : (cutW w B).heap.size = B := by
  simp [cutW, Nat.min_eq_left h]
theorem cut_below {w : World} {B : Nat} (h : B ≤ w.heap.size) : Below (cutW w B).heap.size (cutW w B) w := by
  rw [cut_size h]
  refine ⟨rfl, rfl, rfl, by rw [cut_size h]; exact h, fun i hi => ?_⟩
  simp [cutW, hi, h]
theorem grownBy_farT {a b c : World} {p : Nat} {r : Option Nat} (h : a.grownBy b (some p)) (k : b.grownBy c r) (hr : ∀ g, r = some g → a.heap.size ≤ g) : a.grownBy c (some p) :=
  ⟨k.os.trans h.os, k.tape.trans h.tape, k.output.trans h.output, Nat.le_trans h.size k.size, fun i hi hne => (k.block i (Nat.lt_of_lt_of_le hi h.size) (fun e => by have := hr i e.symm; omega)).trans (h.block i hi hne)⟩
/-- What is kept while a table is drawn: rb is the result's box. -/
structure DrT (W w0 wr : World) (p rb ob : Nat) (cs : Array Value) (T : Tab) (vs : List Value) (u1 u2 u3 : Value) : Prop where
  cur : Cur W wr p
  grown : w0.grownBy wr (some p)
  box : wr.heap[ob]? = some (.cells cs 28 (0, 0))
  own : TabOwn wr w0.heap.size T vs u1 u2 u3
  oge : w0.heap.size ≤ ob
  res : wr.heap[rb]? = some (.cells #[.slice none 0 0, .string ⟨#[]⟩, .slice none 0 0, .slice none 0 0] 28 (0, 0))
  rge : w0.heap.size ≤ rb
  ne : rb ≠ ob
  hW : W.heap.size ≤ w0.heap.size
/-- .. and the row that is drawn. -/
structure DrR (W w0 wr : World) (p rb ob lo : Nat) (cs : Array Value) (T : Tab) (vs : List Value) (u1 u2 u3 vr : Value) (row : List Int) : Prop where
  st : DrT W w0 wr p rb ob cs T vs u1 u2 u3
  row : wr.ownsRow lo 3 1 vr row.length (intCells row)
  le : w0.heap.size ≤ lo
  hi : lo ≤ wr.heap.size
  l1 : ∀ (j : Nat) x g, vs[j]? = some x → x.ownBlock = some g → g < lo
  l3 : ∀ g, u3.ownBlock = some g → g < lo
theorem DrR.cur {W w0 wr : World} {p rb ob lo : Nat} {cs : Array Value} {T : Tab} {vs : List Value} {u1 u2 u3 vr : Value} {row : List Int} (h : DrR W w0 wr p rb ob lo cs T vs u1 u2 u3 vr row) : Cur W wr p := h.st.cur
theorem DrT.rt {W w0 wr : World} {p rb ob : Nat} {cs : Array Value} {T : Tab} {vs : List Value} {u1 u2 u3 : Value} (h : DrT W w0 wr p rb ob cs T vs u1 u2 u3) : RtO (cutW wr w0.heap.size) wr ob cs T vs u1 u2 u3 :=
  ⟨cut_below h.grown.size, h.box, by rw [cut_size h.grown.size]; exact h.own, by rw [cut_size h.grown.size]; exact h.oge⟩
theorem DrR.rr {W w0 wr : World} {p rb ob lo : Nat} {cs : Array Value} {T : Tab} {vs : List Value} {u1 u2 u3 vr : Value} {row : List Int} (h : DrR W w0 wr p rb ob lo cs T vs u1 u2 u3 vr row) : RrS (cutW wr w0.heap.size) wr ob lo cs T vs u1 u2 u3 vr row :=
  ⟨h.st.rt, h.row, by rw [cut_size h.st.grown.size]; exact h.le, h.hi, h.l1, h.l3⟩
theorem DrT.draw {W w0 wr w' : World} {p rb ob : Nat} {cs : Array Value} {T : Tab} {vs : List Value} {u1 u2 u3 : Value} (h : DrT W w0 wr p rb ob cs T vs u1 u2 u3) (hc : Cur W w' p) (hg : wr.grownBy w' (some p)) : DrT W w0 w' p rb ob cs T vs u1 u2 u3 := by
  obtain ⟨cs', hb⟩ := h.cur.blkT
  exact ⟨hc, grownBy_trans h.grown hg, blk_far h.box hb (by decide) hg, h.own.draw h.cur hg, h.oge, blk_far h.res hb (by decide) hg, h.rge, h.ne, h.hW⟩
theorem DrR.draw {W w0 wr w' : World} {p rb ob lo : Nat} {cs : Array Value} {T : Tab} {vs : List Value} {u1 u2 u3 vr : Value} {row : List Int} (h : DrR W w0 wr p rb ob lo cs T vs u1 u2 u3 vr row) (hc : Cur W w' p) (hg : wr.grownBy w' (some p)) : DrR W w0 w' p rb ob lo cs T vs u1 u2 u3 vr row := by
  obtain ⟨cs', hb⟩ := h.cur.blkT
  have hT : 3 ≠ 87 := by decide
  exact ⟨h.st.draw hc hg, owns_far h.row hg (fun g e => by obtain rfl := Option.some.inj e; exact own_ne_blk h.row hb hT), h.le, Nat.le_trans h.hi hg.size, h.l1, h.l3⟩
theorem DrT.laid {W w0 wr : World} {p rb ob : Nat} {cs : Array Value} {T : Tab} {vs : List Value} {u1 u2 u3 : Value} (h : DrT W w0 wr p rb ob cs T vs u1 u2 u3) (o : Obj) : DrT W w0 (wr.alloc o) p rb ob cs T vs u1 u2 u3 := h.draw (h.cur.alloc o) (grow_al _ _ _)
theorem DrR.laid {W w0 wr : World} {p rb ob lo : Nat} {cs : Array Value} {T : Tab} {vs : List Value} {u1 u2 u3 vr : Value} {row : List Int} (h : DrR W w0 wr p rb ob lo cs T vs u1 u2 u3 vr row) (o : Obj) : DrR W w0 (wr.alloc o) p rb ob lo cs T vs u1 u2 u3 vr row := h.draw (h.cur.alloc o) (grow_al _ _ _)
theorem DrT.start {W w0 wr : World} {p rb ob : Nat} {cs : Array Value} {T : Tab} {vs : List Value} {u1 u2 u3 : Value} (h : DrT W w0 wr p rb ob cs T vs u1 u2 u3) : DrR W w0 (wr.alloc (.cells #[] 3)) p rb ob wr.heap.size cs T vs u1 u2 u3 (.slice (some ⟨wr.heap.size, 0, none⟩) 0 0) [] :=
  ⟨h.laid _, World.ownsRow_made wr #[] 0 (Nat.le_refl _) (by unfold maxLen; omega) (by simp), h.grown.size, (bl_al wr _).size, fun j x g hx hb => (h.own.2.2.1.lt hx hb).2, fun g hb => (h.own.2.2.2.1.lt g hb).2⟩
/-- A number is appended to the row. -/
theorem DrR.app {W w0 wr w' : World} {p rb ob lo : Nat} {cs : Array Value} {T : Tab} {vs : List Value} {u1 u2 u3 vr vr' : Value} {row : List Int} {x : Int} (h : DrR W w0 wr p rb ob lo cs T vs u1 u2 u3 vr row) (hg : wr.grownBy w' vr.ownBlock) (ho' : w'.ownsRow lo 3 1 vr' (row.length + 1) (intCells row ++ [.int .i64 x])) : DrR W w0 w' p rb ob lo cs T vs u1 u2 u3 vr' (row ++ [x]) := by
  obtain ⟨cs', hb⟩ := h.cur.blkT
  have hT : 3 ≠ 87 := by decide
  have hT2 : 3 ≠ 28 := by decide
  have hlo : ∀ k, vr.ownBlock = some k → w0.heap.size ≤ k := fun k hk => Nat.le_trans h.le (h.row.lt k hk).1
  have hr := h.rr.app hg ho'
  have ho := hr.st.own
  rw [cut_size h.st.grown.size] at ho
  refine ⟨⟨h.cur.grownT hg (fun k hk => ⟨Nat.le_trans h.st.hW (hlo k hk), fun e => own_ne_blk h.row hb hT (e ▸ hk)⟩), grownBy_farT h.st.grown hg hlo, hr.st.box, ho, h.st.oge, ?_, h.st.rge, h.st.ne, h.st.hW⟩, hr.row, h.le, hr.hi, h.l1, h.l3⟩
  rw [hg.block rb (blk_lt h.st.res) (fun e => own_ne_blk h.row h.st.res hT2 e.symm)]
  exact h.st.res
/-- The row is appended to the rows. -/
theorem DrR.push {W w0 wr w' : World} {p rb ob lo : Nat} {cs : Array Value} {T : Tab} {vs : List Value} {u1 u2 u3 vr u2' : Value} {row : List Int} (h : DrR W w0 wr p rb ob lo cs T vs u1 u2 u3 vr row) (hg : wr.grownBy w' u2.ownBlock) (ho' : w'.ownsRow w0.heap.size 26 1 u2' (T.rs.length + 1) (vs ++ [vr])) : DrT W w0 w' p rb ob cs ⟨T.ns, T.y, T.rs ++ [row], T.ys⟩ (vs ++ [vr]) u1 u2' u3 := by
  obtain ⟨cs', hb⟩ := h.cur.blkT
  have hT : 26 ≠ 87 := by decide
  have hT2 : 26 ≠ 28 := by decide
  have ho := h.st.own.2.1
  have hs := cut_size h.st.grown.size
  have hr := h.st.rt.pushR (lo := lo) (by rw [hs]; exact World.ownsRow.mono h.row h.le) h.l1 (fun g hg => (h.row.lt g hg).1) h.l3 hg (by rw [hs]; exact ho')
  have hown := hr.own
  rw [hs] at hown
  refine ⟨h.cur.grownT hg (fun k hk => ⟨Nat.le_trans h.st.hW (ho.lt k hk).1, fun e => own_ne_blk ho hb hT (e ▸ hk)⟩), grownBy_farT h.st.grown hg (fun k hk => (ho.lt k hk).1), hr.box, hown, h.st.oge, ?_, h.st.rge, h.st.ne, h.st.hW⟩
  rw [hg.block rb (blk_lt h.st.res) (fun e => own_ne_blk ho h.st.res hT2 e.symm)]
  exact h.st.res
/-- A target's number is appended. -/
theorem DrT.pushY {W w0 wr w' : World} {p rb ob : Nat} {cs : Array Value} {T : Tab} {vs : List Value} {u1 u2 u3 : Value} {g3 n3 c3 : Nat} {x : Int} (h : DrT W w0 wr p rb ob cs T vs u1 u2 u3) (hg : wr.grownBy w' u3.ownBlock)
    (ho' : w'.ownsRow w0.heap.size 3 1 (.slice (some ⟨g3, 0, none⟩) n3 c3) (T.ys.length + 1) (intCells T.ys ++ [.int .i64 x])) (hat : u3.ownBlock = some g3 ∨ wr.heap.size ≤ g3) : DrT W w0 w' p rb ob cs ⟨T.ns, T.y, T.rs, T.ys ++ [x]⟩ vs u1 u2 (.slice (some ⟨g3, 0, none⟩) n3 c3) := by
  obtain ⟨cs', hb⟩ := h.cur.blkT
  have hT : 3 ≠ 87 := by decide
  have hT2 : 3 ≠ 28 := by decide
  have ho := h.own.2.2.2.1
  have hs := cut_size h.grown.size
  have hr := h.rt.pushY hg (by rw [hs]; exact ho') hat
  have hown := hr.own
  rw [hs] at hown
  refine ⟨h.cur.grownT hg (fun k hk => ⟨Nat.le_trans h.hW (ho.lt k hk).1, fun e => own_ne_blk ho hb hT (e ▸ hk)⟩), grownBy_farT h.grown hg (fun k hk => (ho.lt k hk).1), hr.box, hown, h.oge, ?_, h.rge, h.ne, h.hW⟩
  rw [hg.block rb (blk_lt h.res) (fun e => own_ne_blk ho h.res hT2 e.symm)]
  exact h.res
theorem blk_neT {w : World} {a b : Nat} {cs cs' : Array Value} {T T' : TypeId} (h : w.heap[a]? = some (.cells cs T (0, 0))) (hb : w.heap[b]? = some (.cells cs' T' (0, 0))) (hT : T ≠ T') : a ≠ b := by
  intro e
  rw [e, hb] at h
  injection h with h
  injection h with _ h
  exact hT h.symm
/-- The box of the table is written. -/
theorem DrT.set {W w0 wr : World} {p rb ob : Nat} {cs : Array Value} {T : Tab} {vs : List Value} {u1 u2 u3 : Value} (h : DrT W w0 wr p rb ob cs T vs u1 u2 u3) (i : Nat) (x : Value) : DrT W w0 (wr.setCell ⟨ob, i, none⟩ x) p rb ob (cs.setIfInBounds i x) T vs u1 u2 u3 := by
  obtain ⟨cs', hb⟩ := h.cur.blkT
  have hne : ob ≠ p := blk_neT h.box hb (by decide)
  have hg : wr.grownBy (wr.setCell ⟨ob, i, none⟩ x) (some ob) := grownBy_set _ _ _ _
  have hs := cut_size h.grown.size
  have hr := h.rt.set i x
  have hown := hr.own
  rw [hs] at hown
  have hge : ∀ k, some ob = some k → w0.heap.size ≤ k := fun k hk => by
    obtain rfl := Option.some.inj hk
    exact h.oge
  refine ⟨h.cur.grownT hg (fun k hk => ⟨Nat.le_trans h.hW (hge k hk), fun e => hne ((Option.some.inj hk).trans e)⟩), grownBy_farT h.grown hg hge, hr.box, hown, h.oge, ?_, h.rge, h.ne, h.hW⟩
  rw [hg.block rb (blk_lt h.res) (fun e => h.ne (Option.some.inj e))]
  exact h.res
theorem Cur.setD {W w : World} {p q : Nat} (h : Cur W w p) (hq : W.heap.size ≤ q) (hn : q ≠ p) (i : Nat) (x : Value) : Cur W (w.setCell ⟨q, i, none⟩ x) p :=
  h.grownT (grownBy_set _ _ _ _) (fun k hk => by
    obtain rfl := Option.some.inj hk
    exact ⟨hq, hn⟩)
/-- The result's box is written. -/
theorem DrT.exit {W w0 wr : World} {p rb ob : Nat} {cs : Array Value} {T : Tab} {vs : List Value} {u1 u2 u3 : Value} (h : DrT W w0 wr p rb ob cs T vs u1 u2 u3) (x0 x1 x2 x3 : Value) :
    TabOwn ((((wr.setCell ⟨rb, 0, none⟩ x0).setCell ⟨rb, 1, none⟩ x1).setCell ⟨rb, 2, none⟩ x2).setCell ⟨rb, 3, none⟩ x3) w0.heap.size T vs u1 u2 u3 ∧ Cur W ((((wr.setCell ⟨rb, 0, none⟩ x0).setCell ⟨rb, 1, none⟩ x1).setCell ⟨rb, 2, none⟩ x2).setCell ⟨rb, 3, none⟩ x3) p ∧
      w0.grownBy ((((wr.setCell ⟨rb, 0, none⟩ x0).setCell ⟨rb, 1, none⟩ x1).setCell ⟨rb, 2, none⟩ x2).setCell ⟨rb, 3, none⟩ x3) (some p) := by
  have N0 := h.own.ne h.res (by decide) (by decide) (by decide)
  obtain ⟨cs', hb⟩ := h.cur.blkT
  have hn : rb ≠ p := blk_neT h.res hb (by decide)
  have hW := Nat.le_trans h.hW h.rge
  have hge : ∀ k, some rb = some k → w0.heap.size ≤ k := fun k hk => by
    obtain rfl := Option.some.inj hk
    exact h.rge
  exact ⟨(((h.own.setN N0 0 _).setN N0 1 _).setN N0 2 _).setN N0 3 _, (((h.cur.setD hW hn 0 _).setD hW hn 1 _).setD hW hn 2 _).setD hW hn 3 _, grownBy_farT h.grown (grownBy_trans (grownBy_trans (grownBy_trans (grownBy_set _ rb _ _) (grownBy_set _ rb _ _)) (grownBy_set _ rb _ _)) (grownBy_set _ rb _ _)) hge⟩
end Go.Proofs.YticeagjonfifbaaGreatDoor
