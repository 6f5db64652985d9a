/-
  Mathematics: the grid of a table is right.
  Bins: what the reference answers, and what is drawn.
  The exact laws on sorted lists and cuts: the program's contracts are hypotheses.
  The reference's grid of a table: its early ends.
-/
import Derived.Test.YtgknkjiifcnkpaaGrdO
import Derived.Test.YtgknkjiifcnkpaaPk5
import Derived.Test.YtgknkjiifcnkpaaTabC
import Derived.Test.YtgknkjiifcnkpaaSrtV
import Derived.Test.YtgknkjiifcnkpaaDrawL
import Derived.Deep.LoopGhost
import Derived.Test.YtgknkjiifcnkpaaRowII
import Derived.Test.YtgknkjiifcnkpaaTabS
import Derived.Test.YtgknkjiifcnkpaaArgsB
namespace Go.Proofs.Ytgknkjiifcnkpaa
open Go.RowKit

/-- The bins of a column. -/
def binsZ (cuts vs : List Int) : List Int := vs.map (fun v => ((binZ cuts v : Nat) : Int))
/-- The grid of a table. -/
def gridZ (T : Tab) (b : Int) : Grd := if okT T = true ∧ inZ b 2 8 = true then
  ⟨(List.range T.ns.length).map (fun f => cutsZ (colT T (f : Nat)) b), (List.range T.ns.length).map (fun f => binsZ (cutsZ (colT T (f : Nat)) b) (colT T (f : Nat)))⟩ else ⟨[], []⟩
theorem cutsB_of {zs : List Int} (hs : zs.Pairwise (· < ·)) (hl : zs.length ≤ 7) (hv : ∀ x ∈ zs, valB x = true) : cutsB zs = true := by
  unfold cutsB
  rw [Bool.and_eq_true]
  refine ⟨range_all fun i hi => ?_, decide_eq_true hl⟩
  unfold okCuts
  have hd : zs.getD i 0 = zs[i] := getD_at (List.getElem?_eq_getElem hi)
  rw [Bool.and_eq_true]
  refine ⟨by rw [hd]; exact hv _ (List.getElem_mem hi), ?_⟩
  by_cases h0 : i = 0
  · subst h0; rfl
  · have hd1 : zs.getD (i - 1) 0 = zs[i - 1] := getD_at (List.getElem?_eq_getElem (by omega))
    rw [hd, hd1, Bool.or_eq_true]
    exact Or.inr (decide_eq_true (List.pairwise_iff_getElem.1 hs (i - 1) i (by omega) hi (by omega)))
theorem okT_parts {T : Tab} (h : okT T = true) : (1 ≤ T.ns.length ∧ T.ns.length ≤ 4) ∧ (1 ≤ T.rs.length ∧ T.rs.length ≤ 40) ∧ ∀ r ∈ T.rs, r.length = T.ns.length ∧ ∀ x ∈ r, valB x = true := by
  unfold okT headB at h
  simp only [Bool.and_eq_true] at h
  obtain ⟨⟨⟨⟨⟨⟨h1, _⟩, _⟩, h2⟩, _⟩, _⟩, h3⟩ := h
  have e1 := inZ_iff.1 h1
  have e2 := inZ_iff.1 h2
  refine ⟨by omega, by omega, fun r hr => ?_⟩
  obtain ⟨i, hi, rfl⟩ := List.getElem_of_mem hr
  have h4 := List.all_eq_true.1 h3 i (List.mem_range.2 hi)
  unfold rowAt at h4
  have hd : T.rs.getD i [] = T.rs[i] := getD_at (List.getElem?_eq_getElem hi)
  rw [hd] at h4
  simp only [Bool.and_eq_true] at h4
  exact ⟨of_decide_eq_true h4.1.1, fun x hx => List.all_eq_true.1 h4.2 x hx⟩
theorem colT_val {T : Tab} (h : okT T = true) {f : Nat} (hf : f < T.ns.length) : (colT T (f : Nat)).length = T.rs.length ∧ ∀ x ∈ colT T (f : Nat), valB x = true := by
  have hp := okT_parts h
  have hc : colT T (f : Nat) = T.rs.map (fun r => r.getD f 0) := by
    unfold colT
    rw [if_pos (by omega)]
    rfl
  rw [hc]
  refine ⟨List.length_map _, fun x hx => ?_⟩
  obtain ⟨r, hr, rfl⟩ := List.mem_map.1 hx
  have h2 := hp.2.2 r hr
  have hfr : f < r.length := by omega
  show valB (r.getD f 0) = true
  rw [getD_at (List.getElem?_eq_getElem hfr)]
  exact h2.2 _ (List.getElem_mem hfr)
theorem range_map_at {α : Type} {n i : Nat} (f : Nat → α) (hi : i < n) : ((List.range n).map f)[i]? = some (f i) := by
  rw [List.getElem?_map, List.getElem?_range hi]
  rfl
theorem gridZ_ok {T : Tab} {b : Int} (h : okT T = true) (hb : inZ b 2 8 = true) : okGr (gridZ T b) = true ∧ rowsIn (gridZ T b) = T.rs.length ∧ (gridZ T b).cs.length = T.ns.length := by
  have hp := okT_parts h
  unfold gridZ
  rw [if_pos ⟨h, hb⟩]
  have hr : rowsIn ⟨(List.range T.ns.length).map (fun f => cutsZ (colT T (f : Nat)) b), (List.range T.ns.length).map (fun f => binsZ (cutsZ (colT T (f : Nat)) b) (colT T (f : Nat)))⟩ = T.rs.length := by
    show (List.headD _ []).length = _
    rw [show ∀ (L : List (List Int)), L.headD [] = L.getD 0 [] from fun L => by cases L <;> rfl, getD_at (range_map_at _ (show 0 < T.ns.length by omega)), binsZ, List.length_map]
    exact (colT_val h (f := 0) (by omega)).1
  refine ⟨?_, hr, by simp⟩
  unfold okGr
  rw [hr]
  have e1 : inZ (T.ns.length : Int) 1 4 = true := inZ_iff.2 (by omega)
  have e2 : inZ (T.rs.length : Int) 1 40 = true := inZ_iff.2 (by omega)
  simp only [List.length_map, List.length_range, e1, e2, Bool.true_and, decide_true]
  refine range_all fun f hf => ?_
  have hc := colT_val h hf
  unfold colAt
  rw [hr, getD_at (range_map_at _ hf), getD_at (range_map_at _ hf)]
  simp only [Bool.and_eq_true]
  refine ⟨cutsB_of (cutsZ_srt _ _) (cutsZ_len _ _) (fun x hx => hc.2 x (cutsZ_mem hx).1), decide_eq_true (by rw [binsZ, List.length_map]; exact hc.1), List.all_eq_true.2 fun x hx => ?_⟩
  obtain ⟨v, _, rfl⟩ := List.mem_map.1 hx
  have := binZ_le (cutsZ (colT T (f : Nat)) b) v
  exact inZ_iff.2 (by omega)
theorem gridZ_no {T : Tab} {b : Int} (h : ¬ (okT T = true ∧ inZ b 2 8 = true)) : gridZ T b = ⟨[], []⟩ := if_neg h
end Go.Proofs.Ytgknkjiifcnkpaa
namespace Go.Proofs.Ytgknkjiifcnkpaa
open Go.RowKit

set_option maxRecDepth 100000 in
set_option maxHeartbeats 2000000 in
theorem specBinOf (zs : List Int) (v : Int) (u : Value) (w : World) (h : IntRow w u zs) :
    Calls Try.prog 19 #[u, .int .i64 v] w fun e w' => e = .returned (.int .i64 ((binZ zs v : Nat) : Int)) ∧ Below w.heap.size w w' := by
  obtain ⟨a, c, rfl, hl9, hcell⟩ := intRow_form h
  obtain ⟨n, hn⟩ : ∃ n : Nat, zs.length = n := ⟨_, rfl⟩
  have HE := Lib.hid hn
  have HC := Lib.hid hcell
  obtain ⟨r, hr⟩ : ∃ r, binZ zs v = r := ⟨_, rfl⟩
  have HR : Hid (binK zs v n = r) := Lib.hid (by rw [binK_all v hn]; exact hr)
  rw [hn] at hl9 ⊢
  rw [hr]
  clear h hcell hn hr
  go_enter Try.func19, Try.ntmps19
  go_wp2_with fail
  go_loopg [5, 6] n (fun g_ b_ i_ wr => ∃ j : Nat, g_ = n - j ∧ i_ = .int .i64 j ∧ j ≤ n ∧ b_ = .int .i64 ((binK zs v j : Nat) : Int) ∧ Below w.heap.size w wr)
  case atStart => exact ⟨0, rfl, rfl, Nat.zero_le _, rfl, Below.refl _ _⟩
  case round =>
    obtain ⟨j, rfl, rfl, hj, rfl, hB⟩ := hrel
    have hbl := binK_le zs v j
    by_cases hlt : j < n
    · have hj1 : (j : Int) < n := by omega
      have hj0 : (0 : Int) ≤ j := by omega
      obtain ⟨x, hx⟩ : ∃ x, zs[j]? = some x := ⟨_, List.getElem?_eq_getElem (by rw [HE.out]; exact hlt)⟩
      obtain ⟨b, off, rfl, hcz⟩ := HC.out j x hx
      have hcx := (hB.cell (p := ⟨b, off + j, none⟩) (World.block_lt_of_cell? w _ hcz)).trans hcz
      have hbs := binK_succ (v := v) hx
      generalize binK zs v j = m at hbs hbl ⊢
      have HBS := Lib.hid hbs
      clear hx hcz hbs
      by_cases hxv : x < v
      · go_wp2_with fail
        go_roundg (n - (j + 1))
        case measure => omega
        case rel => exact ⟨j + 1, rfl, by go_num, by omega, by rw [HBS.out, if_pos hxv]; go_num, hB⟩
      · have HXV := Lib.hid (Int.not_lt.1 hxv)
        go_wp2_with fail
        go_roundg (n - (j + 1))
        case measure => omega
        case rel => exact ⟨j + 1, rfl, by go_num, by omega, by rw [HBS.out, if_neg (Int.not_lt.2 HXV.out)]; rfl, hB⟩
    · have hj1 : ¬ (j : Int) < n := by omega
      have hjn : j = n := by omega
      rw [hjn, HR.out]
      go_wp2_with fail
      go_ret
      exact ⟨rfl, hB⟩
set_option maxRecDepth 100000 in
theorem drawBinOf (w : World) (v : Value) (n : Nat) (hb : Bytes w v n) :
    Calls Try.prog 17 #[v] w fun e w' => (∃ v L b, e = .returned (.tuple #[v, .int .i64 b]) ∧ w'.ownsRow w.heap.size 3 1 v L.length (intCells L) ∧ L.length ≤ 42) ∧ Below w.heap.size w w' := by
  go_enter Try.func17, Try.ntmps17
  go_wp2_with fail
  refine (l1New w v n hb).mono ?_
  rintro e w1 ⟨rfl, hc1, _⟩
  have hge := hc1.2.1.size
  go_wp2_with fail
  refine (l10List w w1 _ hc1).mono ?_
  rintro e w2 ⟨v2, L, rfl, hD, hl⟩
  have HD := Lib.hid hD
  clear hc1 hD
  go_wp2_with fail
  refine (l1WholeG w _ _ HD.out.cur).mono ?_
  rintro e w3 ⟨⟨z, z0, z1, rfl⟩, hc3, hg3⟩
  have HD3 := Lib.hid (HD.out.draw hc3 hg3)
  have hp3 := hc3.lt
  clear hc3 hg3 HD
  go_wp2_with fail
  refine (l1PickInt w _ _ w3.heap.size 6 (by omega) (by omega) (by omega) ?_ (HD3.out.cur.alloc _)).mono ?_
  · intro j hj
    have hb := alloc_blk w3 #[.int .i64 0, .int .i64 500, .int .i64 (-500), .int .i64 501, .int .i64 2000, .int .i64 z] 3
    rcases (by omega : j = 0 ∨ j = 1 ∨ j = 2 ∨ j = 3 ∨ j = 4 ∨ j = 5) with rfl | rfl | rfl | rfl | rfl | rfl
    · exact ⟨_, by decide, by decide, (cell_blk hb 0).trans rfl⟩
    · exact ⟨_, by decide, by decide, (cell_blk hb 1).trans rfl⟩
    · exact ⟨_, by decide, by decide, (cell_blk hb 2).trans rfl⟩
    · exact ⟨_, by decide, by decide, (cell_blk hb 3).trans rfl⟩
    · exact ⟨_, by decide, by decide, (cell_blk hb 4).trans rfl⟩
    · exact ⟨z, z0, z1, (cell_blk hb 5).trans rfl⟩
  rintro e w4 ⟨⟨y, y0, y1, rfl⟩, hc4, hg4⟩
  have HD4 := Lib.hid ((HD3.out.laid _).draw hc4 hg4)
  clear hc4 hg4 HD3
  go_wp2_with fail
  go_ret2
  exact ⟨⟨_, L, y, rfl, World.ownsRow.mono HD4.out.own hge, hl⟩, HD4.out.cur.2.1⟩
end Go.Proofs.Ytgknkjiifcnkpaa
namespace Go.Proofs.Ytgknkjiifcnkpaa
open Go.RowKit

def ImplCuts : Prop := ∀ (zs : List Int) (b : Int) (u : Value) (w : World), IntRow w u zs → zs.length ≤ 1048576 → Calls Try.prog 13 #[u, .int .i64 b] w fun e w' => (∃ v, e = .returned v ∧ w'.ownsRow w.heap.size 3 1 v (cutsZ zs b).length (intCells (cutsZ zs b))) ∧ Below w.heap.size w w'
def ImplCutsOk : Prop := ∀ (zs : List Int) (u : Value) (w : World), IntRow w u zs → zs.length ≤ 1048576 → Calls Try.prog 63 #[u] w fun e w' => e = .returned (.bool (cutsB zs)) ∧ Below w.heap.size w w'
end Go.Proofs.Ytgknkjiifcnkpaa
namespace Go.Proofs.Ytgknkjiifcnkpaa
open Go.RowKit

set_option maxRecDepth 100000 in
set_option maxHeartbeats 4000000 in
theorem specGridOf_no (T : Tab) (b : Int) (u1 u2 u3 : Value) (w : World) (h : TabRow w T u1 u2 u3) (hyl : T.y.length ≤ 9223372036854775807) (hnl : ∀ p ∈ T.ns, p.length ≤ 9223372036854775807) (hno : ¬ (okT T = true ∧ inZ b 2 8 = true)) :
    Calls Try.prog 23 #[.agg #[u1, .string ⟨T.y.toArray⟩, u2, u3], .int .i64 b] w fun e w' => e = .returned (.agg #[.slice none 0 0, .slice none 0 0]) ∧ Below w.heap.size w w' := by
  obtain ⟨a1, c1, a2, c2, a3, c3, rfl, rfl, rfl⟩ := h.form
  have hA := bt (bt (bl_al w (.cells #[.slice a1 T.ns.length c1, .string ⟨T.y.toArray⟩, .slice a2 T.rs.length c2, .slice a3 T.ys.length c3] 34)) (bl_al (w.alloc (.cells #[.slice a1 T.ns.length c1, .string ⟨T.y.toArray⟩, .slice a2 T.rs.length c2, .slice a3 T.ys.length c3] 34)) (.cells #[.slice none 0 0, .slice none 0 0] 38))) (bl_al ((w.alloc (.cells #[.slice a1 T.ns.length c1, .string ⟨T.y.toArray⟩, .slice a2 T.rs.length c2, .slice a3 T.ys.length c3] 34)).alloc (.cells #[.slice none 0 0, .slice none 0 0] 38)) (.cells #[.slice none 0 0, .slice none 0 0] 38))
  have x1 := blk_al (blk_al (alloc_blk w #[.slice a1 T.ns.length c1, .string ⟨T.y.toArray⟩, .slice a2 T.rs.length c2, .slice a3 T.ys.length c3] 34) (.cells #[.slice none 0 0, .slice none 0 0] 38)) (.cells #[.slice none 0 0, .slice none 0 0] 38)
  have x2 := blk_al (alloc_blk (w.alloc (.cells #[.slice a1 T.ns.length c1, .string ⟨T.y.toArray⟩, .slice a2 T.rs.length c2, .slice a3 T.ys.length c3] 34)) #[.slice none 0 0, .slice none 0 0] 38) (.cells #[.slice none 0 0, .slice none 0 0] 38)
  rw [sz_alloc] at x2
  have x3 := alloc_blk ((w.alloc (.cells #[.slice a1 T.ns.length c1, .string ⟨T.y.toArray⟩, .slice a2 T.rs.length c2, .slice a3 T.ys.length c3] 34)).alloc (.cells #[.slice none 0 0, .slice none 0 0] 38)) #[.slice none 0 0, .slice none 0 0] 38
  rw [sz_alloc, sz_alloc] at x3
  have H1 := h.below hA
  have X2 := Lib.hid x2
  have X3 := Lib.hid x3
  have HA := Lib.hid hA
  have p0 := cell_blk x1 0
  have pf0 := free_blk x1 0
  have p1 := cell_blk x1 1
  have pf1 := free_blk x1 1
  have p2 := cell_blk x1 2
  have pf2 := free_blk x1 2
  have p3 := cell_blk x1 3
  have pf3 := free_blk x1 3
  have lp := blk_lt x1
  clear x1 x2 x3 hA h
  obtain ⟨o, ho⟩ : ∃ o, okT T = o := ⟨_, rfl⟩
  have KT := Lib.hid (fun W (hW : TabRow W T (.slice a1 T.ns.length c1) (.slice a2 T.rs.length c2) (.slice a3 T.ys.length c3)) => specTableOk T _ _ _ W hW hyl hnl o ho)
  cases o with
  | false =>
    clear hno ho
    go_enter Try.func23, Try.ntmps23
    go_wp2_with fail
    refine (KT.out _ H1).mono ?_
    rintro e w1 ⟨rfl, B1⟩
    have hC := bt HA.out B1
    have y2 := blk_next X2.out B1
    have y3 := blk_next X3.out B1
    have r0 := cell_blk y2 0
    have rf0 := free_blk y2 0
    have r1 := cell_blk y2 1
    have rf1 := free_blk y2 1
    have lr := blk_lt y2
    have q0 := cell_blk y3 0
    have qf0 := free_blk y3 0
    have q1 := cell_blk y3 1
    have qf1 := free_blk y3 1
    have lq := blk_lt y3
    have HC6 := Lib.hid ((hC.setCell (p := ⟨w.heap.size + 1, 0, none⟩) (by simp) (.slice none 0 0)).setCell (p := ⟨w.heap.size + 1, 1, none⟩) (by simp) (.slice none 0 0))
    clear y2 y3 hC B1
    go_wp2_with fail
    refine bodyPost_ret (v := .agg #[.slice none 0 0, .slice none 0 0]) ?_ rfl ⟨rfl, HC6.out⟩
    rw [res_one rfl]
    go_simp
  | true =>
    have hb : inZ b 2 8 = false := by
      cases e : inZ b 2 8 with
      | false => rfl
      | true => exact absurd ⟨ho, e⟩ hno
    clear hno ho
    go_enter Try.func23, Try.ntmps23
    go_wp2_with fail
    refine (KT.out _ H1).mono ?_
    rintro e w1 ⟨rfl, B1⟩
    have hC := bt HA.out B1
    have y2 := blk_next X2.out B1
    have y3 := blk_next X3.out B1
    have r0 := cell_blk y2 0
    have rf0 := free_blk y2 0
    have r1 := cell_blk y2 1
    have rf1 := free_blk y2 1
    have lr := blk_lt y2
    have q0 := cell_blk y3 0
    have qf0 := free_blk y3 0
    have q1 := cell_blk y3 1
    have qf1 := free_blk y3 1
    have lq := blk_lt y3
    have HC6 := Lib.hid ((hC.setCell (p := ⟨w.heap.size + 1, 0, none⟩) (by simp) (.slice none 0 0)).setCell (p := ⟨w.heap.size + 1, 1, none⟩) (by simp) (.slice none 0 0))
    clear y2 y3 hC B1
    go_wp2_with fail
    refine (specIn9 _ _ _ _).mono ?_
    rintro e w2 ⟨rfl, rfl⟩
    rw [hb]
    go_wp2_with fail
    refine bodyPost_ret (v := .agg #[.slice none 0 0, .slice none 0 0]) ?_ rfl ⟨rfl, HC6.out⟩
    rw [res_one rfl]
    go_simp
end Go.Proofs.Ytgknkjiifcnkpaa
