/-
  Grids: the laws' own helpers, and the reference's RowsIn.
-/
import Derived.Test.YtgknkjiifcnkpaaRowII
import Derived.Test.YtgknkjiifcnkpaaTabS
import Derived.Laws.ResultCell
namespace Go.Proofs.Ytgknkjiifcnkpaa
open Go.RowKit

/-- A grid: cuts and bins. -/
structure Grd where
  cs : List (List Int)
  bs : List (List Int)
def GrdRow (w : World) (G : Grd) (u1 u2 : Value) : Prop := IIRow w u1 G.cs ∧ IIRow w u2 G.bs
theorem GrdRow.below {w w' : World} {G : Grd} {u1 u2 : Value} (h : GrdRow w G u1 u2) (hB : Below w.heap.size w w') : GrdRow w' G u1 u2 := ⟨h.1.below hB, h.2.below hB⟩
theorem GrdRow.form {w : World} {G : Grd} {u1 u2 : Value} (h : GrdRow w G u1 u2) : ∃ a1 c1 a2 c2, u1 = .slice a1 G.cs.length c1 ∧ u2 = .slice a2 G.bs.length c2 := by
  obtain ⟨a1, c1, rfl, _⟩ := iiRow_form h.1
  obtain ⟨a2, c2, rfl, _⟩ := iiRow_form h.2
  exact ⟨a1, c1, a2, c2, rfl, rfl⟩
def GrdOwn (w : World) (base : Nat) (G : Grd) (u1 u2 : Value) : Prop := IIOwn w base u1 G.cs ∧ IIOwn w base u2 G.bs
def szGr (G : Grd) : Nat := (G.cs.length + szLI G.cs) + (G.bs.length + szLI G.bs)
theorem szGr_le {G : Grd} {m : Nat} (h : szGr G ≤ m) : (G.cs.length ≤ m ∧ ∀ r ∈ G.cs, r.length ≤ m) ∧ (G.bs.length ≤ m ∧ ∀ r ∈ G.bs, r.length ≤ m) := by
  unfold szGr at h
  refine ⟨⟨by omega, fun r hr => ?_⟩, by omega, fun r hr => ?_⟩
  · have := szLI_mem hr
    omega
  · have := szLI_mem hr
    omega
theorem GrdOwn.row {w : World} {base : Nat} {G : Grd} {u1 u2 : Value} (h : GrdOwn w base G u1 u2) (hs : szGr G ≤ 1048576) : GrdRow w G u1 u2 := by
  have hz := szGr_le hs
  exact ⟨h.1.row (by have := hz.1.1; omega) (fun r hr => by have := hz.1.2 r hr; omega), h.2.row (by have := hz.2.1; omega) (fun r hr => by have := hz.2.2 r hr; omega)⟩
set_option maxRecDepth 100000 in
theorem szGrid_ok (G : Grd) (u1 u2 : Value) (w : World) (h : GrdRow w G u1 u2) (left : Nat) (hleft : left ≤ 1048576) (m : Nat) (hm : left = szGr G + m) :
    Calls Try.prog 38 #[.agg #[u1, u2], .int .i64 left] w fun e w' => e = .returned (.int .i64 (m : Int)) ∧ Below w.heap.size w w' := by
  obtain ⟨a1, c1, a2, c2, rfl, rfl⟩ := h.form
  have hA := bl_al w (.cells #[.slice a1 G.cs.length c1, .slice a2 G.bs.length c2] 52)
  have hx := alloc_blk w #[.slice a1 G.cs.length c1, .slice a2 G.bs.length c2] 52
  have h1 := h.1.below hA
  have h2 := h.2.below hA
  have p0 := cell_blk hx 0
  have p1 := cell_blk hx 1
  have lp := blk_lt hx
  clear hx h
  unfold szGr at hm
  obtain ⟨m1, hm1⟩ : ∃ m1, left = G.cs.length + szLI G.cs + m1 := ⟨left - (G.cs.length + szLI G.cs), by omega⟩
  have H1 := Lib.hid (szII_ok _ _ left G.cs h1 hleft m1 hm1)
  have H2 := Lib.hid (szII_ok _ _ m1 G.bs h2 (by omega) m (by omega))
  have n1 : ¬ (m1 : Int) < 0 := by omega
  have n2 : ¬ (m : Int) < 0 := by omega
  clear h1 h2 hm hm1
  go_enter Try.func38, Try.ntmps38
  go_wp2_with fail
  refine H1.out.mono ?_
  rintro e w1 ⟨rfl, rfl⟩
  go_wp2_with fail
  refine H2.out.mono ?_
  rintro e w2 ⟨rfl, rfl⟩
  go_wp2_with fail
  go_ret
  exact ⟨rfl, hA⟩
set_option maxRecDepth 100000 in
theorem szGrid_no (G : Grd) (u1 u2 : Value) (w : World) (h : GrdRow w G u1 u2) (left : Nat) (hleft : left ≤ 1048576) (hf : left < szGr G) :
    Calls Try.prog 38 #[.agg #[u1, u2], .int .i64 left] w fun e w' => e = .returned (.int .i64 (-1)) ∧ Below w.heap.size w w' := by
  obtain ⟨a1, c1, a2, c2, rfl, rfl⟩ := h.form
  have hA := bl_al w (.cells #[.slice a1 G.cs.length c1, .slice a2 G.bs.length c2] 52)
  have hx := alloc_blk w #[.slice a1 G.cs.length c1, .slice a2 G.bs.length c2] 52
  have h1 := h.1.below hA
  have h2 := h.2.below hA
  have p0 := cell_blk hx 0
  have p1 := cell_blk hx 1
  have lp := blk_lt hx
  clear hx h
  unfold szGr at hf
  by_cases hc : left < G.cs.length + szLI G.cs
  · have H1 := Lib.hid (szII_no _ _ left G.cs h1 hleft hc)
    clear h1 h2 hf hc
    go_enter Try.func38, Try.ntmps38
    go_wp2_with fail
    refine H1.out.mono ?_
    rintro e w1 ⟨rfl, rfl⟩
    go_wp2_with fail
    go_ret
    exact ⟨rfl, hA⟩
  · obtain ⟨m1, hm1⟩ : ∃ m1, left = G.cs.length + szLI G.cs + m1 := ⟨left - (G.cs.length + szLI G.cs), by omega⟩
    have H1 := Lib.hid (szII_ok _ _ left G.cs h1 hleft m1 hm1)
    have H2 := Lib.hid (szII_no _ _ m1 G.bs h2 (by omega) (by omega))
    have n1 : ¬ (m1 : Int) < 0 := by omega
    clear h1 h2 hf hc hm1
    go_enter Try.func38, Try.ntmps38
    go_wp2_with fail
    refine H1.out.mono ?_
    rintro e w1 ⟨rfl, rfl⟩
    go_wp2_with fail
    refine H2.out.mono ?_
    rintro e w2 ⟨rfl, rfl⟩
    go_wp2_with fail
    go_ret
    exact ⟨rfl, hA⟩
set_option maxRecDepth 100000 in
theorem eqGr (G : Grd) (u1 u2 v1 v2 : Value) (w : World) (h : GrdRow w G u1 u2) (k : GrdRow w G v1 v2) :
    Calls Try.prog 33 #[.agg #[u1, u2], .agg #[v1, v2]] w fun e w' => e = .returned (.bool true) ∧ Below w.heap.size w w' := by
  obtain ⟨a1, c1, a2, c2, rfl, rfl⟩ := h.form
  obtain ⟨d1, e1, d2, e2, rfl, rfl⟩ := k.form
  have hA := bt (bl_al w (.cells #[.slice a1 G.cs.length c1, .slice a2 G.bs.length c2] 38)) (bl_al _ (.cells #[.slice d1 G.cs.length e1, .slice d2 G.bs.length e2] 38))
  have hx := blk_al (alloc_blk w #[.slice a1 G.cs.length c1, .slice a2 G.bs.length c2] 38) (.cells #[.slice d1 G.cs.length e1, .slice d2 G.bs.length e2] 38)
  have hy := alloc_blk (w.alloc (.cells #[.slice a1 G.cs.length c1, .slice a2 G.bs.length c2] 38)) #[.slice d1 G.cs.length e1, .slice d2 G.bs.length e2] 38
  rw [sz_alloc] at hy
  have h1 := Lib.hid (h.below hA)
  have k1 := Lib.hid (k.below hA)
  have HX := Lib.hid hx
  have HY := Lib.hid hy
  have p0 := cell_blk hx 0
  have p1 := cell_blk hx 1
  have q0 := cell_blk hy 0
  have q1 := cell_blk hy 1
  have lp := blk_lt hx
  have lq := blk_lt hy
  have HA := Lib.hid hA
  clear hx hy h k hA
  go_enter Try.func33, Try.ntmps33
  go_wp2_with fail
  refine (eqII _ _ _ G.cs h1.out.1 k1.out.1).mono ?_
  rintro e w1 ⟨rfl, z1, hz1⟩
  have B1 : Below ((w.alloc (.cells #[.slice a1 G.cs.length c1, .slice a2 G.bs.length c2] 38)).alloc (.cells #[.slice d1 G.cs.length e1, .slice d2 G.bs.length e2] 38)).heap.size ((w.alloc (.cells #[.slice a1 G.cs.length c1, .slice a2 G.bs.length c2] 38)).alloc (.cells #[.slice d1 G.cs.length e1, .slice d2 G.bs.length e2] 38)) w1 := hz1 ▸ below_drewN2 (Below.refl _ _) z1
  have HX1 := blk_next HX.out B1
  have HY1 := blk_next HY.out B1
  have h2 := Lib.hid (h1.out.below B1)
  have k2 := Lib.hid (k1.out.below B1)
  have HB := Lib.hid (bt HA.out B1)
  clear hz1 B1 p0 p1 q0 q1 lp lq
  have p0 := cell_blk HX1 0
  have p1 := cell_blk HX1 1
  have q0 := cell_blk HY1 0
  have q1 := cell_blk HY1 1
  have lp := blk_lt HX1
  have lq := blk_lt HY1
  clear HX1 HY1
  go_wp2_with fail
  refine (eqII _ _ _ G.bs h2.out.2 k2.out.2).mono ?_
  rintro e w2 ⟨rfl, z2, hz2⟩
  have B2 : Below w1.heap.size w1 w2 := hz2 ▸ below_drewN2 (Below.refl _ _) z2
  clear hz2
  go_wp2_with fail
  go_ret
  exact ⟨rfl, bt HB.out B2⟩

theorem IIOwn.setBox {w : World} {base cb : Nat} {v : Value} {L : List (List Int)} {T' : TypeId} {cs : Array Value} (h : IIOwn w base v L) (hb : w.heap[cb]? = some (.cells cs T' (0, 0))) (h1 : (24 : TypeId) ≠ T') (h2 : (3 : TypeId) ≠ T') (i : Nat) (x : Value) : IIOwn (w.setCell ⟨cb, i, none⟩ x) base v L := by
  obtain ⟨vs, ho, hr⟩ := h
  exact ⟨vs, ownsRow_setCell_other ho (own_ne_blk ho hb h1) _, hr.setBox hb h2 i x⟩
theorem IIOwn.low {w : World} {base base' : Nat} {v : Value} {L : List (List Int)} (h : IIOwn w base v L) (hb : base' ≤ base) : IIOwn w base' v L := by
  obtain ⟨vs, ho, hr⟩ := h
  exact ⟨vs, World.ownsRow.mono ho hb, hr.mono hb⟩
theorem IIOwn.form {w : World} {base : Nat} {v : Value} {L : List (List Int)} (h : IIOwn w base v L) : ∃ a c, v = .slice a L.length c := by
  obtain ⟨vs, ho, hr⟩ := h
  exact owns_form ho
structure GbS (wr : World) (n : Nat) (P R L : Array Value) : Prop where
  pb : wr.heap[n]? = some (.cells P 52 (0, 0))
  rb : wr.heap[n + 1]? = some (.cells R 38 (0, 0))
  lb : wr.heap[n + 1 + 1]? = some (.cells L 38 (0, 0))
theorem GbS.next {wr w' : World} {n : Nat} {P R L : Array Value} (h : GbS wr n P R L) (hB : Below wr.heap.size wr w') : GbS w' n P R L := ⟨blk_next h.pb hB, blk_next h.rb hB, blk_next h.lb hB⟩
theorem GbS.setL {wr : World} {n : Nat} {P R L : Array Value} (h : GbS wr n P R L) (i : Nat) (x : Value) : GbS (wr.setCell ⟨n + 1 + 1, i, none⟩ x) n P R (L.setIfInBounds i x) :=
  ⟨(heap_setCell_other _ _ _ _ (by simp; omega)).trans h.pb, (heap_setCell_other _ _ _ _ (by simp)).trans h.rb, heap_setCell_same _ _ _ _ _ _ h.lb⟩
theorem GbS.setR {wr : World} {n : Nat} {P R L : Array Value} (h : GbS wr n P R L) (i : Nat) (x : Value) : GbS (wr.setCell ⟨n + 1, i, none⟩ x) n P (R.setIfInBounds i x) L :=
  ⟨(heap_setCell_other _ _ _ _ (by simp)).trans h.pb, heap_setCell_same _ _ _ _ _ _ h.rb, (heap_setCell_other _ _ _ _ (by simp)).trans h.lb⟩
set_option maxRecDepth 100000 in
theorem toGr (G : Grd) (u1 u2 : Value) (w : World) (h : GrdRow w G u1 u2) (hs : szGr G ≤ 1048576) :
    Calls Try.prog 39 #[.agg #[u1, u2]] w fun e w' => (∃ v1 v2, e = .returned (.agg #[v1, v2]) ∧ GrdOwn w' w.heap.size G v1 v2) ∧ Below w.heap.size w w' := by
  obtain ⟨a1, c1, a2, c2, rfl, rfl⟩ := h.form
  have hz := szGr_le hs
  have hA := bt (bt (bl_al w (.cells #[.slice a1 G.cs.length c1, .slice a2 G.bs.length c2] 52)) (bl_al (w.alloc (.cells #[.slice a1 G.cs.length c1, .slice a2 G.bs.length c2] 52)) (.cells #[.slice none 0 0, .slice none 0 0] 38))) (bl_al ((w.alloc (.cells #[.slice a1 G.cs.length c1, .slice a2 G.bs.length c2] 52)).alloc (.cells #[.slice none 0 0, .slice none 0 0] 38)) (.cells #[.slice none 0 0, .slice none 0 0] 38))
  have hT0 : GbS (((w.alloc (.cells #[.slice a1 G.cs.length c1, .slice a2 G.bs.length c2] 52)).alloc (.cells #[.slice none 0 0, .slice none 0 0] 38)).alloc (.cells #[.slice none 0 0, .slice none 0 0] 38)) w.heap.size #[.slice a1 G.cs.length c1, .slice a2 G.bs.length c2] #[.slice none 0 0, .slice none 0 0] #[.slice none 0 0, .slice none 0 0] := by
    refine ⟨blk_al (blk_al (alloc_blk w _ _) _) _, ?_, ?_⟩
    · have := blk_al (alloc_blk (w.alloc (.cells #[.slice a1 G.cs.length c1, .slice a2 G.bs.length c2] 52)) #[.slice none 0 0, .slice none 0 0] 38) (.cells #[.slice none 0 0, .slice none 0 0] 38)
      simpa using this
    · have := alloc_blk ((w.alloc (.cells #[.slice a1 G.cs.length c1, .slice a2 G.bs.length c2] 52)).alloc (.cells #[.slice none 0 0, .slice none 0 0] 38)) #[.slice none 0 0, .slice none 0 0] 38
      simpa using this
  have h1 := h.1.below hA
  have HA := Lib.hid hA
  have HT0 := Lib.hid hT0
  have HH := Lib.hid h
  have hsz := hA.size
  clear hA h
  have p0 := cell_blk hT0.pb 0
  have pf0 := free_blk hT0.pb 0
  have p1 := cell_blk hT0.pb 1
  have pf1 := free_blk hT0.pb 1
  have q0 := cell_blk hT0.lb 0
  have qf0 := free_blk hT0.lb 0
  have q1 := cell_blk hT0.lb 1
  have qf1 := free_blk hT0.lb 1
  have r0 := cell_blk hT0.rb 0
  have rf0 := free_blk hT0.rb 0
  have r1 := cell_blk hT0.rb 1
  have rf1 := free_blk hT0.rb 1
  have lp := blk_lt hT0.pb
  have lq := blk_lt hT0.lb
  have lr := blk_lt hT0.rb
  clear hT0
  go_enter Try.func39, Try.ntmps39
  go_wp2_with fail
  refine (toII _ _ G.cs h1 hz.1.1 hz.1.2).mono ?_
  rintro e w1 ⟨v1, rfl, ho1, hB1⟩
  obtain ⟨b1, d1, rfl⟩ := ho1.form
  have hT1 := HT0.out.next hB1
  have hC1 := bt HA.out hB1
  have o1 := (ho1.low hsz).setBox hT1.lb (by decide) (by decide) 0 (.slice b1 G.cs.length d1)
  have hT2 := hT1.setL 0 (.slice b1 G.cs.length d1)
  have hC2 := hC1.setCell (p := ⟨w.heap.size + 1 + 1, 0, none⟩) (by simp; omega) (.slice b1 G.cs.length d1)
  have h2 := HH.out.2.below hC2
  clear p0 p1 q0 q1 r0 r1 pf0 pf1 qf0 qf1 rf0 rf1 lp lq lr h1
  have p0 := cell_blk hT1.pb 0
  have pf0 := free_blk hT1.pb 0
  have p1 := cell_blk hT1.pb 1
  have pf1 := free_blk hT1.pb 1
  have q0 := cell_blk hT1.lb 0
  have qf0 := free_blk hT1.lb 0
  have q1 := cell_blk hT1.lb 1
  have qf1 := free_blk hT1.lb 1
  have r0 := cell_blk hT1.rb 0
  have rf0 := free_blk hT1.rb 0
  have r1 := cell_blk hT1.rb 1
  have rf1 := free_blk hT1.rb 1
  have lp := blk_lt hT1.pb
  have lq := blk_lt hT1.lb
  have lr := blk_lt hT1.rb
  have HT2 := Lib.hid hT2
  have O1 := Lib.hid o1
  have HC2 := Lib.hid hC2
  have hsz2 := hC2.size
  clear hT1 hT2 o1 hC1 hC2 ho1 hB1
  go_wp2_with fail
  refine (toII _ _ G.bs h2 hz.2.1 hz.2.2).mono ?_
  rintro e w2 ⟨v2, rfl, ho2, hB2⟩
  obtain ⟨b2, d2, rfl⟩ := ho2.form
  have hT3 := HT2.out.next hB2
  have hC3 := bt HC2.out hB2
  have x1 := ((O1.out.below hB2).setBox hT3.lb (by decide) (by decide) 1 (.slice b2 G.bs.length d2))
  have x2 := ((ho2.low hsz2).setBox hT3.lb (by decide) (by decide) 1 (.slice b2 G.bs.length d2))
  have hT4 := hT3.setL 1 (.slice b2 G.bs.length d2)
  have y1 := x1.setBox hT4.rb (by decide) (by decide) 0 (.slice b1 G.cs.length d1)
  have y2 := x2.setBox hT4.rb (by decide) (by decide) 0 (.slice b1 G.cs.length d1)
  have hT5 := hT4.setR 0 (.slice b1 G.cs.length d1)
  have z1 := y1.setBox hT5.rb (by decide) (by decide) 1 (.slice b2 G.bs.length d2)
  have z2 := y2.setBox hT5.rb (by decide) (by decide) 1 (.slice b2 G.bs.length d2)
  have hC6 := ((hC3.setCell (p := ⟨w.heap.size + 1 + 1, 1, none⟩) (by simp; omega) (.slice b2 G.bs.length d2)).setCell (p := ⟨w.heap.size + 1, 0, none⟩) (by simp) (.slice b1 G.cs.length d1)).setCell (p := ⟨w.heap.size + 1, 1, none⟩) (by simp) (.slice b2 G.bs.length d2)
  clear p0 p1 q0 q1 r0 r1 pf0 pf1 qf0 qf1 rf0 rf1 lp lq lr h2
  have p0 := cell_blk hT3.pb 0
  have pf0 := free_blk hT3.pb 0
  have p1 := cell_blk hT3.pb 1
  have pf1 := free_blk hT3.pb 1
  have q0 := cell_blk hT3.lb 0
  have qf0 := free_blk hT3.lb 0
  have q1 := cell_blk hT3.lb 1
  have qf1 := free_blk hT3.lb 1
  have r0 := cell_blk hT3.rb 0
  have rf0 := free_blk hT3.rb 0
  have r1 := cell_blk hT3.rb 1
  have rf1 := free_blk hT3.rb 1
  have lp := blk_lt hT3.pb
  have lq := blk_lt hT3.lb
  have lr := blk_lt hT3.rb
  have Z1 := Lib.hid z1
  have Z2 := Lib.hid z2
  have HC6 := Lib.hid hC6
  clear hT3 hT4 hT5 x1 x2 y1 y2 z1 z2 hC3 hC6 ho2 hB2
  go_wp2_with fail
  refine bodyPost_ret (v := .agg #[.slice b1 G.cs.length d1, .slice b2 G.bs.length d2]) ?_ rfl ⟨⟨_, _, rfl, Z1.out, Z2.out⟩, HC6.out⟩
  rw [res_one rfl]
  go_simp
end Go.Proofs.Ytgknkjiifcnkpaa
