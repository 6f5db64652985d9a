/-
  The reading of a table: the reference's way, the main part.
-/
import Derived.Test.YticeagjonfifbaaGreatDoorTabW
import Derived.Test.YticeagjonfifbaaGreatDoorPk6
import Derived.Test.YticeagjonfifbaaGreatDoorTabX
import Derived.Test.YticeagjonfifbaaGreatDoorFixR
import Derived.Deep.AppendLies
import Derived.Deep.DeepCutAuto
namespace Go.Proofs.YticeagjonfifbaaGreatDoor
open Go.RowKit

/-- The table that the rows say, or the fault. -/
def tabG (N : List (List UInt8)) (n : Nat) (y : List UInt8) : ((List (List Int) × List Int) ⊕ (Nat × Nat × Nat)) → Tab × Nat × Nat × Nat
  | .inl (R, Y) => (⟨N.take n, y, R, Y⟩, 0, 0, 0)
  | .inr (c, i, k) => (zeroT, c, i, k)
abbrev HdN (w3 : World) (b k : Nat) (y : List UInt8) (w' : World) : Prop := w'.cell? ⟨b, k, none⟩ = some (.string ⟨y.toArray⟩) ∧ Below w3.heap.size w3 w'
theorem HdN.of {w3 w' : World} {b k : Nat} {y : List UInt8} (h : w3.cell? ⟨b, k, none⟩ = some (.string ⟨y.toArray⟩)) (hB : Below w3.heap.size w3 w') : HdN w3 b k y w' := ⟨(hB.cell (World.block_lt_of_cell? w3 _ h)).trans h, hB⟩
theorem takeV_at {α : Type} {L : List α} {n q : Nat} {p : α} (h : (L.take n)[q]? = some p) : L[q]? = some p := by
  rw [List.getElem?_take] at h
  split at h
  · exact h
  · cases h
theorem addr_addV (g j : Nat) : (⟨g, 0, none⟩ : Addr).add j = ⟨g, j, none⟩ := by unfold Addr.add; split <;> simp_all
theorem intCells_cell (L : List Int) : ∀ u ∈ intCells L, u.oneCell' = true := by
  intro y hy
  obtain ⟨q, _, rfl⟩ := List.mem_map.1 hy
  rfl
theorem tab_at {D T : Tab} {c i k : Nat} {w : World} {base : Nat} {vs : List Value} {u1 u2 u3 : Value} (h : (D, 0, 0, 0) = (T, c, i, k)) (ho : TabOwn w base D vs u1 u2 u3) (l1 : D.ns.length ≤ 9223372036854775807) (l2 : D.rs.length ≤ 9223372036854775807) (l3 : D.ys.length ≤ 9223372036854775807) (l4 : ∀ r ∈ D.rs, r.length ≤ 9223372036854775807) : RtAt T c i k (.returned (.tuple #[.agg #[u1, .string ⟨D.y.toArray⟩, u2, u3], .agg #[.int .i64 0, .int .i64 0, .int .i64 0]])) w := by
  simp only [Prod.mk.injEq] at h
  obtain ⟨rfl, rfl, rfl, rfl⟩ := h
  exact ⟨_, _, _, rfl, ho.row l1 l2 l4 l3⟩
theorem tabV_main {N : List (List UInt8)} {t : List (List (List UInt8))} {n : Nat} {y : List UInt8} (h : (headF N).1 = 0) (hi : inZ (t.length : Int) 1 40 = true) (hn : N.length = n + 1) (hy : N[n]? = some y) : tabV (N :: t) = tabG N n y (rowsG n t 1 [] []) := by
  have hyg : N.getD n [] = y := by rw [List.getD_eq_getElem?_getD, hy]; rfl
  rw [tabV, if_pos h, if_pos hi, hn, Nat.add_sub_cancel, hyg]
  cases rowsG n t 1 [] [] with
  | inl q => rfl
  | inr q => rfl
set_option maxRecDepth 100000 in
set_option maxHeartbeats 8000000 in
theorem specReadTable_main (s : ByteArray) (w : World) (T : Tab) (c2 i2 k2 : Nat) (hr : readT s.data.toList = (T, c2, i2, k2)) {N : List (List UInt8)} {t : List (List (List UInt8))} {i k : Nat} (hq : csvQ s.data.toList = (N :: t, 0, i, k)) (hnl : ∀ r ∈ N :: t, ∀ p ∈ r, p.length ≤ 9223372036854775807) (hh : (headF N).1 = 0) (hi40 : inZ (t.length : Int) 1 40 = true) :
    Calls Tryz.prog 15 #[.string s] w fun e w' => RtAt T c2 i2 k2 e w' ∧ Below w.heap.size w w' := by
  obtain ⟨iS, gk, gx0, gx1, gx2⟩ := info_parts infoStr
  obtain ⟨iI, gi, gz0, gz1, gz2⟩ := info_parts infoInt
  obtain ⟨iL, gj, gy0, gy1, gy2⟩ := info_parts infoSlI
  have hoH := headF_ok hh
  obtain ⟨n, hn⟩ : ∃ n, N.length = n + 1 := ⟨N.length - 1, by omega⟩
  have hn4 : 1 ≤ n ∧ n ≤ 4 := by omega
  have HLN := Lib.hid hnl
  have HI := Lib.hid hi40
  have ht40 := inZ_iff.1 hi40
  have HNn := Lib.hid hn
  obtain ⟨y, hy⟩ : ∃ y, N[n]? = some y := ⟨_, List.getElem?_eq_getElem (by omega)⟩
  obtain ⟨G, hG⟩ : ∃ G, rowsG n t 1 [] [] = G := ⟨_, rfl⟩
  have hTV : readT s.data.toList = tabG N n y G := by rw [readT_rows hq, tabV_main hh hi40 hn hy, hG]
  have HTV := Lib.hid hTV
  have HLR : Hid (∀ R Y, G = .inl (R, Y) → ∀ r ∈ R, r.length ≤ 9223372036854775807) := Lib.hid (fun R Y hRY r hr => by
    have k := rowsG_ok (hG.trans hRY) (by simp) rfl
    have := (k.2.2.1 r hr).1
    omega)
  have HG := Lib.hid hG
  have HY := Lib.hid hy
  clear hnl hi40 hoH hG hTV
  have HR := Lib.hid hr
  clear hr
  have HC : Hid (∀ W, Calls Tryz.prog 45 #[.string s] W fun e w' => (∃ v, e = .returned (.tuple #[v, .agg #[.int .i64 (0 : Int), .int .i64 (i : Int), .int .i64 (k : Int)]]) ∧ SSOwn w' W.heap.size v (N :: t)) ∧ Below W.heap.size W w') := Lib.hid (fun W => (specReadCsv s W).mono fun e w' ⟨⟨v, he, ho⟩, hB⟩ => by
    rw [hq] at he ho
    exact ⟨⟨v, he, ho⟩, hB⟩)
  have HQ := Lib.hid hq
  clear hq
  have hA := bt (bl_al w (.cells #[.slice none 0 0, .string ⟨#[]⟩, .slice none 0 0, .slice none 0 0] 28)) (bl_al _ (.cells #[.int .i64 0, .int .i64 0, .int .i64 0] 33))
  have x0 := blk_al (alloc_blk w #[.slice none 0 0, .string ⟨#[]⟩, .slice none 0 0, .slice none 0 0] 28) (.cells #[.int .i64 0, .int .i64 0, .int .i64 0] 33)
  have x1 := alloc_blk (w.alloc (.cells #[.slice none 0 0, .string ⟨#[]⟩, .slice none 0 0, .slice none 0 0] 28)) #[.int .i64 0, .int .i64 0, .int .i64 0] 33
  simp only [sz_alloc] at x1
  go_enter Tryz.func15, Tryz.ntmps15
  go_wp2_with fail
  refine (HC.out _).mono ?_
  rintro e w1 ⟨⟨v, rfl, ho⟩, hB⟩
  obtain ⟨va, vc, rfl⟩ : ∃ a c, v = .slice a (t.length + 1) c := by
    obtain ⟨vs, h1, _⟩ := ho
    exact owns_form h1
  have X0 := Lib.hid (blk_next x0 hB)
  have X1 := Lib.hid (blk_next x1 hB)
  have B01 := Lib.hid (bt hA hB)
  have HO := Lib.hid ho
  clear x0 x1 hA hB ho
  have hsz := B01.out.size
  have hln : (0 : Int) < (t.length : Int) + 1 := by omega
  have hln0 : ¬ (t.length : Int) + 1 = 0 := by omega
  obtain ⟨_, _, hav, hlen, hfr⟩ := ssRow_form HO.out.rowT
  have htl : t.length + 1 ≤ 9223372036854775807 := hlen
  clear hlen
  injection hav with hav1 hav2 hav3
  clear hav2
  subst hav1
  subst hav3
  obtain ⟨br, off, u, rfl, hcu, hsn⟩ := hfr 0 N rfl
  have HFR := Lib.hid hfr
  have hcu0 : w1.cell? ⟨br, off, none⟩ = some u := hcu
  have hlu := World.block_lt_of_cell? w1 _ hcu0
  obtain ⟨b1, o1, nc, rfl, hcap, hcs⟩ : ∃ b o c, u = .slice (some ⟨b, o, none⟩) (n + 1) c ∧ n + 1 ≤ c ∧ ∀ (q : Nat) p, N[q]? = some p → w1.cell? ⟨b, o + q, none⟩ = some (.string ⟨p.toArray⟩) := by
    rcases hsn with ⟨rfl, _⟩ | ⟨b, o, c, rfl, _, h2, h3⟩
    · simp at hn
    · exact ⟨b, o, c, by rw [hn], by omega, h3⟩
  have HSN := Lib.hid hsn
  have HCS := Lib.hid hcs
  clear hfr hcu hsn hcs hn
  go_wp2_with fail
  obtain ⟨hj, hhf⟩ : ∃ b, headF N = (0, b) := ⟨(headF N).2, by rw [← hh]⟩
  refine ((specHead _ N _ (HSN.out.below (bl_al w1 _)) (fun p hp => HLN.out N (List.mem_cons_self) p hp)).mono (R' := fun e w' => e = .returned (.agg #[.int .i64 ((0 : Nat) : Int), .int .i64 ((0 : Nat) : Int), .int .i64 (hj : Int)]) ∧ Below (w1.alloc (.cells #[.int .i64 ((0 : Nat) : Int), .int .i64 (i : Int), .int .i64 (k : Int)] 33)).heap.size (w1.alloc (.cells #[.int .i64 ((0 : Nat) : Int), .int .i64 (i : Int), .int .i64 (k : Int)] 33)) w') (fun e w' ⟨he, hB⟩ => ⟨by rw [he, hhf]; rfl, hB⟩)).mono ?_
  rintro e w2 ⟨rfl, hB2⟩
  have X20 := Lib.hid (blk_next (blk_al X0.out (.cells #[.int .i64 ((0 : Nat) : Int), .int .i64 (i : Int), .int .i64 (k : Int)] 33)) hB2)
  have X21 := Lib.hid (blk_next (blk_al X1.out (.cells #[.int .i64 ((0 : Nat) : Int), .int .i64 (i : Int), .int .i64 (k : Int)] 33)) hB2)
  have XF := Lib.hid (blk_next (alloc_blk w1 #[.int .i64 ((0 : Nat) : Int), .int .i64 (i : Int), .int .i64 (k : Int)] 33) hB2)
  have B12 := Lib.hid (bt (bl_al w1 (.cells #[.int .i64 ((0 : Nat) : Int), .int .i64 (i : Int), .int .i64 (k : Int)] 33)) hB2)
  have B02 := Lib.hid (bt B01.out (bt (bl_al w1 (.cells #[.int .i64 ((0 : Nat) : Int), .int .i64 (i : Int), .int .i64 (k : Int)] 33)) hB2))
  have HHF := Lib.hid hhf
  clear hB2 hcu0 hlu hhf
  have r0 := cell_blk XF.out 0
  have r1 := cell_blk XF.out 1
  have r2 := cell_blk XF.out 2
  have fr0 := free_blk XF.out 0
  have fr1 := free_blk XF.out 1
  have fr2 := free_blk XF.out 2
  have lr := blk_lt XF.out
  have hne0 : ¬ w.heap.size = w1.heap.size := by have := blk_lt X0.out; omega
  have hne1 : ¬ w.heap.size + 1 = w1.heap.size := by have := blk_lt X1.out; omega
  have hne2 : ¬ w1.heap.size = w.heap.size := by have := blk_lt X0.out; omega
  have hne3 : ¬ w1.heap.size = w.heap.size + 1 := by have := blk_lt X1.out; omega
  have hle : w.heap.size ≤ w1.heap.size := B01.out.size
  have ht1 : (t.length : Int) + 1 - 1 = t.length := by omega
  have hn1 : (n : Int) + 1 - 1 = n := by omega
  go_wp2_with fail
  refine (specIn9 _ _ _ _).mono ?_
  rintro e w3 ⟨rfl, rfl⟩
  rw [HI.out]
  go_upto_region 13 with fail
  obtain ⟨w3, hw3⟩ : ∃ w3, ((w2.setCell ⟨w1.heap.size, 0, none⟩ (.int .i64 0)).setCell ⟨w1.heap.size, 1, none⟩ (.int .i64 0)).setCell ⟨w1.heap.size, 2, none⟩ (.int .i64 (hj : Int)) = w3 := ⟨_, rfl⟩
  have X30 : Hid (w3.heap[w.heap.size]? = some (.cells #[.slice none 0 0, .string ⟨#[]⟩, .slice none 0 0, .slice none 0 0] 28 (0, 0))) := Lib.hid (by
    rw [← hw3]
    iterate 3 rw [heap_setCell_other _ _ _ _ hne0]
    exact X20.out)
  have X31 : Hid (w3.heap[w.heap.size + 1]? = some (.cells #[.int .i64 0, .int .i64 0, .int .i64 0] 33 (0, 0))) := Lib.hid (by
    rw [← hw3]
    iterate 3 rw [heap_setCell_other _ _ _ _ hne1]
    exact X21.out)
  have B13 : Hid (Below w1.heap.size w1 w3) := Lib.hid (by
    rw [← hw3]
    exact ((B12.out.setCell (Nat.le_refl _) _).setCell (Nat.le_refl _) _).setCell (Nat.le_refl _) _)
  have B03 := Lib.hid (bt B01.out B13.out)
  have HROW : Hid (∀ (j : Nat) row, (N :: t)[j]? = some row → ∃ u, w3.cell? ⟨br, off + j, none⟩ = some u ∧ StrRow w3 u row) := Lib.hid (fun j row hj => by
    obtain ⟨b, o, u, hb, hc, hs⟩ := HFR.out j row hj
    injection hb with hb
    injection hb with hb1 hb2 _
    subst hb1
    subst hb2
    exact ⟨u, (B13.out.cell (World.block_lt_of_cell? w1 _ hc)).trans hc, hs.below B13.out⟩)
  have HCS3 : Hid (∀ (q : Nat) p, N[q]? = some p → w3.cell? ⟨b1, o1 + q, none⟩ = some (.string ⟨p.toArray⟩)) := Lib.hid (fun q p hp => (B13.out.cell (World.block_lt_of_cell? w1 _ (HCS.out q p hp))).trans (HCS.out q p hp))
  rw [hw3]
  clear hw3 X0 X1 X20 X21 XF B02 HO HFR HSN HCS r0 r1 r2 fr0 fr1 fr2 lr hne0 hne1 hne2 hne3 B12
  have hcy := HCS3.out n y HY.out
  have hly := World.block_lt_of_cell? w3 _ hcy
  have hncI : (n : Int) ≤ nc := by omega
  have hn0I : (0 : Int) ≤ n := by omega
  have hnlt : (n : Int) < (n : Int) + 1 := by omega
  go_cut [8] (fun v8 wx => ∃ (ob : Nat) (va : Option Addr) (vc2 : Nat), v8 = .pointer (some ⟨ob, 0, none⟩) ∧ RtO w3 wx ob #[.slice va n vc2, .string ⟨y.toArray⟩, .slice none 0 0, .slice none 0 0] ⟨N.take n, y, [], []⟩ [] (.slice va n vc2) (.slice none 0 0) (.slice none 0 0))
  case first =>
    have HTL : Hid ((N.take n).length = n) := Lib.hid (by rw [List.length_take, HNn.out]; omega)
    have hS0 : HdN w3 b1 (o1 + n) y w3.drew := HdN.of hcy ((Below.refl _ _).drew)
    refine wp_region_noPanic ?_
    refine wp_region_held_drew (S := (HdN w3 b1 (o1 + n) y)) (by kernel_rfl) hS0 (fun hHeld => ?_)
    clear hS0
    refine wpAnyH_take (i := 1) (oi := ?o11) (v := ?v11) ?hi11 ?hs11 ?hf11 ?hr11 ?hQ11 ?hy11 ?hS11 ?rest11
    case hi11 => rfl
    case hs11 => kernel_rfl
    case hf11 => kernel_rfl
    case hr11 => kernel_rfl
    case hQ11 => exact fun _ _ _ h => h
    case hS11 => assumption
    case hy11 =>
      refine Or.inl ⟨by kernel_rfl, ?_⟩
      intro w' hSw
      (try dsimp only at hSw)
      go_simp
      (try rfl)
    (try simp only [List.getElem_toArray, List.getElem_cons_succ, List.getElem_cons_zero, Act.put, List.setIfInBounds_toArray, List.set_cons_zero, List.set_cons_succ])
    refine wpAnyH_take (i := 2) (oi := ?o12) (v := ?v12) ?hi12 ?hs12 ?hf12 ?hr12 ?hQ12 ?hy12 ?hS12 ?rest12
    case hi12 => rfl
    case hs12 => kernel_rfl
    case hf12 => kernel_rfl
    case hr12 => kernel_rfl
    case hQ12 => exact fun _ _ _ h => h
    case hS12 => assumption
    case hy12 =>
      refine Or.inl ⟨by kernel_rfl, ?_⟩
      intro w' hSw
      (try dsimp only at hSw)
      go_simp
      (try rfl)
    (try simp only [List.getElem_toArray, List.getElem_cons_succ, List.getElem_cons_zero, Act.put, List.setIfInBounds_toArray, List.set_cons_zero, List.set_cons_succ])
    refine wpAnyH_take (i := 3) (oi := ?o13) (v := ?v13) ?hi13 ?hs13 ?hf13 ?hr13 ?hQ13 ?hy13 ?hS13 ?rest13
    case hi13 => rfl
    case hs13 => kernel_rfl
    case hf13 => kernel_rfl
    case hr13 => kernel_rfl
    case hQ13 => exact fun _ _ _ h => h
    case hS13 => assumption
    case hy13 =>
      refine Or.inl ⟨by kernel_rfl, ?_⟩
      intro w' hSw
      (try dsimp only at hSw)
      go_simp
      (try rfl)
    (try simp only [List.getElem_toArray, List.getElem_cons_succ, List.getElem_cons_zero, Act.put, List.setIfInBounds_toArray, List.set_cons_zero, List.set_cons_succ])
    refine wpAnyH_take (i := 5) (oi := ?o14) (v := ?v14) ?hi14 ?hs14 ?hf14 ?hr14 ?hQ14 ?hy14 ?hS14 ?rest14
    case hi14 => rfl
    case hs14 => kernel_rfl
    case hf14 => kernel_rfl
    case hr14 => kernel_rfl
    case hQ14 => exact fun _ _ _ h => h
    case hS14 => assumption
    case hy14 =>
      refine Or.inl ⟨by kernel_rfl, ?_⟩
      intro w' hSw
      (try dsimp only at hSw)
      go_simp
      (try rfl)
    (try simp only [List.getElem_toArray, List.getElem_cons_succ, List.getElem_cons_zero, Act.put, List.setIfInBounds_toArray, List.set_cons_zero, List.set_cons_succ])
    refine wpAnyH_take (i := 6) (oi := ?o15) (v := ?v15) ?hi15 ?hs15 ?hf15 ?hr15 ?hQ15 ?hy15 ?hS15 ?rest15
    case hi15 => rfl
    case hs15 => kernel_rfl
    case hf15 => kernel_rfl
    case hr15 => kernel_rfl
    case hQ15 => exact fun _ _ _ h => h
    case hS15 => assumption
    case hy15 =>
      refine Or.inl ⟨by kernel_rfl, ?_⟩
      intro w' hSw
      (try dsimp only at hSw)
      go_simp
      (try rfl)
    (try simp only [List.getElem_toArray, List.getElem_cons_succ, List.getElem_cons_zero, Act.put, List.setIfInBounds_toArray, List.set_cons_zero, List.set_cons_succ])
    refine wpAnyH_take (i := 7) (oi := ?o16) (v := ?v16) ?hi16 ?hs16 ?hf16 ?hr16 ?hQ16 ?hy16 ?hS16 ?rest16
    case hi16 => rfl
    case hs16 => kernel_rfl
    case hf16 => kernel_rfl
    case hr16 => kernel_rfl
    case hQ16 => exact fun _ _ _ h => h
    case hS16 => assumption
    case hy16 =>
      refine Or.inl ⟨by kernel_rfl, ?_⟩
      intro w' hSw
      (try dsimp only at hSw)
      go_simp
      (try rfl)
    (try simp only [List.getElem_toArray, List.getElem_cons_succ, List.getElem_cons_zero, Act.put, List.setIfInBounds_toArray, List.set_cons_zero, List.set_cons_succ])
    refine wpAnyH_take (i := 8) (oi := ?o17) (v := ?v17) ?hi17 ?hs17 ?hf17 ?hr17 ?hQ17 ?hy17 ?hS17 ?rest17
    case hi17 => rfl
    case hs17 => kernel_rfl
    case hf17 => kernel_rfl
    case hr17 => kernel_rfl
    case hQ17 => exact fun _ _ _ h => h
    case hS17 => assumption
    case hy17 =>
      refine Or.inl ⟨by kernel_rfl, ?_⟩
      intro w' hSw
      (try dsimp only at hSw)
      go_simp
      (try rfl)
    (try simp only [List.getElem_toArray, List.getElem_cons_succ, List.getElem_cons_zero, Act.put, List.setIfInBounds_toArray, List.set_cons_zero, List.set_cons_succ])
    refine wpAnyH_ready (rs := [0, 10]) (by kernel_rfl) (by simp) ?_
    refine AllReadyH.cons rfl (fun K hK => ?_) (AllReadyH.cons rfl (fun K hK => ?_) AllReadyH.nil)
    · go_simp
      have hBa : Below w3.heap.size w3 (w3.drew.alloc (.cells #[] 9)) := ((Below.refl _ _).drew).alloc (Nat.le_refl _) _
      have hma : (w3.drew.alloc (.cells #[] 9)).ownsRow w3.heap.size 9 1 (.slice (some ⟨w3.heap.size, 0, none⟩) 0 0) 0 [] := World.ownsRow_made w3.drew #[] 0 (Nat.le_refl _) (by unfold maxLen; omega) (by simp)
      refine hK.out _ _ (HdN.of hcy (hBa)) (fun hHeld => ?_)
      clear hK K
      (try simp only [List.getElem_toArray, List.getElem_cons_succ, List.getElem_cons_zero, Act.put, List.setIfInBounds_toArray, List.set_cons_zero, List.set_cons_succ])
      refine wpAnyH_ready (rs := [4, 10]) (by kernel_rfl) (by simp) ?_
      refine AllReadyH.cons rfl (fun K hK => ?_) (AllReadyH.cons rfl (fun K hK => ?_) AllReadyH.nil)
      · refine step_append_t rfl (.tmp 49) (.tmp 52) 24 rfl w3.heap.size 9 iS (.string ByteArray.empty) 1 16 Tryz.underlying24 gk gx0 gx1 gx2 rfl (by decide) _ 0 [] (by simp [Act.eval]) (hma) ⟨b1, o1, none⟩ n nc (strCells (N.take n)) (by simp [Act.eval]) (by rw [strCells_len, HTL.out, Nat.mul_one]) (news_at (fun q p hq => ((hBa).cell (World.block_lt_of_cell? w3 _ (HCS3.out q p (takeV_at hq)))).trans (HCS3.out q p (takeV_at hq)))) (strCells_cell _) (by unfold maxLen; omega) (by omega) (hBa).size ?_
        intro v8 w8 hown8 hg8
        rw [Nat.zero_add, List.nil_append] at hown8
        obtain ⟨va, vc2, rfl⟩ := owns_form hown8
        have hB8 : Below w3.heap.size w3 w8 := hBa.grown hg8 hBa.size (fun x hx => (hma.lt x hx).1)
        refine hK.out _ _ (HdN.of hcy (hB8)) (fun hHeld => ?_)
        clear hK K
        (try simp only [List.getElem_toArray, List.getElem_cons_succ, List.getElem_cons_zero, Act.put, List.setIfInBounds_toArray, List.set_cons_zero, List.set_cons_succ])
        refine wpAnyH_take (i := 9) (oi := ?o8) (v := ?v8) ?hi8 ?hs8 ?hf8 ?hr8 ?hQ8 ?hy8 ?hS8 ?rest8
        case hi8 => rfl
        case hs8 => kernel_rfl
        case hf8 => kernel_rfl
        case hr8 => kernel_rfl
        case hQ8 => exact fun _ _ _ h => h
        case hS8 => assumption
        case hy8 =>
          refine Or.inl ⟨by kernel_rfl, ?_⟩
          intro w' hSw
          (try dsimp only at hSw)
          go_simp
          (try rfl)
        (try simp only [List.getElem_toArray, List.getElem_cons_succ, List.getElem_cons_zero, Act.put, List.setIfInBounds_toArray, List.set_cons_zero, List.set_cons_succ])
        refine wpAnyH_ready (rs := [10]) (by kernel_rfl) (by simp) ?_
        refine AllReadyH.cons rfl (fun K hK => ?_) AllReadyH.nil
        go_simp
        have hBx := bt hB8 (bl_al w8 (.cells #[.slice none 0 0, .string ⟨#[]⟩, .slice none 0 0, .slice none 0 0] 28))
        refine hK.out _ _ (HdN.of hcy (hBx)) (fun hHeld => ?_)
        clear hK K
        (try simp only [List.getElem_toArray, List.getElem_cons_succ, List.getElem_cons_zero, Act.put, List.setIfInBounds_toArray, List.set_cons_zero, List.set_cons_succ])
        obtain ⟨wv, hwv⟩ : ∃ wv, w8.alloc (.cells #[.slice none 0 0, .string ⟨#[]⟩, .slice none 0 0, .slice none 0 0] 28) = wv := ⟨_, rfl⟩
        have hbv := alloc_blk w8 #[.slice none 0 0, .string ⟨#[]⟩, .slice none 0 0, .slice none 0 0] 28
        have hBv := hBx
        have hov := hown8.alloc (.cells #[.slice none 0 0, .string ⟨#[]⟩, .slice none 0 0, .slice none 0 0] 28)
        have hgv : w3.heap.size ≤ w8.heap.size := hB8.size
        rw [hwv] at hbv hBv hov ⊢
        have HOV : Hid (RtO w3 wv w8.heap.size #[.slice none 0 0, .string ⟨#[]⟩, .slice none 0 0, .slice none 0 0] (⟨N.take n, y, [], []⟩ : Tab) [] (.slice va n vc2) (.slice none 0 0) (.slice none 0 0)) := Lib.hid ⟨hBv, hbv, ⟨by show wv.ownsRow w3.heap.size 9 1 (.slice va n vc2) (N.take n).length (strCells (N.take n)); rw [HTL.out]; exact hov, ⟨rfl, Or.inl ⟨rfl, rfl⟩⟩, RowsOwn.nil _ _ _, ⟨rfl, Or.inl ⟨rfl, rfl⟩⟩, by simp⟩, hgv⟩
        have d0 := cell_blk hbv 0
        have d1 := cell_blk hbv 1
        have d2 := cell_blk hbv 2
        have d3 := cell_blk hbv 3
        have e0 := free_blk hbv 0
        have e1 := free_blk hbv 1
        have e2 := free_blk hbv 2
        have e3 := free_blk hbv 3
        have lb := blk_lt hbv
        refine wpAnyH_ready (rs := [11]) (by kernel_rfl) (by simp) ?_
        refine AllReadyH.cons rfl (fun K hK => ?_) AllReadyH.nil
        go_simp
        refine hK.out _ _ (HdN.of hcy (((((hBv.setCell hgv _).setCell hgv _).setCell hgv _).setCell hgv _))) (fun hHeld => ?_)
        clear hK K
        (try simp only [List.getElem_toArray, List.getElem_cons_succ, List.getElem_cons_zero, Act.put, List.setIfInBounds_toArray, List.set_cons_zero, List.set_cons_succ])
        refine wpAnyH_done (by kernel_rfl) ?_ _
        refine NoPanic.normal ?_
        go_wp2_with fail
        go_meet
        case rel => exact ⟨_, va, vc2, rfl, by simpa using (((HOV.out.set 0 (.slice va n vc2)).set 1 (.string ⟨y.toArray⟩)).set 2 (.slice none 0 0)).set 3 (.slice none 0 0)⟩
      · go_simp
        have hBx := bt hBa (bl_al (w3.drew.alloc (.cells #[] 9)) (.cells #[.slice none 0 0, .string ⟨#[]⟩, .slice none 0 0, .slice none 0 0] 28))
        have hmx := hma.alloc (.cells #[.slice none 0 0, .string ⟨#[]⟩, .slice none 0 0, .slice none 0 0] 28)
        have hbx := alloc_blk (w3.drew.alloc (.cells #[] 9)) #[.slice none 0 0, .string ⟨#[]⟩, .slice none 0 0, .slice none 0 0] 28
        have hys : (w3.drew.alloc (.cells #[] 9)).heap.size = w3.heap.size + 1 := by simp
        rw [hys] at hbx
        refine hK.out _ _ (HdN.of hcy (hBx)) (fun hHeld => ?_)
        clear hK K
        (try simp only [List.getElem_toArray, List.getElem_cons_succ, List.getElem_cons_zero, Act.put, List.setIfInBounds_toArray, List.set_cons_zero, List.set_cons_succ])
        refine wpAnyH_ready (rs := [4]) (by kernel_rfl) (by simp) ?_
        refine AllReadyH.cons rfl (fun K hK => ?_) AllReadyH.nil
        refine step_append_t rfl (.tmp 49) (.tmp 52) 24 rfl w3.heap.size 9 iS (.string ByteArray.empty) 1 16 Tryz.underlying24 gk gx0 gx1 gx2 rfl (by decide) _ 0 [] (by simp [Act.eval]) (hmx) ⟨b1, o1, none⟩ n nc (strCells (N.take n)) (by simp [Act.eval]) (by rw [strCells_len, HTL.out, Nat.mul_one]) (news_at (fun q p hq => ((hBx).cell (World.block_lt_of_cell? w3 _ (HCS3.out q p (takeV_at hq)))).trans (HCS3.out q p (takeV_at hq)))) (strCells_cell _) (by unfold maxLen; omega) (by omega) (hBx).size ?_
        intro v8 w8 hown8 hg8
        rw [Nat.zero_add, List.nil_append] at hown8
        obtain ⟨va, vc2, rfl⟩ := owns_form hown8
        have hB8 : Below w3.heap.size w3 w8 := hBx.grown hg8 hBx.size (fun x hx => (hmx.lt x hx).1)
        have hb8 := (hg8.block _ (blk_lt hbx) (by simp [Value.ownBlock])).trans hbx
        refine hK.out _ _ (HdN.of hcy (hB8)) (fun hHeld => ?_)
        clear hK K
        (try simp only [List.getElem_toArray, List.getElem_cons_succ, List.getElem_cons_zero, Act.put, List.setIfInBounds_toArray, List.set_cons_zero, List.set_cons_succ])
        refine wpAnyH_take (i := 9) (oi := ?o9) (v := ?v9) ?hi9 ?hs9 ?hf9 ?hr9 ?hQ9 ?hy9 ?hS9 ?rest9
        case hi9 => rfl
        case hs9 => kernel_rfl
        case hf9 => kernel_rfl
        case hr9 => kernel_rfl
        case hQ9 => exact fun _ _ _ h => h
        case hS9 => assumption
        case hy9 =>
          refine Or.inl ⟨by kernel_rfl, ?_⟩
          intro w' hSw
          (try dsimp only at hSw)
          go_simp
          (try rfl)
        (try simp only [List.getElem_toArray, List.getElem_cons_succ, List.getElem_cons_zero, Act.put, List.setIfInBounds_toArray, List.set_cons_zero, List.set_cons_succ])
        obtain ⟨wv, hwv⟩ : ∃ wv, w8 = wv := ⟨_, rfl⟩
        have hbv := hb8
        have hBv := hB8
        have hov := hown8
        have hgv : w3.heap.size ≤ (w3.heap.size + 1) := (by omega)
        rw [hwv] at hbv hBv hov ⊢
        have HOV : Hid (RtO w3 wv (w3.heap.size + 1) #[.slice none 0 0, .string ⟨#[]⟩, .slice none 0 0, .slice none 0 0] (⟨N.take n, y, [], []⟩ : Tab) [] (.slice va n vc2) (.slice none 0 0) (.slice none 0 0)) := Lib.hid ⟨hBv, hbv, ⟨by show wv.ownsRow w3.heap.size 9 1 (.slice va n vc2) (N.take n).length (strCells (N.take n)); rw [HTL.out]; exact hov, ⟨rfl, Or.inl ⟨rfl, rfl⟩⟩, RowsOwn.nil _ _ _, ⟨rfl, Or.inl ⟨rfl, rfl⟩⟩, by simp⟩, hgv⟩
        have d0 := cell_blk hbv 0
        have d1 := cell_blk hbv 1
        have d2 := cell_blk hbv 2
        have d3 := cell_blk hbv 3
        have e0 := free_blk hbv 0
        have e1 := free_blk hbv 1
        have e2 := free_blk hbv 2
        have e3 := free_blk hbv 3
        have lb := blk_lt hbv
        refine wpAnyH_ready (rs := [11]) (by kernel_rfl) (by simp) ?_
        refine AllReadyH.cons rfl (fun K hK => ?_) AllReadyH.nil
        go_simp
        refine hK.out _ _ (HdN.of hcy (((((hBv.setCell hgv _).setCell hgv _).setCell hgv _).setCell hgv _))) (fun hHeld => ?_)
        clear hK K
        (try simp only [List.getElem_toArray, List.getElem_cons_succ, List.getElem_cons_zero, Act.put, List.setIfInBounds_toArray, List.set_cons_zero, List.set_cons_succ])
        refine wpAnyH_done (by kernel_rfl) ?_ _
        refine NoPanic.normal ?_
        go_wp2_with fail
        go_meet
        case rel => exact ⟨_, va, vc2, rfl, by simpa using (((HOV.out.set 0 (.slice va n vc2)).set 1 (.string ⟨y.toArray⟩)).set 2 (.slice none 0 0)).set 3 (.slice none 0 0)⟩
    · go_simp
      have hBt : Below w3.heap.size w3 (w3.drew.alloc (.cells #[.slice none 0 0, .string ⟨#[]⟩, .slice none 0 0, .slice none 0 0] 28)) := ((Below.refl _ _).drew).alloc (Nat.le_refl _) _
      have hbt := alloc_blk w3.drew #[.slice none 0 0, .string ⟨#[]⟩, .slice none 0 0, .slice none 0 0] 28
      have hys0 : w3.drew.heap.size = w3.heap.size := rfl
      rw [hys0] at hbt
      refine hK.out _ _ (HdN.of hcy (hBt)) (fun hHeld => ?_)
      clear hK K
      (try simp only [List.getElem_toArray, List.getElem_cons_succ, List.getElem_cons_zero, Act.put, List.setIfInBounds_toArray, List.set_cons_zero, List.set_cons_succ])
      refine wpAnyH_ready (rs := [0]) (by kernel_rfl) (by simp) ?_
      refine AllReadyH.cons rfl (fun K hK => ?_) AllReadyH.nil
      go_simp
      have hBx := bt hBt (bl_al (w3.drew.alloc (.cells #[.slice none 0 0, .string ⟨#[]⟩, .slice none 0 0, .slice none 0 0] 28)) (.cells #[] 9))
      have hmx : ((w3.drew.alloc (.cells #[.slice none 0 0, .string ⟨#[]⟩, .slice none 0 0, .slice none 0 0] 28)).alloc (.cells #[] 9)).ownsRow w3.heap.size 9 1 (.slice (some ⟨w3.heap.size + 1, 0, none⟩) 0 0) 0 [] := by
        have h := World.ownsRow_made (base := w3.heap.size) (e := 9) (size := 1) (w3.drew.alloc (.cells #[.slice none 0 0, .string ⟨#[]⟩, .slice none 0 0, .slice none 0 0] 28)) #[] 0 (by simp) (by unfold maxLen; omega) (by simp)
        simpa using h
      have hbx := blk_al hbt (.cells #[] 9)
      refine hK.out _ _ (HdN.of hcy (hBx)) (fun hHeld => ?_)
      clear hK K
      (try simp only [List.getElem_toArray, List.getElem_cons_succ, List.getElem_cons_zero, Act.put, List.setIfInBounds_toArray, List.set_cons_zero, List.set_cons_succ])
      refine wpAnyH_ready (rs := [4]) (by kernel_rfl) (by simp) ?_
      refine AllReadyH.cons rfl (fun K hK => ?_) AllReadyH.nil
      refine step_append_t rfl (.tmp 49) (.tmp 52) 24 rfl w3.heap.size 9 iS (.string ByteArray.empty) 1 16 Tryz.underlying24 gk gx0 gx1 gx2 rfl (by decide) _ 0 [] (by simp [Act.eval]) (hmx) ⟨b1, o1, none⟩ n nc (strCells (N.take n)) (by simp [Act.eval]) (by rw [strCells_len, HTL.out, Nat.mul_one]) (news_at (fun q p hq => ((hBx).cell (World.block_lt_of_cell? w3 _ (HCS3.out q p (takeV_at hq)))).trans (HCS3.out q p (takeV_at hq)))) (strCells_cell _) (by unfold maxLen; omega) (by omega) (hBx).size ?_
      intro v8 w8 hown8 hg8
      rw [Nat.zero_add, List.nil_append] at hown8
      obtain ⟨va, vc2, rfl⟩ := owns_form hown8
      have hB8 : Below w3.heap.size w3 w8 := hBx.grown hg8 hBx.size (fun x hx => (hmx.lt x hx).1)
      have hb8 := (hg8.block _ (blk_lt hbx) (by simp [Value.ownBlock])).trans hbx
      refine hK.out _ _ (HdN.of hcy (hB8)) (fun hHeld => ?_)
      clear hK K
      (try simp only [List.getElem_toArray, List.getElem_cons_succ, List.getElem_cons_zero, Act.put, List.setIfInBounds_toArray, List.set_cons_zero, List.set_cons_succ])
      refine wpAnyH_take (i := 9) (oi := ?o10) (v := ?v10) ?hi10 ?hs10 ?hf10 ?hr10 ?hQ10 ?hy10 ?hS10 ?rest10
      case hi10 => rfl
      case hs10 => kernel_rfl
      case hf10 => kernel_rfl
      case hr10 => kernel_rfl
      case hQ10 => exact fun _ _ _ h => h
      case hS10 => assumption
      case hy10 =>
        refine Or.inl ⟨by kernel_rfl, ?_⟩
        intro w' hSw
        (try dsimp only at hSw)
        go_simp
        (try rfl)
      (try simp only [List.getElem_toArray, List.getElem_cons_succ, List.getElem_cons_zero, Act.put, List.setIfInBounds_toArray, List.set_cons_zero, List.set_cons_succ])
      obtain ⟨wv, hwv⟩ : ∃ wv, w8 = wv := ⟨_, rfl⟩
      have hbv := hb8
      have hBv := hB8
      have hov := hown8
      have hgv : w3.heap.size ≤ w3.heap.size := (Nat.le_refl _)
      rw [hwv] at hbv hBv hov ⊢
      have HOV : Hid (RtO w3 wv w3.heap.size #[.slice none 0 0, .string ⟨#[]⟩, .slice none 0 0, .slice none 0 0] (⟨N.take n, y, [], []⟩ : Tab) [] (.slice va n vc2) (.slice none 0 0) (.slice none 0 0)) := Lib.hid ⟨hBv, hbv, ⟨by show wv.ownsRow w3.heap.size 9 1 (.slice va n vc2) (N.take n).length (strCells (N.take n)); rw [HTL.out]; exact hov, ⟨rfl, Or.inl ⟨rfl, rfl⟩⟩, RowsOwn.nil _ _ _, ⟨rfl, Or.inl ⟨rfl, rfl⟩⟩, by simp⟩, hgv⟩
      have d0 := cell_blk hbv 0
      have d1 := cell_blk hbv 1
      have d2 := cell_blk hbv 2
      have d3 := cell_blk hbv 3
      have e0 := free_blk hbv 0
      have e1 := free_blk hbv 1
      have e2 := free_blk hbv 2
      have e3 := free_blk hbv 3
      have lb := blk_lt hbv
      refine wpAnyH_ready (rs := [11]) (by kernel_rfl) (by simp) ?_
      refine AllReadyH.cons rfl (fun K hK => ?_) AllReadyH.nil
      go_simp
      refine hK.out _ _ (HdN.of hcy (((((hBv.setCell hgv _).setCell hgv _).setCell hgv _).setCell hgv _))) (fun hHeld => ?_)
      clear hK K
      (try simp only [List.getElem_toArray, List.getElem_cons_succ, List.getElem_cons_zero, Act.put, List.setIfInBounds_toArray, List.set_cons_zero, List.set_cons_succ])
      refine wpAnyH_done (by kernel_rfl) ?_ _
      refine NoPanic.normal ?_
      go_wp2_with fail
      go_meet
      case rel => exact ⟨_, va, vc2, rfl, by simpa using (((HOV.out.set 0 (.slice va n vc2)).set 1 (.string ⟨y.toArray⟩)).set 2 (.slice none 0 0)).set 3 (.slice none 0 0)⟩
  case rest =>
    obtain ⟨ob, va, vc2, rfl, hRO⟩ := hcut
    clear hcy hly hncI hn0I hnlt
    have HRO := Lib.hid hRO
    clear hRO
    go_wp2_with fail
    go_loopg [9, 10, 11, 12, 13] t.length (fun g i_ _ _ _ _ wr => ∃ (a : Nat) (R : List (List Int)) (Y : List Int) (vs : List Value) (u2 u3 : Value), 1 ≤ a ∧ a ≤ t.length + 1 ∧ g = t.length + 1 - a ∧ i_ = .int .i64 a ∧ R.length + 1 = a ∧ Y.length + 1 = a ∧ rowsG n (t.drop (a - 1)) a R Y = G ∧ RtO w3 wr ob #[.slice va n vc2, .string ⟨y.toArray⟩, u2, u3] ⟨N.take n, y, R, Y⟩ vs (.slice va n vc2) u2 u3)
    case atStart => exact ⟨1, [], [], [], _, _, Nat.le_refl _, by omega, by omega, rfl, rfl, rfl, HG.out, HRO.out⟩
    case round =>
      clear HRO
      obtain ⟨a, R, Y, vs, u2, u3, ha1, ha2, rfl, rfl, hRl, hYl, hrg, hO⟩ := hrel
      have HRG := Lib.hid hrg
      have HO := Lib.hid hO
      have HRl := Lib.hid hRl
      have HYl := Lib.hid hYl
      clear hrg hO hRl hYl
      by_cases hlt : a < t.length + 1
      · have hj1 : (a : Int) < (t.length : Int) + 1 := by omega
        have hj0 : (0 : Int) ≤ a := by omega
        obtain ⟨r, hr9⟩ : ∃ r, t[a - 1]? = some r := ⟨_, List.getElem?_eq_getElem (by omega)⟩
        have hra : (N :: t)[a]? = some r := by
          obtain ⟨q, rfl⟩ : ∃ q, a = q + 1 := ⟨a - 1, by omega⟩
          simpa using hr9
        have hdr : t.drop (a - 1) = r :: t.drop a := by
          rw [List.drop_eq_getElem_cons (show a - 1 < t.length by omega), show a - 1 + 1 = a by omega]
          congr 1
          exact (List.getElem?_eq_some_iff.1 hr9).2
        have HD : Hid (rowsG n (r :: t.drop a) a R Y = G) := Lib.hid (by rw [← hdr]; exact HRG.out)
        obtain ⟨u, hcu0, hsu0⟩ := HROW.out a r hra
        obtain ⟨ra, rc, rfl, hrl, hrf⟩ := sRow_cells hsu0
        have HCU := Lib.hid hcu0
        have hcu := (HO.out.bel.cell (World.block_lt_of_cell? w3 _ hcu0)).trans hcu0
        have hlu := World.block_lt_of_cell? wr _ hcu
        clear hr9 hra hdr HRG hsu0 hcu0
        by_cases hw : r.length = n + 1
        · obtain ⟨b4, o4, rfl, hrfd⟩ : ∃ b4 o4, ra = some ⟨b4, o4, none⟩ ∧ ∀ (q : Nat) p, r[q]? = some p → w3.cell? ⟨b4, o4 + q, none⟩ = some (.string ⟨p.toArray⟩) := by
            obtain ⟨b4, o4, h4, _⟩ := hrf 0 (r[0]'(by omega)) (List.getElem?_eq_getElem _)
            refine ⟨b4, o4, h4, fun q p hp => ?_⟩
            obtain ⟨b, o, hb, hc⟩ := hrf q p hp
            rw [h4] at hb
            injection hb with hb
            injection hb with e1 e2 _
            subst e1
            subst e2
            exact hc
          have HRF := Lib.hid hrfd
          have HW := Lib.hid hw
          rw [hw] at hcu HCU
          clear hrf hrfd hrl hw
          obtain ⟨lo0, hC0⟩ : ∃ lo0, RrS w3 (wr.alloc (.cells #[] 3)) ob lo0 #[.slice va n vc2, .string ⟨y.toArray⟩, u2, u3] ⟨N.take n, y, R, Y⟩ vs (.slice va n vc2) u2 u3 (.slice (some ⟨wr.heap.size, 0, none⟩) 0 0) [] := ⟨_, HO.out.start⟩
          have HC0 := Lib.hid hC0
          clear hC0 HO
          go_wp2_with fail
          go_loopg [10, 11, 12, 13] (n + 1) (fun g row_ k_ _ _ wi => ∃ (k : Nat) (acc : List Int) (vr : Value), k ≤ n + 1 ∧ g = n + 1 - k ∧ k_ = .int .i64 k ∧ vr = row_ ∧ acc.length = k ∧ fldsG (r.drop k) k acc = fldsG r 0 [] ∧ RrS w3 wi ob lo0 #[.slice va n vc2, .string ⟨y.toArray⟩, u2, u3] ⟨N.take n, y, R, Y⟩ vs (.slice va n vc2) u2 u3 vr acc)
          case atStart => exact ⟨0, [], _, Nat.zero_le _, rfl, rfl, rfl, rfl, rfl, HC0.out⟩
          case round =>
            clear HC0 hcu hlu
            obtain ⟨k, acc, vr, hk9, rfl, rfl, rfl, hal, hfg, hC⟩ := hrel
            have HC := Lib.hid hC
            have HFG := Lib.hid hfg
            have HAL := Lib.hid hal
            clear hC hfg hal
            have hcu := (HC.out.st.bel.cell (World.block_lt_of_cell? w3 _ HCU.out)).trans HCU.out
            have hlu := World.block_lt_of_cell? wr _ hcu
            by_cases hk : k ≤ n
            · have hk1 : (k : Int) ≤ n := by omega
              have hk2 : (k : Int) < (n : Int) + 1 := by omega
              have hk0 : (0 : Int) ≤ k := by omega
              obtain ⟨f, hf⟩ : ∃ f, r[k]? = some f := ⟨_, List.getElem?_eq_getElem (by rw [HW.out]; omega)⟩
              have hcf0 := HRF.out k f hf
              have hcf := (HC.out.st.bel.cell (World.block_lt_of_cell? w3 _ hcf0)).trans hcf0
              have hlf := World.block_lt_of_cell? wr _ hcf
              have hdk : r.drop k = f :: r.drop (k + 1) := by
                rw [List.drop_eq_getElem_cons (show k < r.length by rw [HW.out]; omega)]
                congr 1
                exact (List.getElem?_eq_some_iff.1 hf).2
              have HFG2 : Hid (fldsG (f :: r.drop (k + 1)) k acc = fldsG r 0 []) := Lib.hid (by rw [← hdk]; exact HFG.out)
              clear hf hcf0 hdk HFG
              cases hv : rdV f with
              | none =>
                have HE : Hid (∀ w, Calls Tryz.prog 52 #[.string ⟨f.toArray⟩] w fun e w' => e = .returned (.tuple #[.int .i64 0, .bool false]) ∧ Below w.heap.size w w') := Lib.hid (fun w => (specReadFix ⟨f.toArray⟩ w).mono fun e w' ⟨he, hB⟩ => ⟨by rw [he, rfE]; show (match rdV f with | some n => _ | none => _) = _; rw [hv], hB⟩)
                have HF9 : Hid (G = .inr (9, a, k)) := Lib.hid (by
                  have h1 := HFG2.out
                  rw [fldsG, hv] at h1
                  have h2 := HD.out
                  rw [rowsG, if_pos HW.out, ← h1] at h2
                  exact h2.symm)
                clear hv HFG2
                go_wp2_with fail
                refine (HE.out _).mono ?_
                rintro e w5 ⟨rfl, hB5⟩
                have HC5 := Lib.hid (HC.out.next hB5)
                clear hB5 HC hcu hlu hcf hlf
                have X30r := blk_next X30.out HC5.out.st.bel
                have X31r := blk_next X31.out HC5.out.st.bel
                have p0 := cell_blk X30r 0
                have p1 := cell_blk X30r 1
                have p2 := cell_blk X30r 2
                have p3 := cell_blk X30r 3
                have q0 := cell_blk X31r 0
                have q1 := cell_blk X31r 1
                have q2 := cell_blk X31r 2
                have fp0 := free_blk X30r 0
                have fp1 := free_blk X30r 1
                have fp2 := free_blk X30r 2
                have fp3 := free_blk X30r 3
                have fq0 := free_blk X31r 0
                have fq1 := free_blk X31r 1
                have fq2 := free_blk X31r 2
                have lp := blk_lt X30r
                have lq := blk_lt X31r
                go_wp2_with fail
                refine bodyPost_ret (v := .tuple #[.agg #[.slice none 0 0, .string ⟨#[]⟩, .slice none 0 0, .slice none 0 0], .agg #[.int .i64 ((9 : Nat) : Int), .int .i64 (a : Int), .int .i64 (k : Int)]]) ?_ rfl ⟨zero_at (HTV.out.trans (by rw [HF9.out]; rfl)) HR.out _, ?_⟩
                · rw [results_twoT rfl]
                  go_simp
                · exact below7 (bt B03.out HC5.out.st.bel) _ _ _ _ _ _ _
              | some x =>
                have HE : Hid (∀ w, Calls Tryz.prog 52 #[.string ⟨f.toArray⟩] w fun e w' => e = .returned (.tuple #[.int .i64 x, .bool true]) ∧ Below w.heap.size w w') := Lib.hid (fun w => (specReadFix ⟨f.toArray⟩ w).mono fun e w' ⟨he, hB⟩ => ⟨by rw [he, rfE]; show (match rdV f with | some n => _ | none => _) = _; rw [hv], hB⟩)
                have HFG3 : Hid (fldsG (r.drop (k + 1)) (k + 1) (acc ++ [x]) = fldsG r 0 []) := Lib.hid (by
                  have h1 := HFG2.out
                  rw [fldsG, hv] at h1
                  exact h1)
                clear hv HFG2
                go_wp2_with fail
                refine (HE.out _).mono ?_
                rintro e w5 ⟨rfl, hB5⟩
                have HC5 := Lib.hid (HC.out.next hB5)
                have hrow5 := HC5.out.row
                rw [HAL.out] at hrow5
                clear hB5 HC hcu hlu hcf hlf
                go_wp2_with (at_builtin; refine wpList_append_own _ rfl _ _ 26 rfl lo0 3 iI (.int .i64 0) 1 8 Tryz.underlying26 gi gz0 gz1 gz2 rfl (by decide) _ _ _ rfl (hrow5.alloc _) ⟨w5.heap.size, 0, none⟩ 1 1 [.int .i64 x] rfl rfl ?p1 ?q1 ?r1 ?s1 ?t1 ?_)
                try (case p1 => exact news_one)
                case q1 => first | (intro u hu; simp at hu; subst hu; rfl) | rfl
                case r1 => unfold maxLen; omega
                case s1 => omega
                case t1 => have := HC5.out.hi; simp; omega
                intro v6 w6 hown6 hg6 _
                have HC6 := Lib.hid ((HC5.out.next (bl_al w5 (.cells #[.int .i64 x] 3))).app (x := x) hg6 (by rw [HAL.out]; exact hown6))
                clear hown6 hg6 hrow5 HC5
                go_wp2_with fail
                go_roundg (n + 1 - (k + 1))
                case measure => omega
                case rel => exact ⟨k + 1, acc ++ [x], v6, by omega, rfl, by go_num, rfl, by rw [List.length_append, HAL.out]; rfl, HFG3.out, HC6.out⟩
            · have hk1 : ¬ (k : Int) ≤ n := by omega
              have hke : k = n + 1 := by omega
              subst hke
              have HACC : Hid (fldsG r 0 [] = .inl acc) := Lib.hid (by
                have h := HFG.out
                rw [List.drop_eq_nil_of_le (by rw [HW.out]; exact Nat.le_refl _)] at h
                exact h.symm)
              clear HFG
              go_upto_region 27 with fail
              have hrow := HC.out.row
              rw [HAL.out] at hrow
              obtain ⟨gr, cr, hvr, hgr1, hgr2⟩ := World.ownsRow.form hrow (by omega)
              subst hvr
              have hcr : n + 1 ≤ cr := by
                rcases hrow.2 with ⟨h, _⟩ | ⟨g, c, cur, h, _, _, h4, _⟩
                · cases h
                · injection h with _ _ h3
                  omega
              obtain ⟨x, hx⟩ : ∃ x, acc[n]? = some x := ⟨_, List.getElem?_eq_getElem (by rw [HAL.out]; omega)⟩
              have HXX := Lib.hid hx
              have hncr : (n : Int) ≤ cr := by omega
              have hn0 : (0 : Int) ≤ n := by omega
              have hnr : (n : Int) < (n : Int) + 1 := by omega
              have HROWC : Hid (∀ (W : World), W.ownsRow lo0 3 1 (.slice (some ⟨gr, 0, none⟩) (n + 1) cr) (n + 1) (intCells acc) → ∀ (j : Nat) u, (intCells (acc.take n))[j]? = some u → W.cell? ((⟨gr, 0, none⟩ : Addr).add j) = some u) := Lib.hid (fun W hW j u hu => by
                unfold intCells at hu
                rw [List.getElem?_map] at hu
                cases hp : (acc.take n)[j]? with
                | none => rw [hp] at hu; cases hu
                | some p =>
                  rw [hp] at hu
                  have hjn : j < n := by have := (List.getElem?_eq_some_iff.1 hp).1; rw [List.length_take] at this; omega
                  rw [addr_addV, hW.cellAt j (by omega), intCells_at (takeV_at hp)]
                  exact hu)
              have HTN : Hid ((acc.take n).length = n) := Lib.hid (by rw [List.length_take, HAL.out]; omega)
              have HXG : Hid (x = acc.getD n 0) := Lib.hid (by rw [List.getD_eq_getElem?_getD, hx]; rfl)
              have hR40 : R.length + 1 ≤ 40 := by have := HRl.out; omega
              have hY40 : Y.length + 1 ≤ 40 := by have := HYl.out; omega
              clear hx hgr1 hgr2 hcu hlu
              go_cut [10] (fun v10 wx => ∃ (v' : Value) (a8 : Option Addr) (c8 : Nat), v10 = .slice (some ⟨gr, 0, none⟩) (n + 1) cr ∧ RtO w3 wx ob #[.slice va n vc2, .string ⟨y.toArray⟩, (.slice a8 (R.length + 1) c8), u3] ⟨N.take n, y, R ++ [acc.take n], Y⟩ (vs ++ [v']) (.slice va n vc2) (.slice a8 (R.length + 1) c8) u3 ∧ wx.cell? ⟨gr, n, none⟩ = some (.int .i64 x))
              case first =>
                refine wp_region_noPanic ?_
                refine wp_region_held_drew (S := (fun _ => True)) (by kernel_rfl) trivial (fun hHeld => ?_)
                refine wpAnyH_take (i := 0) (oi := ?o18) (v := ?v18) ?hi18 ?hs18 ?hf18 ?hr18 ?hQ18 ?hy18 ?hS18 ?rest18
                case hi18 => rfl
                case hs18 => kernel_rfl
                case hf18 => kernel_rfl
                case hr18 => kernel_rfl
                case hQ18 => exact fun _ _ _ h => h
                case hS18 => assumption
                case hy18 =>
                  refine Or.inl ⟨by kernel_rfl, ?_⟩
                  intro w' hSw
                  (try dsimp only at hSw)
                  go_simp
                  (try rfl)
                (try simp only [List.getElem_toArray, List.getElem_cons_zero, Act.put, List.setIfInBounds_toArray, List.set_cons_zero, List.set_cons_succ])
                refine wpAnyH_take (i := 3) (oi := ?o19) (v := ?v19) ?hi19 ?hs19 ?hf19 ?hr19 ?hQ19 ?hy19 ?hS19 ?rest19
                case hi19 => rfl
                case hs19 => kernel_rfl
                case hf19 => kernel_rfl
                case hr19 => kernel_rfl
                case hQ19 => exact fun _ _ _ h => h
                case hS19 => assumption
                case hy19 =>
                  refine Or.inl ⟨by kernel_rfl, ?_⟩
                  intro w' hSw
                  (try dsimp only at hSw)
                  go_simp
                  (try rfl)
                (try simp only [List.getElem_toArray, List.getElem_cons_succ, List.getElem_cons_zero, Act.put, List.setIfInBounds_toArray, List.set_cons_zero, List.set_cons_succ])
                refine wpAnyH_take (i := 4) (oi := ?o20) (v := ?v20) ?hi20 ?hs20 ?hf20 ?hr20 ?hQ20 ?hy20 ?hS20 ?rest20
                case hi20 => rfl
                case hs20 => kernel_rfl
                case hf20 => kernel_rfl
                case hr20 => kernel_rfl
                case hQ20 => exact fun _ _ _ h => h
                case hS20 => assumption
                case hy20 =>
                  refine Or.inl ⟨by kernel_rfl, ?_⟩
                  intro w' hSw
                  (try dsimp only at hSw)
                  go_simp
                  (try rfl)
                (try simp only [List.getElem_toArray, List.getElem_cons_succ, List.getElem_cons_zero, Act.put, List.setIfInBounds_toArray, List.set_cons_zero, List.set_cons_succ])
                refine wpAnyH_take (i := 5) (oi := ?o21) (v := ?v21) ?hi21 ?hs21 ?hf21 ?hr21 ?hQ21 ?hy21 ?hS21 ?rest21
                case hi21 => rfl
                case hs21 => kernel_rfl
                case hf21 => kernel_rfl
                case hr21 => kernel_rfl
                case hQ21 => exact fun _ _ _ h => h
                case hS21 => assumption
                case hy21 =>
                  refine Or.inl ⟨by kernel_rfl, ?_⟩
                  intro w' hSw
                  (try dsimp only at hSw)
                  go_simp
                  (try rfl)
                (try simp only [List.getElem_toArray, List.getElem_cons_succ, List.getElem_cons_zero, Act.put, List.setIfInBounds_toArray, List.set_cons_zero, List.set_cons_succ])
                refine wpAnyH_ready (rs := [1, 2]) (by kernel_rfl) (by simp) ?_
                refine AllReadyH.cons rfl (fun K hK => ?_) (AllReadyH.cons rfl (fun K hK => ?_) AllReadyH.nil)
                · have hb2 := cell_blk HC.out.st.box 2
                  have hbl := blk_lt HC.out.st.box
                  go_simp
                  clear hb2 hbl
                  refine hK.out _ _ trivial (fun hHeld => ?_)
                  clear hK K
                  (try simp only [List.getElem_toArray, List.getElem_cons_succ, List.getElem_cons_zero, Act.put, List.setIfInBounds_toArray, List.set_cons_zero, List.set_cons_succ])
                  refine wpAnyH_ready (rs := [2]) (by kernel_rfl) (by simp) ?_
                  refine AllReadyH.cons rfl (fun K hK => ?_) AllReadyH.nil
                  go_simp
                  have hBq : Below wr.heap.size wr (wr.drew.alloc (.cells #[] 3)) := ((Below.refl _ _).drew).alloc (Nat.le_refl _) _
                  have HQ1 := Lib.hid (HC.out.next hBq)
                  have hmq : (wr.drew.alloc (.cells #[] 3)).ownsRow wr.heap.size 3 1 (.slice (some ⟨wr.heap.size, 0, none⟩) 0 0) 0 [] := World.ownsRow_made wr.drew #[] 0 (Nat.le_refl _) (by unfold maxLen; omega) (by simp)
                  have hrq : (wr.drew.alloc (.cells #[] 3)).ownsRow lo0 3 1 (.slice (some ⟨gr, 0, none⟩) (n + 1) cr) (n + 1) (intCells acc) := owns_bl hrow hBq
                  refine hK.out _ _ trivial (fun hHeld => ?_)
                  clear hK K
                  (try simp only [List.getElem_toArray, List.getElem_cons_succ, List.getElem_cons_zero, Act.put, List.setIfInBounds_toArray, List.set_cons_zero, List.set_cons_succ])
                  refine wpAnyH_ready (rs := [6]) (by kernel_rfl) (by simp) ?_
                  refine AllReadyH.cons rfl (fun K hK => ?_) AllReadyH.nil
                  refine step_append_t rfl (.tmp 105) (.tmp 108) 26 rfl wr.heap.size 3 iI (.int .i64 0) 1 8 Tryz.underlying26 gi gz0 gz1 gz2 rfl (by decide) _ 0 [] (by simp [Act.eval]) hmq ⟨gr, 0, none⟩ n cr (intCells (acc.take n)) (by simp [Act.eval]) (by rw [intCells_len, HTN.out, Nat.mul_one]) (HROWC.out _ hrq) (intCells_cell _) (by unfold maxLen; omega) (by omega) hBq.size ?_
                  intro v6 w6 hown6 hg6
                  rw [Nat.zero_add, List.nil_append] at hown6
                  obtain ⟨a6, c6, rfl⟩ := owns_form hown6
                  have hB6 : Below wr.heap.size wr w6 := hBq.grown hg6 hBq.size (fun x hx => (hmq.lt x hx).1)
                  have HQ2 := Lib.hid (HC.out.next hB6)
                  refine hK.out _ _ trivial (fun hHeld => ?_)
                  clear hK K
                  (try simp only [List.getElem_toArray, List.getElem_cons_succ, List.getElem_cons_zero, Act.put, List.setIfInBounds_toArray, List.set_cons_zero, List.set_cons_succ])
                  refine wpAnyH_ready (rs := [7]) (by kernel_rfl) (by simp) ?_
                  refine AllReadyH.cons rfl (fun K hK => ?_) AllReadyH.nil
                  go_simp
                  have hB7 := bt hB6 (bl_al w6 (.cells #[.slice a6 n c6] 26))
                  have HQ3 := Lib.hid (HC.out.next hB7)
                  have hown7 := hown6.alloc (.cells #[.slice a6 n c6] 26)
                  have hrow7 := owns_bl hrow hB7
                  refine hK.out _ _ trivial (fun hHeld => ?_)
                  clear hK K
                  (try simp only [List.getElem_toArray, List.getElem_cons_succ, List.getElem_cons_zero, Act.put, List.setIfInBounds_toArray, List.set_cons_zero, List.set_cons_succ])
                  refine wpAnyH_ready (rs := [8]) (by kernel_rfl) (by simp) ?_
                  refine AllReadyH.cons rfl (fun K hK => ?_) AllReadyH.nil
                  refine step_append_t rfl (.tmp 104) (.tmp 110) 25 rfl w3.heap.size 26 iL (.slice none 0 0) 1 24 Tryz.underlying25 gj gy0 gy1 gy2 rfl (by decide) u2 R.length vs (by simp [Act.eval]) HQ3.out.st.own.2.1 ⟨w6.heap.size, 0, none⟩ 1 1 [.slice a6 n c6] (by simp [Act.eval]) rfl news_one (by intro y hy; simp at hy; subst hy; rfl) (by unfold maxLen; omega) (by omega) (Nat.le_trans HQ3.out.le HQ3.out.hi) ?_
                  intro v8 w8 hown8 hg8
                  obtain ⟨a8, c8, rfl⟩ := owns_form hown8
                  have HP := Lib.hid (HQ3.out.st.pushR (lo := wr.heap.size) (v := .slice a6 n c6) (r := acc.take n) (by rw [HTN.out]; exact World.ownsRow.mono hown7 (Nat.le_trans HC.out.le HC.out.hi)) (fun j x g hx hg => Nat.lt_of_lt_of_le (HC.out.l1 j x g hx hg) HC.out.hi) (fun g hg => (hown6.lt g hg).1) (fun g hg => Nat.lt_of_lt_of_le (HC.out.l3 g hg) HC.out.hi) hg8 hown8)
                  have hrow8 := owns_keep hrow7 HQ3.out.st.own.2.1 (by decide) hg8
                  have d2 := cell_blk HP.out.box 2
                  have e2 := free_blk HP.out.box 2
                  have l8 := blk_lt HP.out.box
                  refine hK.out _ _ trivial (fun hHeld => ?_)
                  clear hK K
                  (try simp only [List.getElem_toArray, List.getElem_cons_succ, List.getElem_cons_zero, Act.put, List.setIfInBounds_toArray, List.set_cons_zero, List.set_cons_succ])
                  refine wpAnyH_take (i := 9) (oi := ?o22) (v := ?v22) ?hi22 ?hs22 ?hf22 ?hr22 ?hQ22 ?hy22 ?hS22 ?rest22
                  case hi22 => rfl
                  case hs22 => kernel_rfl
                  case hf22 => kernel_rfl
                  case hr22 => kernel_rfl
                  case hQ22 => exact fun _ _ _ h => h
                  case hS22 => assumption
                  case hy22 =>
                    refine Or.inl ⟨by kernel_rfl, ?_⟩
                    intro w' hSw
                    (try dsimp only at hSw)
                    go_simp
                    (try rfl)
                  (try simp only [List.getElem_toArray, List.getElem_cons_succ, List.getElem_cons_zero, Act.put, List.setIfInBounds_toArray, List.set_cons_zero, List.set_cons_succ])
                  refine wpAnyH_ready (rs := [10]) (by kernel_rfl) (by simp) ?_
                  refine AllReadyH.cons rfl (fun K hK => ?_) AllReadyH.nil
                  go_simp
                  refine hK.out _ _ trivial (fun hHeld => ?_)
                  clear hK K
                  (try simp only [List.getElem_toArray, List.getElem_cons_succ, List.getElem_cons_zero, Act.put, List.setIfInBounds_toArray, List.set_cons_zero, List.set_cons_succ])
                  refine wpAnyH_done (by kernel_rfl) ?_ _
                  refine NoPanic.normal ?_
                  go_wp2_with fail
                  go_meet
                  case rel =>
                    refine ⟨_, _, _, rfl, by simpa using HP.out.set 2 (.slice a8 (R.length + 1) c8), ?_⟩
                    have h9 := ownsRow_setCell_other (a := ⟨ob, 2, none⟩) hrow8 (own_ne_blk hrow8 HP.out.box (by decide)) (.slice a8 (R.length + 1) c8)
                    rw [h9.cellAt n (by omega)]
                    exact intCells_at HXX.out
                · go_simp
                  have hBq : Below wr.heap.size wr (wr.drew.alloc (.cells #[] 3)) := ((Below.refl _ _).drew).alloc (Nat.le_refl _) _
                  have HQ1 := Lib.hid (HC.out.next hBq)
                  have hmq : (wr.drew.alloc (.cells #[] 3)).ownsRow wr.heap.size 3 1 (.slice (some ⟨wr.heap.size, 0, none⟩) 0 0) 0 [] := World.ownsRow_made wr.drew #[] 0 (Nat.le_refl _) (by unfold maxLen; omega) (by simp)
                  have hrq : (wr.drew.alloc (.cells #[] 3)).ownsRow lo0 3 1 (.slice (some ⟨gr, 0, none⟩) (n + 1) cr) (n + 1) (intCells acc) := owns_bl hrow hBq
                  refine hK.out _ _ trivial (fun hHeld => ?_)
                  clear hK K
                  (try simp only [List.getElem_toArray, List.getElem_cons_succ, List.getElem_cons_zero, Act.put, List.setIfInBounds_toArray, List.set_cons_zero, List.set_cons_succ])
                  refine wpAnyH_ready (rs := [1, 6]) (by kernel_rfl) (by simp) ?_
                  refine AllReadyH.cons rfl (fun K hK => ?_) (AllReadyH.cons rfl (fun K hK => ?_) AllReadyH.nil)
                  · have hb2 := cell_blk HC.out.st.box 2
                    have hbl := blk_lt HC.out.st.box
                    go_simp
                    clear hb2 hbl
                    refine hK.out _ _ trivial (fun hHeld => ?_)
                    clear hK K
                    (try simp only [List.getElem_toArray, List.getElem_cons_succ, List.getElem_cons_zero, Act.put, List.setIfInBounds_toArray, List.set_cons_zero, List.set_cons_succ])
                    refine wpAnyH_ready (rs := [6]) (by kernel_rfl) (by simp) ?_
                    refine AllReadyH.cons rfl (fun K hK => ?_) AllReadyH.nil
                    refine step_append_t rfl (.tmp 105) (.tmp 108) 26 rfl wr.heap.size 3 iI (.int .i64 0) 1 8 Tryz.underlying26 gi gz0 gz1 gz2 rfl (by decide) _ 0 [] (by simp [Act.eval]) hmq ⟨gr, 0, none⟩ n cr (intCells (acc.take n)) (by simp [Act.eval]) (by rw [intCells_len, HTN.out, Nat.mul_one]) (HROWC.out _ hrq) (intCells_cell _) (by unfold maxLen; omega) (by omega) hBq.size ?_
                    intro v6 w6 hown6 hg6
                    rw [Nat.zero_add, List.nil_append] at hown6
                    obtain ⟨a6, c6, rfl⟩ := owns_form hown6
                    have hB6 : Below wr.heap.size wr w6 := hBq.grown hg6 hBq.size (fun x hx => (hmq.lt x hx).1)
                    have HQ2 := Lib.hid (HC.out.next hB6)
                    refine hK.out _ _ trivial (fun hHeld => ?_)
                    clear hK K
                    (try simp only [List.getElem_toArray, List.getElem_cons_succ, List.getElem_cons_zero, Act.put, List.setIfInBounds_toArray, List.set_cons_zero, List.set_cons_succ])
                    refine wpAnyH_ready (rs := [7]) (by kernel_rfl) (by simp) ?_
                    refine AllReadyH.cons rfl (fun K hK => ?_) AllReadyH.nil
                    go_simp
                    have hB7 := bt hB6 (bl_al w6 (.cells #[.slice a6 n c6] 26))
                    have HQ3 := Lib.hid (HC.out.next hB7)
                    have hown7 := hown6.alloc (.cells #[.slice a6 n c6] 26)
                    have hrow7 := owns_bl hrow hB7
                    refine hK.out _ _ trivial (fun hHeld => ?_)
                    clear hK K
                    (try simp only [List.getElem_toArray, List.getElem_cons_succ, List.getElem_cons_zero, Act.put, List.setIfInBounds_toArray, List.set_cons_zero, List.set_cons_succ])
                    refine wpAnyH_ready (rs := [8]) (by kernel_rfl) (by simp) ?_
                    refine AllReadyH.cons rfl (fun K hK => ?_) AllReadyH.nil
                    refine step_append_t rfl (.tmp 104) (.tmp 110) 25 rfl w3.heap.size 26 iL (.slice none 0 0) 1 24 Tryz.underlying25 gj gy0 gy1 gy2 rfl (by decide) u2 R.length vs (by simp [Act.eval]) HQ3.out.st.own.2.1 ⟨w6.heap.size, 0, none⟩ 1 1 [.slice a6 n c6] (by simp [Act.eval]) rfl news_one (by intro y hy; simp at hy; subst hy; rfl) (by unfold maxLen; omega) (by omega) (Nat.le_trans HQ3.out.le HQ3.out.hi) ?_
                    intro v8 w8 hown8 hg8
                    obtain ⟨a8, c8, rfl⟩ := owns_form hown8
                    have HP := Lib.hid (HQ3.out.st.pushR (lo := wr.heap.size) (v := .slice a6 n c6) (r := acc.take n) (by rw [HTN.out]; exact World.ownsRow.mono hown7 (Nat.le_trans HC.out.le HC.out.hi)) (fun j x g hx hg => Nat.lt_of_lt_of_le (HC.out.l1 j x g hx hg) HC.out.hi) (fun g hg => (hown6.lt g hg).1) (fun g hg => Nat.lt_of_lt_of_le (HC.out.l3 g hg) HC.out.hi) hg8 hown8)
                    have hrow8 := owns_keep hrow7 HQ3.out.st.own.2.1 (by decide) hg8
                    have d2 := cell_blk HP.out.box 2
                    have e2 := free_blk HP.out.box 2
                    have l8 := blk_lt HP.out.box
                    refine hK.out _ _ trivial (fun hHeld => ?_)
                    clear hK K
                    (try simp only [List.getElem_toArray, List.getElem_cons_succ, List.getElem_cons_zero, Act.put, List.setIfInBounds_toArray, List.set_cons_zero, List.set_cons_succ])
                    refine wpAnyH_take (i := 9) (oi := ?o23) (v := ?v23) ?hi23 ?hs23 ?hf23 ?hr23 ?hQ23 ?hy23 ?hS23 ?rest23
                    case hi23 => rfl
                    case hs23 => kernel_rfl
                    case hf23 => kernel_rfl
                    case hr23 => kernel_rfl
                    case hQ23 => exact fun _ _ _ h => h
                    case hS23 => assumption
                    case hy23 =>
                      refine Or.inl ⟨by kernel_rfl, ?_⟩
                      intro w' hSw
                      (try dsimp only at hSw)
                      go_simp
                      (try rfl)
                    (try simp only [List.getElem_toArray, List.getElem_cons_succ, List.getElem_cons_zero, Act.put, List.setIfInBounds_toArray, List.set_cons_zero, List.set_cons_succ])
                    refine wpAnyH_ready (rs := [10]) (by kernel_rfl) (by simp) ?_
                    refine AllReadyH.cons rfl (fun K hK => ?_) AllReadyH.nil
                    go_simp
                    refine hK.out _ _ trivial (fun hHeld => ?_)
                    clear hK K
                    (try simp only [List.getElem_toArray, List.getElem_cons_succ, List.getElem_cons_zero, Act.put, List.setIfInBounds_toArray, List.set_cons_zero, List.set_cons_succ])
                    refine wpAnyH_done (by kernel_rfl) ?_ _
                    refine NoPanic.normal ?_
                    go_wp2_with fail
                    go_meet
                    case rel =>
                      refine ⟨_, _, _, rfl, by simpa using HP.out.set 2 (.slice a8 (R.length + 1) c8), ?_⟩
                      have h9 := ownsRow_setCell_other (a := ⟨ob, 2, none⟩) hrow8 (own_ne_blk hrow8 HP.out.box (by decide)) (.slice a8 (R.length + 1) c8)
                      rw [h9.cellAt n (by omega)]
                      exact intCells_at HXX.out
                  · refine step_append_t rfl (.tmp 105) (.tmp 108) 26 rfl wr.heap.size 3 iI (.int .i64 0) 1 8 Tryz.underlying26 gi gz0 gz1 gz2 rfl (by decide) _ 0 [] (by simp [Act.eval]) hmq ⟨gr, 0, none⟩ n cr (intCells (acc.take n)) (by simp [Act.eval]) (by rw [intCells_len, HTN.out, Nat.mul_one]) (HROWC.out _ hrq) (intCells_cell _) (by unfold maxLen; omega) (by omega) hBq.size ?_
                    intro v6 w6 hown6 hg6
                    rw [Nat.zero_add, List.nil_append] at hown6
                    obtain ⟨a6, c6, rfl⟩ := owns_form hown6
                    have hB6 : Below wr.heap.size wr w6 := hBq.grown hg6 hBq.size (fun x hx => (hmq.lt x hx).1)
                    have HQ2 := Lib.hid (HC.out.next hB6)
                    refine hK.out _ _ trivial (fun hHeld => ?_)
                    clear hK K
                    (try simp only [List.getElem_toArray, List.getElem_cons_succ, List.getElem_cons_zero, Act.put, List.setIfInBounds_toArray, List.set_cons_zero, List.set_cons_succ])
                    refine wpAnyH_ready (rs := [1, 7]) (by kernel_rfl) (by simp) ?_
                    refine AllReadyH.cons rfl (fun K hK => ?_) (AllReadyH.cons rfl (fun K hK => ?_) AllReadyH.nil)
                    · have hb2 := cell_blk HQ2.out.st.box 2
                      have hbl := blk_lt HQ2.out.st.box
                      go_simp
                      clear hb2 hbl
                      refine hK.out _ _ trivial (fun hHeld => ?_)
                      clear hK K
                      (try simp only [List.getElem_toArray, List.getElem_cons_succ, List.getElem_cons_zero, Act.put, List.setIfInBounds_toArray, List.set_cons_zero, List.set_cons_succ])
                      refine wpAnyH_ready (rs := [7]) (by kernel_rfl) (by simp) ?_
                      refine AllReadyH.cons rfl (fun K hK => ?_) AllReadyH.nil
                      go_simp
                      have hB7 := bt hB6 (bl_al w6 (.cells #[.slice a6 n c6] 26))
                      have HQ3 := Lib.hid (HC.out.next hB7)
                      have hown7 := hown6.alloc (.cells #[.slice a6 n c6] 26)
                      have hrow7 := owns_bl hrow hB7
                      refine hK.out _ _ trivial (fun hHeld => ?_)
                      clear hK K
                      (try simp only [List.getElem_toArray, List.getElem_cons_succ, List.getElem_cons_zero, Act.put, List.setIfInBounds_toArray, List.set_cons_zero, List.set_cons_succ])
                      refine wpAnyH_ready (rs := [8]) (by kernel_rfl) (by simp) ?_
                      refine AllReadyH.cons rfl (fun K hK => ?_) AllReadyH.nil
                      refine step_append_t rfl (.tmp 104) (.tmp 110) 25 rfl w3.heap.size 26 iL (.slice none 0 0) 1 24 Tryz.underlying25 gj gy0 gy1 gy2 rfl (by decide) u2 R.length vs (by simp [Act.eval]) HQ3.out.st.own.2.1 ⟨w6.heap.size, 0, none⟩ 1 1 [.slice a6 n c6] (by simp [Act.eval]) rfl news_one (by intro y hy; simp at hy; subst hy; rfl) (by unfold maxLen; omega) (by omega) (Nat.le_trans HQ3.out.le HQ3.out.hi) ?_
                      intro v8 w8 hown8 hg8
                      obtain ⟨a8, c8, rfl⟩ := owns_form hown8
                      have HP := Lib.hid (HQ3.out.st.pushR (lo := wr.heap.size) (v := .slice a6 n c6) (r := acc.take n) (by rw [HTN.out]; exact World.ownsRow.mono hown7 (Nat.le_trans HC.out.le HC.out.hi)) (fun j x g hx hg => Nat.lt_of_lt_of_le (HC.out.l1 j x g hx hg) HC.out.hi) (fun g hg => (hown6.lt g hg).1) (fun g hg => Nat.lt_of_lt_of_le (HC.out.l3 g hg) HC.out.hi) hg8 hown8)
                      have hrow8 := owns_keep hrow7 HQ3.out.st.own.2.1 (by decide) hg8
                      have d2 := cell_blk HP.out.box 2
                      have e2 := free_blk HP.out.box 2
                      have l8 := blk_lt HP.out.box
                      refine hK.out _ _ trivial (fun hHeld => ?_)
                      clear hK K
                      (try simp only [List.getElem_toArray, List.getElem_cons_succ, List.getElem_cons_zero, Act.put, List.setIfInBounds_toArray, List.set_cons_zero, List.set_cons_succ])
                      refine wpAnyH_take (i := 9) (oi := ?o24) (v := ?v24) ?hi24 ?hs24 ?hf24 ?hr24 ?hQ24 ?hy24 ?hS24 ?rest24
                      case hi24 => rfl
                      case hs24 => kernel_rfl
                      case hf24 => kernel_rfl
                      case hr24 => kernel_rfl
                      case hQ24 => exact fun _ _ _ h => h
                      case hS24 => assumption
                      case hy24 =>
                        refine Or.inl ⟨by kernel_rfl, ?_⟩
                        intro w' hSw
                        (try dsimp only at hSw)
                        go_simp
                        (try rfl)
                      (try simp only [List.getElem_toArray, List.getElem_cons_succ, List.getElem_cons_zero, Act.put, List.setIfInBounds_toArray, List.set_cons_zero, List.set_cons_succ])
                      refine wpAnyH_ready (rs := [10]) (by kernel_rfl) (by simp) ?_
                      refine AllReadyH.cons rfl (fun K hK => ?_) AllReadyH.nil
                      go_simp
                      refine hK.out _ _ trivial (fun hHeld => ?_)
                      clear hK K
                      (try simp only [List.getElem_toArray, List.getElem_cons_succ, List.getElem_cons_zero, Act.put, List.setIfInBounds_toArray, List.set_cons_zero, List.set_cons_succ])
                      refine wpAnyH_done (by kernel_rfl) ?_ _
                      refine NoPanic.normal ?_
                      go_wp2_with fail
                      go_meet
                      case rel =>
                        refine ⟨_, _, _, rfl, by simpa using HP.out.set 2 (.slice a8 (R.length + 1) c8), ?_⟩
                        have h9 := ownsRow_setCell_other (a := ⟨ob, 2, none⟩) hrow8 (own_ne_blk hrow8 HP.out.box (by decide)) (.slice a8 (R.length + 1) c8)
                        rw [h9.cellAt n (by omega)]
                        exact intCells_at HXX.out
                    · go_simp
                      have hB7 := bt hB6 (bl_al w6 (.cells #[.slice a6 n c6] 26))
                      have HQ3 := Lib.hid (HC.out.next hB7)
                      have hown7 := hown6.alloc (.cells #[.slice a6 n c6] 26)
                      have hrow7 := owns_bl hrow hB7
                      refine hK.out _ _ trivial (fun hHeld => ?_)
                      clear hK K
                      (try simp only [List.getElem_toArray, List.getElem_cons_succ, List.getElem_cons_zero, Act.put, List.setIfInBounds_toArray, List.set_cons_zero, List.set_cons_succ])
                      refine wpAnyH_ready (rs := [1]) (by kernel_rfl) (by simp) ?_
                      refine AllReadyH.cons rfl (fun K hK => ?_) AllReadyH.nil
                      have hb2 := cell_blk HQ2.out.st.box 2
                      have hbl := blk_lt HQ2.out.st.box
                      go_simp
                      clear hb2 hbl
                      refine hK.out _ _ trivial (fun hHeld => ?_)
                      clear hK K
                      (try simp only [List.getElem_toArray, List.getElem_cons_succ, List.getElem_cons_zero, Act.put, List.setIfInBounds_toArray, List.set_cons_zero, List.set_cons_succ])
                      refine wpAnyH_ready (rs := [8]) (by kernel_rfl) (by simp) ?_
                      refine AllReadyH.cons rfl (fun K hK => ?_) AllReadyH.nil
                      refine step_append_t rfl (.tmp 104) (.tmp 110) 25 rfl w3.heap.size 26 iL (.slice none 0 0) 1 24 Tryz.underlying25 gj gy0 gy1 gy2 rfl (by decide) u2 R.length vs (by simp [Act.eval]) HQ3.out.st.own.2.1 ⟨w6.heap.size, 0, none⟩ 1 1 [.slice a6 n c6] (by simp [Act.eval]) rfl news_one (by intro y hy; simp at hy; subst hy; rfl) (by unfold maxLen; omega) (by omega) (Nat.le_trans HQ3.out.le HQ3.out.hi) ?_
                      intro v8 w8 hown8 hg8
                      obtain ⟨a8, c8, rfl⟩ := owns_form hown8
                      have HP := Lib.hid (HQ3.out.st.pushR (lo := wr.heap.size) (v := .slice a6 n c6) (r := acc.take n) (by rw [HTN.out]; exact World.ownsRow.mono hown7 (Nat.le_trans HC.out.le HC.out.hi)) (fun j x g hx hg => Nat.lt_of_lt_of_le (HC.out.l1 j x g hx hg) HC.out.hi) (fun g hg => (hown6.lt g hg).1) (fun g hg => Nat.lt_of_lt_of_le (HC.out.l3 g hg) HC.out.hi) hg8 hown8)
                      have hrow8 := owns_keep hrow7 HQ3.out.st.own.2.1 (by decide) hg8
                      have d2 := cell_blk HP.out.box 2
                      have e2 := free_blk HP.out.box 2
                      have l8 := blk_lt HP.out.box
                      refine hK.out _ _ trivial (fun hHeld => ?_)
                      clear hK K
                      (try simp only [List.getElem_toArray, List.getElem_cons_succ, List.getElem_cons_zero, Act.put, List.setIfInBounds_toArray, List.set_cons_zero, List.set_cons_succ])
                      refine wpAnyH_take (i := 9) (oi := ?o25) (v := ?v25) ?hi25 ?hs25 ?hf25 ?hr25 ?hQ25 ?hy25 ?hS25 ?rest25
                      case hi25 => rfl
                      case hs25 => kernel_rfl
                      case hf25 => kernel_rfl
                      case hr25 => kernel_rfl
                      case hQ25 => exact fun _ _ _ h => h
                      case hS25 => assumption
                      case hy25 =>
                        refine Or.inl ⟨by kernel_rfl, ?_⟩
                        intro w' hSw
                        (try dsimp only at hSw)
                        go_simp
                        (try rfl)
                      (try simp only [List.getElem_toArray, List.getElem_cons_succ, List.getElem_cons_zero, Act.put, List.setIfInBounds_toArray, List.set_cons_zero, List.set_cons_succ])
                      refine wpAnyH_ready (rs := [10]) (by kernel_rfl) (by simp) ?_
                      refine AllReadyH.cons rfl (fun K hK => ?_) AllReadyH.nil
                      go_simp
                      refine hK.out _ _ trivial (fun hHeld => ?_)
                      clear hK K
                      (try simp only [List.getElem_toArray, List.getElem_cons_succ, List.getElem_cons_zero, Act.put, List.setIfInBounds_toArray, List.set_cons_zero, List.set_cons_succ])
                      refine wpAnyH_done (by kernel_rfl) ?_ _
                      refine NoPanic.normal ?_
                      go_wp2_with fail
                      go_meet
                      case rel =>
                        refine ⟨_, _, _, rfl, by simpa using HP.out.set 2 (.slice a8 (R.length + 1) c8), ?_⟩
                        have h9 := ownsRow_setCell_other (a := ⟨ob, 2, none⟩) hrow8 (own_ne_blk hrow8 HP.out.box (by decide)) (.slice a8 (R.length + 1) c8)
                        rw [h9.cellAt n (by omega)]
                        exact intCells_at HXX.out
              case rest =>
                obtain ⟨v', a8, c8, rfl, hO2, hcx⟩ := hcut
                have HO2 := Lib.hid hO2
                have hlx := World.block_lt_of_cell? wc _ hcx
                clear hO2 hrow HC
                go_upto_region 28 with fail
                refine wp_region_noPanic ?_
                refine wp_region_held_drew (S := (fun _ => True)) (by kernel_rfl) trivial (fun hHeld => ?_)
                refine wpAnyH_take (i := 0) (oi := ?o26) (v := ?v26) ?hi26 ?hs26 ?hf26 ?hr26 ?hQ26 ?hy26 ?hS26 ?rest26
                case hi26 => rfl
                case hs26 => kernel_rfl
                case hf26 => kernel_rfl
                case hr26 => kernel_rfl
                case hQ26 => exact fun _ _ _ h => h
                case hS26 => assumption
                case hy26 =>
                  refine Or.inl ⟨by kernel_rfl, ?_⟩
                  intro w' hSw
                  (try dsimp only at hSw)
                  go_simp
                  (try rfl)
                (try simp only [List.getElem_toArray, List.getElem_cons_zero, Act.put, List.setIfInBounds_toArray, List.set_cons_zero, List.set_cons_succ])
                refine wpAnyH_take (i := 2) (oi := ?o27) (v := ?v27) ?hi27 ?hs27 ?hf27 ?hr27 ?hQ27 ?hy27 ?hS27 ?rest27
                case hi27 => rfl
                case hs27 => kernel_rfl
                case hf27 => kernel_rfl
                case hr27 => kernel_rfl
                case hQ27 => exact fun _ _ _ h => h
                case hS27 => assumption
                case hy27 =>
                  refine Or.inl ⟨by kernel_rfl, ?_⟩
                  intro w' hSw
                  (try dsimp only at hSw)
                  go_simp
                  (try rfl)
                (try simp only [List.getElem_toArray, List.getElem_cons_succ, List.getElem_cons_zero, Act.put, List.setIfInBounds_toArray, List.set_cons_zero, List.set_cons_succ])
                refine wpAnyH_take (i := 3) (oi := ?o28) (v := ?v28) ?hi28 ?hs28 ?hf28 ?hr28 ?hQ28 ?hy28 ?hS28 ?rest28
                case hi28 => rfl
                case hs28 => kernel_rfl
                case hf28 => kernel_rfl
                case hr28 => kernel_rfl
                case hQ28 => exact fun _ _ _ h => h
                case hS28 => assumption
                case hy28 =>
                  refine Or.inl ⟨by kernel_rfl, ?_⟩
                  intro w' hSw
                  (try dsimp only at hSw)
                  go_simp
                  (try rfl)
                (try simp only [List.getElem_toArray, List.getElem_cons_succ, List.getElem_cons_zero, Act.put, List.setIfInBounds_toArray, List.set_cons_zero, List.set_cons_succ])
                refine wpAnyH_take (i := 4) (oi := ?o29) (v := ?v29) ?hi29 ?hs29 ?hf29 ?hr29 ?hQ29 ?hy29 ?hS29 ?rest29
                case hi29 => rfl
                case hs29 => kernel_rfl
                case hf29 => kernel_rfl
                case hr29 => kernel_rfl
                case hQ29 => exact fun _ _ _ h => h
                case hS29 => assumption
                case hy29 =>
                  refine Or.inl ⟨by kernel_rfl, ?_⟩
                  intro w' hSw
                  (try dsimp only at hSw)
                  go_simp
                  (try rfl)
                (try simp only [List.getElem_toArray, List.getElem_cons_succ, List.getElem_cons_zero, Act.put, List.setIfInBounds_toArray, List.set_cons_zero, List.set_cons_succ])
                refine wpAnyH_ready (rs := [1, 5]) (by kernel_rfl) (by simp) ?_
                refine AllReadyH.cons rfl (fun K hK => ?_) (AllReadyH.cons rfl (fun K hK => ?_) AllReadyH.nil)
                · have hb3 := cell_blk HO2.out.box 3
                  have hbl := blk_lt HO2.out.box
                  go_simp
                  clear hb3 hbl
                  refine hK.out _ _ trivial (fun hHeld => ?_)
                  clear hK K
                  (try simp only [List.getElem_toArray, List.getElem_cons_succ, List.getElem_cons_zero, Act.put, List.setIfInBounds_toArray, List.set_cons_zero, List.set_cons_succ])
                  refine wpAnyH_ready (rs := [5]) (by kernel_rfl) (by simp) ?_
                  refine AllReadyH.cons rfl (fun K hK => ?_) AllReadyH.nil
                  go_simp
                  refine hK.out _ _ trivial (fun hHeld => ?_)
                  clear hK K
                  (try simp only [List.getElem_toArray, List.getElem_cons_succ, List.getElem_cons_zero, Act.put, List.setIfInBounds_toArray, List.set_cons_zero, List.set_cons_succ])
                  refine wpAnyH_ready (rs := [6]) (by kernel_rfl) (by simp) ?_
                  refine AllReadyH.cons rfl (fun K hK => ?_) AllReadyH.nil
                  go_simp
                  have hBw : Below wc.heap.size wc (wc.drew.alloc (.cells #[.int .i64 x] 3)) := ((Below.refl _ _).drew).alloc (Nat.le_refl _) _
                  have HW1 := Lib.hid (HO2.out.next hBw)
                  refine hK.out _ _ trivial (fun hHeld => ?_)
                  clear hK K
                  (try simp only [List.getElem_toArray, List.getElem_cons_succ, List.getElem_cons_zero, Act.put, List.setIfInBounds_toArray, List.set_cons_zero, List.set_cons_succ])
                  refine wpAnyH_ready (rs := [7]) (by kernel_rfl) (by simp) ?_
                  refine AllReadyH.cons rfl (fun K hK => ?_) AllReadyH.nil
                  refine step_append_lies _ rfl (.tmp 114) (.tmp 119) 26 rfl w3.heap.size 3 iI (.int .i64 0) 1 8 Tryz.underlying26 gi gz0 gz1 gz2 rfl (by decide) u3 Y.length (intCells Y) (by simp [Act.eval]) HW1.out.own.2.2.2.1 ⟨wc.heap.size, 0, none⟩ 1 1 [.int .i64 x] (by simp [Act.eval]) rfl news_one (by intro y hy; simp at hy; subst hy; rfl) (by omega) (by unfold maxLen; omega) (by omega) HW1.out.bel.size _ rfl ?_
                  intro g8 c8 w8 hown8 hg8 hat8 _
                  have HP := Lib.hid (HW1.out.pushY hg8 hown8 (hat8.imp id (fun e => Nat.le_of_eq e.symm)))
                  have d3 := cell_blk HP.out.box 3
                  have e3 := free_blk HP.out.box 3
                  have l8 := blk_lt HP.out.box
                  refine hK.out _ _ trivial (fun hHeld => ?_)
                  clear hK K
                  (try simp only [List.getElem_toArray, List.getElem_cons_succ, List.getElem_cons_zero, Act.put, List.setIfInBounds_toArray, List.set_cons_zero, List.set_cons_succ])
                  refine wpAnyH_take (i := 8) (oi := ?o30) (v := ?v30) ?hi30 ?hs30 ?hf30 ?hr30 ?hQ30 ?hy30 ?hS30 ?rest30
                  case hi30 => rfl
                  case hs30 => kernel_rfl
                  case hf30 => kernel_rfl
                  case hr30 => kernel_rfl
                  case hQ30 => exact fun _ _ _ h => h
                  case hS30 => assumption
                  case hy30 =>
                    refine Or.inl ⟨by kernel_rfl, ?_⟩
                    intro w' hSw
                    (try dsimp only at hSw)
                    go_simp
                    (try rfl)
                  (try simp only [List.getElem_toArray, List.getElem_cons_succ, List.getElem_cons_zero, Act.put, List.setIfInBounds_toArray, List.set_cons_zero, List.set_cons_succ])
                  refine wpAnyH_ready (rs := [9]) (by kernel_rfl) (by simp) ?_
                  refine AllReadyH.cons rfl (fun K hK => ?_) AllReadyH.nil
                  go_simp
                  refine hK.out _ _ trivial (fun hHeld => ?_)
                  clear hK K
                  (try simp only [List.getElem_toArray, List.getElem_cons_succ, List.getElem_cons_zero, Act.put, List.setIfInBounds_toArray, List.set_cons_zero, List.set_cons_succ])
                  refine wpAnyH_done (by kernel_rfl) ?_ _
                  refine NoPanic.normal ?_
                  have HO3 := Lib.hid (HP.out.set 3 (.slice (some ⟨g8, 0, none⟩) (Y.length + 1) c8))
                  have HD2 : Hid (rowsG n (t.drop (a + 1 - 1)) (a + 1) (R ++ [acc.take n]) (Y ++ [x]) = G) := Lib.hid (by
                    have h := HD.out
                    rw [rowsG, if_pos HW.out, HACC.out] at h
                    rw [HXG.out, Nat.add_sub_cancel]
                    exact h)
                  clear HP d3 e3 l8 hg8 hown8 hat8
                  go_wp2_with fail
                  go_roundg (t.length + 1 - (a + 1))
                  case measure => omega
                  case rel => exact ⟨a + 1, R ++ [acc.take n], Y ++ [x], vs ++ [v'], _, _, by omega, by omega, rfl, by go_num, by rw [List.length_append, HRl.out.symm]; rfl, by rw [List.length_append, HYl.out.symm]; rfl, HD2.out, by simpa using HO3.out⟩
                · go_simp
                  refine hK.out _ _ trivial (fun hHeld => ?_)
                  clear hK K
                  (try simp only [List.getElem_toArray, List.getElem_cons_succ, List.getElem_cons_zero, Act.put, List.setIfInBounds_toArray, List.set_cons_zero, List.set_cons_succ])
                  refine wpAnyH_ready (rs := [1, 6]) (by kernel_rfl) (by simp) ?_
                  refine AllReadyH.cons rfl (fun K hK => ?_) (AllReadyH.cons rfl (fun K hK => ?_) AllReadyH.nil)
                  · have hb3 := cell_blk HO2.out.box 3
                    have hbl := blk_lt HO2.out.box
                    go_simp
                    clear hb3 hbl
                    refine hK.out _ _ trivial (fun hHeld => ?_)
                    clear hK K
                    (try simp only [List.getElem_toArray, List.getElem_cons_succ, List.getElem_cons_zero, Act.put, List.setIfInBounds_toArray, List.set_cons_zero, List.set_cons_succ])
                    refine wpAnyH_ready (rs := [6]) (by kernel_rfl) (by simp) ?_
                    refine AllReadyH.cons rfl (fun K hK => ?_) AllReadyH.nil
                    go_simp
                    have hBw : Below wc.heap.size wc (wc.drew.alloc (.cells #[.int .i64 x] 3)) := ((Below.refl _ _).drew).alloc (Nat.le_refl _) _
                    have HW1 := Lib.hid (HO2.out.next hBw)
                    refine hK.out _ _ trivial (fun hHeld => ?_)
                    clear hK K
                    (try simp only [List.getElem_toArray, List.getElem_cons_succ, List.getElem_cons_zero, Act.put, List.setIfInBounds_toArray, List.set_cons_zero, List.set_cons_succ])
                    refine wpAnyH_ready (rs := [7]) (by kernel_rfl) (by simp) ?_
                    refine AllReadyH.cons rfl (fun K hK => ?_) AllReadyH.nil
                    refine step_append_lies _ rfl (.tmp 114) (.tmp 119) 26 rfl w3.heap.size 3 iI (.int .i64 0) 1 8 Tryz.underlying26 gi gz0 gz1 gz2 rfl (by decide) u3 Y.length (intCells Y) (by simp [Act.eval]) HW1.out.own.2.2.2.1 ⟨wc.heap.size, 0, none⟩ 1 1 [.int .i64 x] (by simp [Act.eval]) rfl news_one (by intro y hy; simp at hy; subst hy; rfl) (by omega) (by unfold maxLen; omega) (by omega) HW1.out.bel.size _ rfl ?_
                    intro g8 c8 w8 hown8 hg8 hat8 _
                    have HP := Lib.hid (HW1.out.pushY hg8 hown8 (hat8.imp id (fun e => Nat.le_of_eq e.symm)))
                    have d3 := cell_blk HP.out.box 3
                    have e3 := free_blk HP.out.box 3
                    have l8 := blk_lt HP.out.box
                    refine hK.out _ _ trivial (fun hHeld => ?_)
                    clear hK K
                    (try simp only [List.getElem_toArray, List.getElem_cons_succ, List.getElem_cons_zero, Act.put, List.setIfInBounds_toArray, List.set_cons_zero, List.set_cons_succ])
                    refine wpAnyH_take (i := 8) (oi := ?o31) (v := ?v31) ?hi31 ?hs31 ?hf31 ?hr31 ?hQ31 ?hy31 ?hS31 ?rest31
                    case hi31 => rfl
                    case hs31 => kernel_rfl
                    case hf31 => kernel_rfl
                    case hr31 => kernel_rfl
                    case hQ31 => exact fun _ _ _ h => h
                    case hS31 => assumption
                    case hy31 =>
                      refine Or.inl ⟨by kernel_rfl, ?_⟩
                      intro w' hSw
                      (try dsimp only at hSw)
                      go_simp
                      (try rfl)
                    (try simp only [List.getElem_toArray, List.getElem_cons_succ, List.getElem_cons_zero, Act.put, List.setIfInBounds_toArray, List.set_cons_zero, List.set_cons_succ])
                    refine wpAnyH_ready (rs := [9]) (by kernel_rfl) (by simp) ?_
                    refine AllReadyH.cons rfl (fun K hK => ?_) AllReadyH.nil
                    go_simp
                    refine hK.out _ _ trivial (fun hHeld => ?_)
                    clear hK K
                    (try simp only [List.getElem_toArray, List.getElem_cons_succ, List.getElem_cons_zero, Act.put, List.setIfInBounds_toArray, List.set_cons_zero, List.set_cons_succ])
                    refine wpAnyH_done (by kernel_rfl) ?_ _
                    refine NoPanic.normal ?_
                    have HO3 := Lib.hid (HP.out.set 3 (.slice (some ⟨g8, 0, none⟩) (Y.length + 1) c8))
                    have HD2 : Hid (rowsG n (t.drop (a + 1 - 1)) (a + 1) (R ++ [acc.take n]) (Y ++ [x]) = G) := Lib.hid (by
                      have h := HD.out
                      rw [rowsG, if_pos HW.out, HACC.out] at h
                      rw [HXG.out, Nat.add_sub_cancel]
                      exact h)
                    clear HP d3 e3 l8 hg8 hown8 hat8
                    go_wp2_with fail
                    go_roundg (t.length + 1 - (a + 1))
                    case measure => omega
                    case rel => exact ⟨a + 1, R ++ [acc.take n], Y ++ [x], vs ++ [v'], _, _, by omega, by omega, rfl, by go_num, by rw [List.length_append, HRl.out.symm]; rfl, by rw [List.length_append, HYl.out.symm]; rfl, HD2.out, by simpa using HO3.out⟩
                  · go_simp
                    have hBw : Below wc.heap.size wc (wc.drew.alloc (.cells #[.int .i64 x] 3)) := ((Below.refl _ _).drew).alloc (Nat.le_refl _) _
                    have HW1 := Lib.hid (HO2.out.next hBw)
                    refine hK.out _ _ trivial (fun hHeld => ?_)
                    clear hK K
                    (try simp only [List.getElem_toArray, List.getElem_cons_succ, List.getElem_cons_zero, Act.put, List.setIfInBounds_toArray, List.set_cons_zero, List.set_cons_succ])
                    refine wpAnyH_ready (rs := [1]) (by kernel_rfl) (by simp) ?_
                    refine AllReadyH.cons rfl (fun K hK => ?_) AllReadyH.nil
                    have hb3 := cell_blk HO2.out.box 3
                    have hbl := blk_lt HO2.out.box
                    go_simp
                    clear hb3 hbl
                    refine hK.out _ _ trivial (fun hHeld => ?_)
                    clear hK K
                    (try simp only [List.getElem_toArray, List.getElem_cons_succ, List.getElem_cons_zero, Act.put, List.setIfInBounds_toArray, List.set_cons_zero, List.set_cons_succ])
                    refine wpAnyH_ready (rs := [7]) (by kernel_rfl) (by simp) ?_
                    refine AllReadyH.cons rfl (fun K hK => ?_) AllReadyH.nil
                    refine step_append_lies _ rfl (.tmp 114) (.tmp 119) 26 rfl w3.heap.size 3 iI (.int .i64 0) 1 8 Tryz.underlying26 gi gz0 gz1 gz2 rfl (by decide) u3 Y.length (intCells Y) (by simp [Act.eval]) HW1.out.own.2.2.2.1 ⟨wc.heap.size, 0, none⟩ 1 1 [.int .i64 x] (by simp [Act.eval]) rfl news_one (by intro y hy; simp at hy; subst hy; rfl) (by omega) (by unfold maxLen; omega) (by omega) HW1.out.bel.size _ rfl ?_
                    intro g8 c8 w8 hown8 hg8 hat8 _
                    have HP := Lib.hid (HW1.out.pushY hg8 hown8 (hat8.imp id (fun e => Nat.le_of_eq e.symm)))
                    have d3 := cell_blk HP.out.box 3
                    have e3 := free_blk HP.out.box 3
                    have l8 := blk_lt HP.out.box
                    refine hK.out _ _ trivial (fun hHeld => ?_)
                    clear hK K
                    (try simp only [List.getElem_toArray, List.getElem_cons_succ, List.getElem_cons_zero, Act.put, List.setIfInBounds_toArray, List.set_cons_zero, List.set_cons_succ])
                    refine wpAnyH_take (i := 8) (oi := ?o32) (v := ?v32) ?hi32 ?hs32 ?hf32 ?hr32 ?hQ32 ?hy32 ?hS32 ?rest32
                    case hi32 => rfl
                    case hs32 => kernel_rfl
                    case hf32 => kernel_rfl
                    case hr32 => kernel_rfl
                    case hQ32 => exact fun _ _ _ h => h
                    case hS32 => assumption
                    case hy32 =>
                      refine Or.inl ⟨by kernel_rfl, ?_⟩
                      intro w' hSw
                      (try dsimp only at hSw)
                      go_simp
                      (try rfl)
                    (try simp only [List.getElem_toArray, List.getElem_cons_succ, List.getElem_cons_zero, Act.put, List.setIfInBounds_toArray, List.set_cons_zero, List.set_cons_succ])
                    refine wpAnyH_ready (rs := [9]) (by kernel_rfl) (by simp) ?_
                    refine AllReadyH.cons rfl (fun K hK => ?_) AllReadyH.nil
                    go_simp
                    refine hK.out _ _ trivial (fun hHeld => ?_)
                    clear hK K
                    (try simp only [List.getElem_toArray, List.getElem_cons_succ, List.getElem_cons_zero, Act.put, List.setIfInBounds_toArray, List.set_cons_zero, List.set_cons_succ])
                    refine wpAnyH_done (by kernel_rfl) ?_ _
                    refine NoPanic.normal ?_
                    have HO3 := Lib.hid (HP.out.set 3 (.slice (some ⟨g8, 0, none⟩) (Y.length + 1) c8))
                    have HD2 : Hid (rowsG n (t.drop (a + 1 - 1)) (a + 1) (R ++ [acc.take n]) (Y ++ [x]) = G) := Lib.hid (by
                      have h := HD.out
                      rw [rowsG, if_pos HW.out, HACC.out] at h
                      rw [HXG.out, Nat.add_sub_cancel]
                      exact h)
                    clear HP d3 e3 l8 hg8 hown8 hat8
                    go_wp2_with fail
                    go_roundg (t.length + 1 - (a + 1))
                    case measure => omega
                    case rel => exact ⟨a + 1, R ++ [acc.take n], Y ++ [x], vs ++ [v'], _, _, by omega, by omega, rfl, by go_num, by rw [List.length_append, HRl.out.symm]; rfl, by rw [List.length_append, HYl.out.symm]; rfl, HD2.out, by simpa using HO3.out⟩
        · have hne : ¬ (r.length : Int) = (n : Int) + 1 := by omega
          have hneb : ((r.length : Int) == (n : Int) + 1) = false := beq_eq_false_iff_ne.2 hne
          have HF4 : Hid (G = .inr (4, a, 0)) := Lib.hid (by
            have h2 := HD.out
            rw [rowsG, if_neg hw] at h2
            exact h2.symm)
          clear hw hrf
          have X30r := blk_next X30.out HO.out.bel
          have X31r := blk_next X31.out HO.out.bel
          have p0 := cell_blk X30r 0
          have p1 := cell_blk X30r 1
          have p2 := cell_blk X30r 2
          have p3 := cell_blk X30r 3
          have q0 := cell_blk X31r 0
          have q1 := cell_blk X31r 1
          have q2 := cell_blk X31r 2
          have fp0 := free_blk X30r 0
          have fp1 := free_blk X30r 1
          have fp2 := free_blk X30r 2
          have fp3 := free_blk X30r 3
          have fq0 := free_blk X31r 0
          have fq1 := free_blk X31r 1
          have fq2 := free_blk X31r 2
          have lp := blk_lt X30r
          have lq := blk_lt X31r
          go_wp2_with fail
          refine bodyPost_ret (v := .tuple #[.agg #[.slice none 0 0, .string ⟨#[]⟩, .slice none 0 0, .slice none 0 0], .agg #[.int .i64 ((4 : Nat) : Int), .int .i64 (a : Int), .int .i64 ((0 : Nat) : Int)]]) ?_ rfl ⟨zero_at (HTV.out.trans (by rw [HF4.out]; rfl)) HR.out _, ?_⟩
          · rw [results_twoT rfl]
            go_simp
          · exact below7 (bt B03.out HO.out.bel) _ _ _ _ _ _ _
      · have hj1 : ¬ (a : Int) < (t.length : Int) + 1 := by omega
        have hae : a = t.length + 1 := by omega
        have HF0 : Hid (G = .inl (R, Y)) := Lib.hid (by
          have h := HRG.out
          rw [List.drop_eq_nil_of_le (by omega)] at h
          exact h.symm)
        clear HRG hae
        have hO := HO.out
        obtain ⟨a8, c8, h8⟩ := owns_form hO.own.2.1
        obtain ⟨a9, c9, h9⟩ := owns_form hO.own.2.2.2.1
        subst h8
        subst h9
        have HOF := Lib.hid hO
        have HTT : Hid ((⟨N.take n, y, R, Y⟩, 0, 0, 0) = (T, c2, i2, k2)) := Lib.hid (by rw [← HR.out, HTV.out, HF0.out]; rfl)
        have d0 := cell_blk hO.box 0
        have d1 := cell_blk hO.box 1
        have d2 := cell_blk hO.box 2
        have d3 := cell_blk hO.box 3
        have dl := blk_lt hO.box
        clear hO HO
        have X30r := blk_next X30.out HOF.out.bel
        have X31r := blk_next X31.out HOF.out.bel
        have p0 := cell_blk X30r 0
        have p1 := cell_blk X30r 1
        have p2 := cell_blk X30r 2
        have p3 := cell_blk X30r 3
        have q0 := cell_blk X31r 0
        have q1 := cell_blk X31r 1
        have q2 := cell_blk X31r 2
        have fp0 := free_blk X30r 0
        have fp1 := free_blk X30r 1
        have fp2 := free_blk X30r 2
        have fp3 := free_blk X30r 3
        have fq0 := free_blk X31r 0
        have fq1 := free_blk X31r 1
        have fq2 := free_blk X31r 2
        have lp := blk_lt X30r
        have lq := blk_lt X31r
        have N0 := Lib.hid (HOF.out.own.ne X30r (by decide) (by decide) (by decide))
        have N1 := Lib.hid (HOF.out.own.ne X31r (by decide) (by decide) (by decide))
        clear X30r X31r
        have hR40 : R.length ≤ 40 := by have := HRl.out; omega
        have hY40 : Y.length ≤ 40 := by have := HYl.out; omega
        go_wp2_with fail
        refine bodyPost_ret (v := .tuple #[.agg #[.slice va n vc2, .string ⟨y.toArray⟩, .slice a8 R.length c8, .slice a9 Y.length c9], .agg #[.int .i64 0, .int .i64 0, .int .i64 0]]) ?_ rfl ⟨tab_at HTT.out ((((((((HOF.out.own.setN N0.out 0 _).setN N0.out 1 _).setN N0.out 2 _).setN N0.out 3 _).setN N1.out 0 _).setN N1.out 1 _).setN N1.out 2 _)) (by show (N.take n).length ≤ _; rw [List.length_take, HNn.out]; omega) (by show R.length ≤ _; omega) (by show Y.length ≤ _; omega) (HLR.out R Y HF0.out), ?_⟩
        · rw [results_twoT rfl]
          go_simp
        · exact below7 (bt B03.out HOF.out.bel) _ _ _ _ _ _ _
end Go.Proofs.YticeagjonfifbaaGreatDoor
