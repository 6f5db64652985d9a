/-
  The reading of settings, the program's way: the whole.
-/
import Derived.Test.YtnnbhgnllbjmeaaGreatDoorI8U
import Derived.Test.YtnnbhgnllbjmeaaGreatDoorLawI8
namespace Go.Proofs.YtnnbhgnllbjmeaaGreatDoor
open Go.RowKit

set_option maxRecDepth 100000 in
theorem usual8 (w : World) : Calls Tryz.prog 32 #[] w fun e w' => e = .returned (.agg #[.int .i64 4, .int .i64 2, .int .i64 4, .int .i64 1, .int .i64 1, .int .i64 1, .int .i64 1, .slice none 0 0]) ∧ Below w.heap.size w w' := by
  go_enter Tryz.func32, Tryz.ntmps32
  go_wp2_with fail
  refine bodyPost_ret (v := .agg #[.int .i64 4, .int .i64 2, .int .i64 4, .int .i64 1, .int .i64 1, .int .i64 1, .int .i64 1, .slice none 0 0]) ?_ rfl ⟨rfl, ?_⟩
  · rw [results_one rfl]
    go_simp
  · exact below_al w _
/-- What the program's reading of settings answers. -/
def RgG (B : Nat) (l : List UInt8) (e : Ending) (w' : World) : Prop := ∃ D c i, readC l = (D, c, i) ∧ RcOwn D c i B e w'
theorem rgG_bad {B : Nat} {l : List UInt8} {e : Ending} {w' : World} {c i : Nat} (h : readC l = (zeroC, c, i)) (he : e = .returned (.tuple #[.agg #[.int .i64 0, .int .i64 0, .int .i64 0, .int .i64 0, .int .i64 0, .int .i64 0, .int .i64 0, .slice none 0 0], .agg #[.int .i64 (c : Nat), .int .i64 (i : Nat), .int .i64 0]])) : RgG B l e w' :=
  ⟨zeroC, c, i, h, _, he, rfl, Or.inl ⟨rfl, rfl⟩⟩
/-- What the loop keeps. -/
structure LpS (W wr : World) (cb ub gg cap : Nat) (ps : List (List UInt8)) (D : Cfg) (v : Value) (mt : List Nat) : Prop where
  res : wr.heap[W.heap.size]? = some (.cells #[.int .i64 0, .int .i64 0, .int .i64 0, .int .i64 0, .int .i64 0, .int .i64 0, .int .i64 0, .slice none 0 0] 26 (0, 0))
  flt : wr.heap[W.heap.size + 1]? = some (.cells #[.int .i64 0, .int .i64 0, .int .i64 0] 31 (0, 0))
  rd : RdS W wr cb ub D v mt
  lns : wr.ownsRow W.heap.size 9 1 (.slice (some ⟨gg, 0, none⟩) ps.length cap) ps.length (strCells ps)
  bel : Below W.heap.size W wr
  lc : W.heap.size + 1 < cb
  lu : W.heap.size + 1 < ub
theorem LpS.only {W wr w' : World} {cb ub gg cap : Nat} {ps : List (List UInt8)} {D E : Cfg} {v u : Value} {mt nt : List Nat} (h : LpS W wr cb ub gg cap ps D v mt) (hO : Only cb ub wr w') (hR : RdS W w' cb ub E u nt) : LpS W w' cb ub gg cap ps E u nt := by
  obtain ⟨M, hM, _⟩ := h.rd.map
  have h1 := h.lc
  have h2 := h.lu
  exact ⟨(hO.block _ (blk_lt h.res) (by omega) (by omega)).trans h.res, (hO.block _ (blk_lt h.flt) (by omega) (by omega)).trans h.flt, hR, hO.owns h.lns (owns_ne_blk h.lns h.rd.box (by decide)) (owns_ne_map h.lns hM), hO.below h.bel (by omega) (by omega), h1, h2⟩
theorem LpS.line {W w : World} {cb ub gg cap j : Nat} {ps : List (List UInt8)} {D : Cfg} {v : Value} {mt : List Nat} {p : List UInt8} (h : LpS W w cb ub gg cap ps D v mt) (hl : ps[j]? = some p) : w.cell? ⟨gg, j, none⟩ = some (.string ⟨p.toArray⟩) := by
  have hil := (List.getElem?_eq_some_iff.1 hl).1
  have k := h.lns.cellAt j (by omega)
  simpa [strCells, hl] using k
set_option maxRecDepth 100000 in
set_option maxHeartbeats 2000000 in
theorem readG_long (l : List UInt8) (hs : 4000 < l.length) (w : World) :
    Calls Tryz.prog 10 #[.string ⟨l.toArray⟩] w fun e w' => RgG w.heap.size l e w' ∧ Below w.heap.size w w' := by
  have hq : (4000 : Int) < l.length := by omega
  have HR : Hid (readC l = (zeroC, 1, 0)) := Lib.hid (by rw [readC, if_pos hs])
  go_enter Tryz.func10, Tryz.ntmps10
  go_wp2_with fail
  refine bodyPost_ret (v := .tuple #[.agg #[.int .i64 0, .int .i64 0, .int .i64 0, .int .i64 0, .int .i64 0, .int .i64 0, .int .i64 0, .slice none 0 0], .agg #[.int .i64 1, .int .i64 0, .int .i64 0]]) ?_ rfl ⟨rgG_bad HR.out rfl, ?_⟩
  · rw [results_two rfl]
    go_simp
  · repeat' (first | with_reducible exact bt (below_al w _) (below_al _ _) | refine Below.setCell ?_ (by simp <;> omega) _)
set_option maxRecDepth 100000 in
set_option maxHeartbeats 8000000 in
theorem readG_short (l : List UInt8) (hs : l.length ≤ 4000) (w : World) (hL : Lib8 w) :
    Calls Tryz.prog 10 #[.string ⟨l.toArray⟩] w fun e w' => RgG w.heap.size l e w' ∧ Below w.heap.size w w' := by
  have hq : ¬ (4000 : Int) < l.length := by omega
  have HL := Lib.hid hL
  clear hL
  go_enter Tryz.func10, Tryz.ntmps10
  go_wp2_with fail
  refine (usual8 _).mono ?_
  rintro e w1 ⟨rfl, hB1⟩
  have xR := Lib.hid (blk_next (blk_alloc (alloc_blk w #[.int .i64 0, .int .i64 0, .int .i64 0, .int .i64 0, .int .i64 0, .int .i64 0, .int .i64 0, .slice none 0 0] 26) (.cells #[.int .i64 0, .int .i64 0, .int .i64 0] 31)) hB1)
  have xF := blk_next (alloc_blk (w.alloc (.cells #[.int .i64 0, .int .i64 0, .int .i64 0, .int .i64 0, .int .i64 0, .int .i64 0, .int .i64 0, .slice none 0 0] 26)) #[.int .i64 0, .int .i64 0, .int .i64 0] 31) hB1
  simp only [size_alloc] at xF
  have XF := Lib.hid xF
  have HB01 := Lib.hid (bt (bt (below_al w (.cells #[.int .i64 0, .int .i64 0, .int .i64 0, .int .i64 0, .int .i64 0, .int .i64 0, .int .i64 0, .slice none 0 0] 26)) (below_al _ (.cells #[.int .i64 0, .int .i64 0, .int .i64 0] 31))) hB1)
  have hge : w.heap.size + 1 < w1.heap.size := by have := hB1.size; simp at this; exact this
  clear xF hB1
  go_wp2_with fail
  refine (keyPlacesG w1).mono ?_
  rintro e w2 ⟨rfl, hK⟩
  have HK := Lib.hid hK
  have hge2 : w1.heap.size ≤ w2.heap.size := hK.2.size
  clear hK
  go_wp2_with fail
  have hL2 := HL.out.mono (bt (bt HB01.out HK.out.2) (below_al w2 (.cells #[.int .i64 4, .int .i64 2, .int .i64 4, .int .i64 1, .int .i64 1, .int .i64 1, .int .i64 1, .slice none 0 0] 26)))
  refine (partsG l 10 _ (by omega) hL2).mono ?_
  rintro e w4 ⟨vl, rfl, hl, hB4⟩
  obtain ⟨ps, hps⟩ : ∃ ps, partsL 10 l = ps := ⟨_, rfl⟩
  have hpp := parts_pos (c := 10) l
  have hpn : ps.length ≤ 4001 := by have h := parts_len (c := 10) l; rw [hps] at h; omega
  rw [hps] at hl hpp
  obtain ⟨gg, cap, rfl⟩ := Joins.ownsRow_form hl hpp
  have hB24 := bt (below_al w2 (.cells #[.int .i64 4, .int .i64 2, .int .i64 4, .int .i64 1, .int .i64 1, .int .i64 1, .int .i64 1, .slice none 0 0] 26)) hB4
  have HSt : Hid (LpS w w4 w2.heap.size w1.heap.size gg cap ps usualC (.slice none 0 0) []) := Lib.hid
    ⟨blk_next (blk_next xR.out HK.out.2) hB24, blk_next (blk_next XF.out HK.out.2) hB24,
     ⟨blk_next (alloc_blk w2 #[.int .i64 4, .int .i64 2, .int .i64 4, .int .i64 1, .int .i64 1, .int .i64 1, .int .i64 1, .slice none 0 0] 26) hB4, ⟨rfl, Or.inl ⟨rfl, rfl⟩⟩, keyD, HK.out.1.kept (row := none) ⟨hB24.os, hB24.tape, hB24.output, hB24.size, fun k hk _ => hB24.block k hk⟩ (by simp), unmet_start⟩,
     World.ownsRow.mono hl (by have := HB01.out.size; have := HK.out.2.size; simp only [size_alloc]; omega), bt (bt HB01.out HK.out.2) hB24, by omega, by omega⟩
  have HR : Hid (readC l = goC ps 0 [] usualC) := Lib.hid (by rw [readC, if_neg (by omega), hps])
  have HPL := Lib.hid (show ∀ (j : Nat) p, ps[j]? = some p → p.length ≤ l.length from fun j p hp => parts_mem (c := 10) (by rw [hps]; exact List.mem_of_getElem? hp))
  clear hl hB4 hB24 hL2 hps xR XF HB01 HK
  obtain ⟨cb, hcb⟩ : ∃ cb, w2.heap.size = cb := ⟨_, rfl⟩
  obtain ⟨ub, hub⟩ : ∃ ub, w1.heap.size = ub := ⟨_, rfl⟩
  rw [hcb, hub] at HSt ⊢
  clear hcb hub hge hge2
  go_wp2_with fail
  go_loopw [19] (fun i wr => ∃ (j : Nat) (D : Cfg) (v : Value) (mt : List Nat), i = .int .i64 j ∧ j ≤ ps.length ∧ goC (ps.drop j) j mt D = goC ps 0 [] usualC ∧ okC D = true ∧ LpS w wr cb ub gg cap ps D v mt) (fun i _ => ps.length - (intOf i).toNat)
  case atStart => exact ⟨0, usualC, _, [], rfl, Nat.zero_le _, rfl, okC_usual, HSt.out⟩
  case round =>
    clear HSt
    obtain ⟨j, D, v, mt, rfl, hj, hg, hok, hS⟩ := hrel
    have HG := Lib.hid hg
    have HOK := Lib.hid hok
    have HS := Lib.hid hS
    clear hg hok hS
    by_cases hlt : j < ps.length
    · have hj1 : (j : Int) < ps.length := by omega
      have hj0 : (0 : Int) ≤ j := by omega
      obtain ⟨p, hp⟩ : ∃ p, ps[j]? = some p := ⟨_, List.getElem?_eq_getElem hlt⟩
      have hcj := HS.out.line hp
      have hlj := World.block_lt_of_cell? wr _ hcj
      have HDP : Hid (ps.drop j = p :: ps.drop (j + 1)) := Lib.hid (by rw [List.drop_eq_getElem_cons hlt]; congr 1; exact (List.getElem?_eq_some_iff.1 hp).2)
      have HP := Lib.hid (HPL.out j p hp)
      clear hp
      by_cases hne : p = []
      · subst hne
        have HE : Hid (goC (ps.drop (j + 1)) (j + 1) mt D = goC ps 0 [] usualC) := Lib.hid (by have h := HG.out; rw [HDP.out, goC_empty rfl] at h; exact h)
        clear HG
        go_wp2_with fail
        refine ⟨⟨j + 1, D, v, mt, by go_num, by omega, HE.out, HOK.out, HS.out⟩, ?_⟩
        simp [intOf]
        omega
      · have n0 : (p == []) = false := beq_eq_false_iff_ne.2 hne
        have n1 : p.isEmpty = false := by simpa using hne
        have HPT := Lib.hid (readPartG w wr HS.out.bel.size cb ub D v mt p (by have := HP.out; omega) hne HS.out.rd (HL.out.mono HS.out.bel) HS.out.bel (by have := HS.out.lc; omega) (by have := HS.out.lu; omega) HL.out HOK.out)
        go_wp2_with fail
        refine HPT.out.mono ?_
        rintro e w5 ⟨hpt, hO5⟩
        have HO5 := Lib.hid hO5
        clear hO5 HPT hcj hlj
        rcases hpt with ⟨c, hc, hgo, rfl⟩ | ⟨E, u, k, hgo, rfl, hR5, hoE⟩
        · have hci : ¬ (c : Int) = 0 := by omega
          have HBD : Hid (readC l = (zeroC, c, j)) := Lib.hid (by have h := HG.out; rw [HDP.out, hgo] at h; rw [HR.out]; exact h.symm)
          have X0 := (HO5.out.block _ (blk_lt HS.out.res) (by have := HS.out.lc; omega) (by have := HS.out.lu; omega)).trans HS.out.res
          have X1 := (HO5.out.block _ (blk_lt HS.out.flt) (by have := HS.out.lc; omega) (by have := HS.out.lu; omega)).trans HS.out.flt
          have HB5 := Lib.hid (HO5.out.below HS.out.bel (by have := HS.out.lc; omega) (by have := HS.out.lu; omega))
          clear hgo hc HO5 HS HG
          have cr0 := cell_blk X0 0
          have fcr0 := free_blk X0 0
          have cr1 := cell_blk X0 1
          have fcr1 := free_blk X0 1
          have cr2 := cell_blk X0 2
          have fcr2 := free_blk X0 2
          have cr3 := cell_blk X0 3
          have fcr3 := free_blk X0 3
          have cr4 := cell_blk X0 4
          have fcr4 := free_blk X0 4
          have cr5 := cell_blk X0 5
          have fcr5 := free_blk X0 5
          have cr6 := cell_blk X0 6
          have fcr6 := free_blk X0 6
          have cr7 := cell_blk X0 7
          have fcr7 := free_blk X0 7
          have cf0 := cell_blk X1 0
          have fcf0 := free_blk X1 0
          have cf1 := cell_blk X1 1
          have fcf1 := free_blk X1 1
          have cf2 := cell_blk X1 2
          have fcf2 := free_blk X1 2
          have lr := blk_lt X0
          have lf := blk_lt X1
          go_wp2_with fail
          (try simp only [Exit.inBlock, Exit.then])
          refine bodyPost_ret (v := .tuple #[.agg #[.int .i64 0, .int .i64 0, .int .i64 0, .int .i64 0, .int .i64 0, .int .i64 0, .int .i64 0, .slice none 0 0], .agg #[.int .i64 (c : Nat), .int .i64 j, .int .i64 0]]) ?_ rfl ⟨rgG_bad HBD.out rfl, ?_⟩
          · rw [results_two rfl]
            go_simp
          · iterate 11 refine Below.setCell ?_ (by simp <;> omega) _
            exact HB5.out
        · have HE : Hid (goC (ps.drop (j + 1)) (j + 1) (k :: mt) E = goC ps 0 [] usualC) := Lib.hid (by have h := HG.out; rw [HDP.out, hgo] at h; exact h)
          have HS5 := Lib.hid (HS.out.only HO5.out hR5)
          have HoE := Lib.hid hoE
          clear hgo hR5 hoE HO5 HS HG
          go_wp2_with fail
          go_roundw
          case rel => exact ⟨j + 1, E, u, _, by go_num, by omega, HE.out, HoE.out, HS5.out⟩
          case measure => simp [intOf]; omega
    · have hje : j = ps.length := by omega
      have hj1 : ¬ (j : Int) < ps.length := by omega
      have HE : Hid (readC l = (D, 0, 0)) := Lib.hid (by
        rw [HR.out, ← HG.out, hje, List.drop_length, goC])
      clear hje
      obtain ⟨va, vc, rfl⟩ := ownsI_form HS.out.rd.own
      have X0 := HS.out.res
      have X1 := HS.out.flt
      have cr0 := cell_blk X0 0
      have fcr0 := free_blk X0 0
      have cr1 := cell_blk X0 1
      have fcr1 := free_blk X0 1
      have cr2 := cell_blk X0 2
      have fcr2 := free_blk X0 2
      have cr3 := cell_blk X0 3
      have fcr3 := free_blk X0 3
      have cr4 := cell_blk X0 4
      have fcr4 := free_blk X0 4
      have cr5 := cell_blk X0 5
      have fcr5 := free_blk X0 5
      have cr6 := cell_blk X0 6
      have fcr6 := free_blk X0 6
      have cr7 := cell_blk X0 7
      have fcr7 := free_blk X0 7
      have cf0 := cell_blk X1 0
      have fcf0 := free_blk X1 0
      have cf1 := cell_blk X1 1
      have fcf1 := free_blk X1 1
      have cf2 := cell_blk X1 2
      have fcf2 := free_blk X1 2
      have lr := blk_lt X0
      have lf := blk_lt X1
      have hbx : wr.heap[cb]? = some (.cells #[.int .i64 D.r, .int .i64 D.d, .int .i64 D.b, .int .i64 D.l, .int .i64 D.m, .int .i64 D.n, .int .i64 D.e, .slice va D.s.length vc] 26 (0, 0)) := HS.out.rd.box
      have cb0 := cell_blk hbx 0
      have cb1 := cell_blk hbx 1
      have cb2 := cell_blk hbx 2
      have cb3 := cell_blk hbx 3
      have cb4 := cell_blk hbx 4
      have cb5 := cell_blk hbx 5
      have cb6 := cell_blk hbx 6
      have cb7 := cell_blk hbx 7
      have lb := blk_lt hbx
      clear hbx
      go_wp2_with fail
      refine bodyPost_ret (v := .tuple #[.agg #[.int .i64 D.r, .int .i64 D.d, .int .i64 D.b, .int .i64 D.l, .int .i64 D.m, .int .i64 D.n, .int .i64 D.e, .slice va D.s.length vc], .agg #[.int .i64 0, .int .i64 0, .int .i64 0]]) ?_ rfl ⟨⟨D, 0, 0, HE.out, _, rfl, ?_⟩, ?_⟩
      · rw [results_two rfl]
        go_simp
      · iterate 3 refine ownsRow_setCell_other ?_ (owns_ne_blk HS.out.rd.own HS.out.flt (by decide)) _
        iterate 8 refine ownsRow_setCell_other ?_ (owns_ne_blk HS.out.rd.own HS.out.res (by decide)) _
        exact HS.out.rd.own
      · iterate 11 refine Below.setCell ?_ (by simp <;> omega) _
        exact HS.out.bel
theorem implRead8 (W : World) (hL : Lib8 W) : ImplRead8 W := by
  intro wz hB s D c i hs hr
  have he : s = ⟨s.data.toList.toArray⟩ := by simp
  have key : Calls Tryz.prog 10 #[.string ⟨s.data.toList.toArray⟩] wz fun e w' => RgG wz.heap.size s.data.toList e w' ∧ Below wz.heap.size wz w' := by
    by_cases h : 4000 < s.data.toList.length
    · exact readG_long _ h wz
    · exact readG_short _ (by omega) wz (hL.mono hB)
  rw [he]
  refine key.mono fun e w' ⟨⟨D2, c2, i2, hr2, ho⟩, hB2⟩ => ⟨?_, hB2⟩
  rw [hr] at hr2
  simp only [Prod.mk.injEq] at hr2
  obtain ⟨rfl, rfl, rfl⟩ := hr2
  exact ho
end Go.Proofs.YtnnbhgnllbjmeaaGreatDoor
