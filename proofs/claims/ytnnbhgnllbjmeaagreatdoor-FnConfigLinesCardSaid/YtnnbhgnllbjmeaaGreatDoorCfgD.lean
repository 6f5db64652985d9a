/-
  The draws of settings.
-/
import Derived.Test.YtnnbhgnllbjmeaaGreatDoorPk4
import Derived.Test.YtnnbhgnllbjmeaaGreatDoorPk3
import Derived.Deep.AppendLies
import Derived.Deep.RegionHeld3
import Derived.Deep.RegionWith
namespace Go.Proofs.YtnnbhgnllbjmeaaGreatDoor
open Go.RowKit

theorem Cur.drew8 {W w : World} {p : Nat} (h : Cur W w p) : Cur W w.drew p := by
  obtain ⟨hp, hB, v, n, i, y, hby, hi, h0, h1, hblk⟩ := h
  exact ⟨hp, hB.drew, v, n, i, y, hby, hi, h0, h1, hblk⟩
theorem Cur.far8 {W w : World} {p b k : Nat} {x : Value} (h : Cur W w p) (hb : p < b) : Cur W (w.setCell ⟨b, k, none⟩ x) p := by
  obtain ⟨hp, hB, v, n, i, y, hby, hi, h0, h1, hblk⟩ := h
  exact ⟨hp, hB.setCell (by simp; omega) _, v, n, i, y, hby, hi, h0, h1, (heap_setCell_other _ _ _ _ (by simp; omega)).trans hblk⟩
theorem Cur.grown8 {W w w' : World} {p : Nat} {r : Option Nat} (h : Cur W w p) (hg : w.grownBy w' r) (hr : ∀ g, r = some g → p < g) : Cur W w' p := by
  have hlt := h.lt
  obtain ⟨hp, hB, v, n, i, y, hby, hi, h0, h1, hblk⟩ := h
  exact ⟨hp, hB.grown hg hB.size (fun k hk => by have := hr k hk; omega), v, n, i, y, hby, hi, h0, h1, (hg.block p hlt (fun e => by have := hr p e.symm; omega)).trans hblk⟩
theorem grown_set8 {w w1 : World} {r : Option Nat} {b k : Nat} {x : Value} (h : w.grownBy w1 r) (hb : w.heap.size ≤ b) : w.grownBy (w1.setCell ⟨b, k, none⟩ x) r :=
  ⟨h.os, h.tape, h.output, Nat.le_trans h.size (by simp), fun i hi hr => (Below.heap_setCell _ _ _ _ (by simp; omega)).trans (h.block i hi hr)⟩
/-- What a draw of settings keeps: the cursor, the answer's box, the settings' box. -/
structure RtB (W w0 wr : World) (p b3 : Nat) (C : Cfg) (v : Value) : Prop where
  cur : Cur W wr p
  res : wr.heap[w0.heap.size]? = some (.cells #[.int .i64 0, .int .i64 0, .int .i64 0, .int .i64 0, .int .i64 0, .int .i64 0, .int .i64 0, .slice none 0 0] 26 (0, 0))
  box : wr.heap[b3]? = some (.cells (cfgA C v) 26 (0, 0))
  lp : p < w0.heap.size
  lb : w0.heap.size < b3
  grw : w0.grownBy wr (some p)
theorem RtB.next {W w0 wr w' : World} {p b3 : Nat} {C : Cfg} {v : Value} (h : RtB W w0 wr p b3 C v) (hc : Cur W w' p) (hg : wr.grownBy w' (some p)) : RtB W w0 w' p b3 C v :=
  ⟨hc, (hg.block _ (blk_lt h.res) (fun e => by have := h.lp; injection e with e; omega)).trans h.res, (hg.block _ (blk_lt h.box) (fun e => by have := h.lp; have := h.lb; injection e with e; omega)).trans h.box, h.lp, h.lb, grownBy_trans h.grw hg⟩
theorem RtB.laid {W w0 wr : World} {p b3 : Nat} {C : Cfg} {v : Value} (h : RtB W w0 wr p b3 C v) (x : Obj) : RtB W w0 (wr.alloc x) p b3 C v :=
  ⟨h.cur.alloc x, blk_alloc h.res x, blk_alloc h.box x, h.lp, h.lb, grownBy_trans h.grw (grownBy_alc wr x _)⟩
theorem RtB.drew {W w0 wr : World} {p b3 : Nat} {C : Cfg} {v : Value} (h : RtB W w0 wr p b3 C v) : RtB W w0 wr.drew p b3 C v :=
  ⟨h.cur.drew8, h.res, h.box, h.lp, h.lb, ⟨h.grw.os, h.grw.tape, h.grw.output, h.grw.size, h.grw.block⟩⟩
theorem RtB.put {W w0 wr : World} {p b3 k : Nat} {C C' : Cfg} {v v' x : Value} (h : RtB W w0 wr p b3 C v) (he : (cfgA C v).setIfInBounds k x = cfgA C' v') : RtB W w0 (wr.setCell ⟨b3, k, none⟩ x) p b3 C' v' :=
  ⟨h.cur.far8 (by have := h.lp; have := h.lb; omega), (heap_setCell_other _ _ _ _ (by have := h.lb; simp; omega)).trans h.res, by rw [← he]; exact heap_setCell_same _ _ _ _ _ _ h.box, h.lp, h.lb, grown_set8 h.grw (by have := h.lb; omega)⟩
/-- The signs' row grows. -/
theorem RtB.app {W w0 wr w' : World} {p b3 n : Nat} {C : Cfg} {v : Value} {xs : List Value} (h : RtB W w0 wr p b3 C v) (ho : wr.ownsRow w0.heap.size 3 1 v n xs) (hg : wr.grownBy w' v.ownBlock) : RtB W w0 w' p b3 C v := by
  have hge : ∀ g, v.ownBlock = some g → w0.heap.size ≤ g := fun g e => (ho.lt g e).1
  refine ⟨h.cur.grown8 hg (fun g e => by have := hge g e; have := h.lp; omega), (hg.block _ (blk_lt h.res) (fun e => owns_ne_blk ho h.res (by decide) e.symm)).trans h.res, (hg.block _ (blk_lt h.box) (fun e => owns_ne_blk ho h.box (by decide) e.symm)).trans h.box, h.lp, h.lb, ?_⟩
  have hs := h.grw
  exact ⟨hg.os.trans hs.os, hg.tape.trans hs.tape, hg.output.trans hs.output, Nat.le_trans hs.size hg.size, fun i hi hr => (hg.block i (Nat.lt_of_lt_of_le hi hs.size) (fun e => by have := hge i e.symm; omega)).trans (hs.block i hi hr)⟩
theorem own_next8 {w0 wr w' : World} {p n : Nat} {v : Value} {xs : List Value} (ho : wr.ownsRow w0.heap.size 3 1 v n xs) (hp : p < w0.heap.size) (hg : wr.grownBy w' (some p)) : w'.ownsRow w0.heap.size 3 1 v n xs := by
  refine ho.kept hg ?_
  cases e : v.ownBlock with
  | none => exact Or.inl rfl
  | some g => exact Or.inr (fun k => by have := (ho.lt g e).1; injection k with k; omega)
theorem row9 {w : World} {base : Nat} {v : Value} {s : List Int} {z : Int} (h : w.ownsRow base 3 1 v (s.length + 1) (intCells s ++ [.int .i64 z])) : w.ownsRow base 3 1 v (s ++ [z]).length (intCells (s ++ [z])) := int_row h
/-- What is drawn: settings whose signs lie in memory of their own. -/
def RtOut (w0 : World) (e : Ending) (w' : World) : Prop :=
  ∃ C v, e = .returned (cfgV C v) ∧ w'.ownsRow w0.heap.size 3 1 v C.s.length (intCells C.s) ∧ C.s.length ≤ 5 ∧ 1 ≤ C.e ∧ C.e ≤ 4
set_option maxRecDepth 100000 in
set_option maxHeartbeats 4000000 in
theorem l8Right (W w : World) (p : Nat) (hc : Cur W w p) :
    Calls Tryz.prog 46 #[.pointer (some ⟨p, 0, none⟩)] w fun e w' => RtOut w e w' ∧ Cur W w' p ∧ w.grownBy w' (some p) := by
  obtain ⟨iI, hi, hz0, hz1, hz2⟩ := info_parts infoInt
  have hlp := hc.lt
  have xr := alloc_blk w #[.int .i64 0, .int .i64 0, .int .i64 0, .int .i64 0, .int .i64 0, .int .i64 0, .int .i64 0, .slice none 0 0] 26
  have HC := Lib.hid (hc.alloc (.cells #[.int .i64 0, .int .i64 0, .int .i64 0, .int .i64 0, .int .i64 0, .int .i64 0, .int .i64 0, .slice none 0 0] 26))
  have XR := Lib.hid xr
  have HG := Lib.hid (grownBy_alc w (.cells #[.int .i64 0, .int .i64 0, .int .i64 0, .int .i64 0, .int .i64 0, .int .i64 0, .int .i64 0, .slice none 0 0] 26) (some p))
  clear xr hc
  go_enter Tryz.func46, Tryz.ntmps46
  go_wp2_with fail
  refine (l1Below W _ p 4 (by omega) (by omega) HC.out).mono ?_
  rintro e w1 ⟨⟨m1, hm1, rfl⟩, hc, hg⟩
  have xr1 := (hg.block _ (blk_lt XR.out) (fun e => by injection e with e; omega)).trans XR.out
  replace XR := Lib.hid xr1
  replace HG := Lib.hid (grownBy_trans HG.out hg)
  replace HC := Lib.hid hc
  clear hc hg xr1
  go_wp2_with fail
  refine (l1Below W _ p 4 (by omega) (by omega) HC.out).mono ?_
  rintro e w2 ⟨⟨m2, hm2, rfl⟩, hc, hg⟩
  have xr2 := (hg.block _ (blk_lt XR.out) (fun e => by injection e with e; omega)).trans XR.out
  replace XR := Lib.hid xr2
  replace HG := Lib.hid (grownBy_trans HG.out hg)
  replace HC := Lib.hid hc
  clear hc hg xr2
  go_wp2_with fail
  refine (l1Below W _ p 5 (by omega) (by omega) HC.out).mono ?_
  rintro e w3 ⟨⟨m3, hm3, rfl⟩, hc, hg⟩
  have xr3 := (hg.block _ (blk_lt XR.out) (fun e => by injection e with e; omega)).trans XR.out
  replace XR := Lib.hid xr3
  replace HG := Lib.hid (grownBy_trans HG.out hg)
  replace HC := Lib.hid hc
  clear hc hg xr3
  go_wp2_with fail
  refine (l1Below W _ p 3 (by omega) (by omega) HC.out).mono ?_
  rintro e w4 ⟨⟨m4, hm4, rfl⟩, hc, hg⟩
  have xr4 := (hg.block _ (blk_lt XR.out) (fun e => by injection e with e; omega)).trans XR.out
  replace XR := Lib.hid xr4
  replace HG := Lib.hid (grownBy_trans HG.out hg)
  replace HC := Lib.hid hc
  clear hc hg xr4
  go_wp2_with fail
  refine (l1Below W _ p 3 (by omega) (by omega) HC.out).mono ?_
  rintro e w5 ⟨⟨m5, hm5, rfl⟩, hc, hg⟩
  have xr5 := (hg.block _ (blk_lt XR.out) (fun e => by injection e with e; omega)).trans XR.out
  replace XR := Lib.hid xr5
  replace HG := Lib.hid (grownBy_trans HG.out hg)
  replace HC := Lib.hid hc
  clear hc hg xr5
  go_wp2_with fail
  refine (l1Below W _ p 3 (by omega) (by omega) HC.out).mono ?_
  rintro e w6 ⟨⟨m6, hm6, rfl⟩, hc, hg⟩
  have xr6 := (hg.block _ (blk_lt XR.out) (fun e => by injection e with e; omega)).trans XR.out
  replace XR := Lib.hid xr6
  replace HG := Lib.hid (grownBy_trans HG.out hg)
  replace HC := Lib.hid hc
  clear hc hg xr6
  go_wp2_with fail
  have hb := alloc_blk w6 #[.int .i64 (1 + (m1 : Int)), .int .i64 m2, .int .i64 (2 + (m3 : Int)), .int .i64 (1 + (m4 : Int)), .int .i64 (1 + (m5 : Int)), .int .i64 1, .int .i64 (1 + (m6 : Int)), .slice none 0 0] 26
  obtain ⟨C, hC⟩ : ∃ C : Cfg, C = ⟨1 + (m1 : Int), m2, 2 + (m3 : Int), 1 + (m4 : Int), 1 + (m5 : Int), 1, 1 + (m6 : Int), []⟩ := ⟨_, rfl⟩
  have hCs : C.s = [] := by rw [hC]
  obtain ⟨q, hq⟩ : ∃ q : Nat, q = 1 + m6 := ⟨_, rfl⟩
  have hq1 : 1 ≤ q := by omega
  have hq3 : q ≤ 3 := by omega
  have hCe : C.e = (q : Int) := by rw [hC]; show (1 : Int) + m6 = q; omega
  have hb3 : w.heap.size < w6.heap.size := blk_lt XR.out
  have hB : RtB W w (w6.alloc (.cells #[.int .i64 (1 + (m1 : Int)), .int .i64 m2, .int .i64 (2 + (m3 : Int)), .int .i64 (1 + (m4 : Int)), .int .i64 (1 + (m5 : Int)), .int .i64 1, .int .i64 (1 + (m6 : Int)), .slice none 0 0] 26)) p w6.heap.size C (.slice none 0 0) := ⟨HC.out.alloc _, blk_alloc XR.out _, by rw [hC]; exact hb, hlp, hb3, grownBy_trans HG.out (grownBy_alc w6 _ _)⟩
  have HB := Lib.hid hB
  clear hb hB HC XR hC HG hq
  generalize (w6.alloc (.cells #[.int .i64 (1 + (m1 : Int)), .int .i64 m2, .int .i64 (2 + (m3 : Int)), .int .i64 (1 + (m4 : Int)), .int .i64 (1 + (m5 : Int)), .int .i64 1, .int .i64 (1 + (m6 : Int)), .slice none 0 0] 26)) = wa at HB ⊢
  obtain ⟨b3, hbb⟩ : ∃ b3, w6.heap.size = b3 := ⟨_, rfl⟩
  rw [hbb] at HB hb3 ⊢
  clear hbb
  refine (l1Once W _ p 8 (by omega) (by omega) HB.out.cur).mono ?_
  rintro e w7 ⟨⟨bb, rfl⟩, hc, hg⟩
  replace HB := Lib.hid (HB.out.next hc hg)
  clear hc hg
  cases bb with
  | true =>
    go_wp2_with fail
    refine (l1Below W _ p 100 (by omega) (by omega) HB.out.cur).mono ?_
    rintro e wx ⟨⟨m7, hm7, rfl⟩, hc, hg⟩
    replace HB := Lib.hid (HB.out.next hc hg)
    clear hc hg
    have c0 : wx.cell? ⟨b3, 0, none⟩ = some (.int .i64 C.r) := cell_blk HB.out.box 0
    have cf0 := free_blk HB.out.box 0
    have c1 : wx.cell? ⟨b3, 1, none⟩ = some (.int .i64 C.d) := cell_blk HB.out.box 1
    have cf1 := free_blk HB.out.box 1
    have c2 : wx.cell? ⟨b3, 2, none⟩ = some (.int .i64 C.b) := cell_blk HB.out.box 2
    have cf2 := free_blk HB.out.box 2
    have c3 : wx.cell? ⟨b3, 3, none⟩ = some (.int .i64 C.l) := cell_blk HB.out.box 3
    have cf3 := free_blk HB.out.box 3
    have c4 : wx.cell? ⟨b3, 4, none⟩ = some (.int .i64 C.m) := cell_blk HB.out.box 4
    have cf4 := free_blk HB.out.box 4
    have c5 : wx.cell? ⟨b3, 5, none⟩ = some (.int .i64 C.n) := cell_blk HB.out.box 5
    have cf5 := free_blk HB.out.box 5
    have c6 : wx.cell? ⟨b3, 6, none⟩ = some (.int .i64 C.e) := cell_blk HB.out.box 6
    have cf6 := free_blk HB.out.box 6
    have c7 : wx.cell? ⟨b3, 7, none⟩ = some (.slice none 0 0) := cell_blk HB.out.box 7
    have cf7 := free_blk HB.out.box 7
    have cl := blk_lt HB.out.box
    go_wp2_with fail
    obtain ⟨E, hE⟩ : ∃ E : Cfg, E = { C with l := 1 + (m7 : Int) } := ⟨_, rfl⟩
    have hEs : E.s = [] := by rw [hE]; exact hCs
    have hEe : E.e = (q : Int) := by rw [hE]; exact hCe
    have hB2 : RtB W w (wx.setCell ⟨b3, 3, none⟩ (.int .i64 (1 + (m7 : Int)))) p b3 E (.slice none 0 0) := HB.out.put (by rw [hE]; rfl)
    replace HB := Lib.hid hB2
    clear hB2 hE hCs hCe
    clear c0 cf0 c1 cf1 c2 cf2 c3 cf3 c4 cf4 c5 cf5 c6 cf6 c7 cf7 cl
    generalize wx.setCell ⟨b3, 3, none⟩ (.int .i64 (1 + (m7 : Int))) = wy at HB ⊢
    obtain ⟨C, hEC⟩ : ∃ C, E = C := ⟨_, rfl⟩
    rw [hEC] at HB hEs hEe
    have hCs := hEs
    have hCe := hEe
    clear hEC hEs hEe
    refine (l1Once W _ p 4 (by omega) (by omega) HB.out.cur).mono ?_
    rintro e w8 ⟨⟨bb, rfl⟩, hc, hg⟩
    replace HB := Lib.hid (HB.out.next hc hg)
    clear hc hg
    cases bb with
    | true =>
      have c0 : w8.cell? ⟨b3, 0, none⟩ = some (.int .i64 C.r) := cell_blk HB.out.box 0
      have cf0 := free_blk HB.out.box 0
      have c1 : w8.cell? ⟨b3, 1, none⟩ = some (.int .i64 C.d) := cell_blk HB.out.box 1
      have cf1 := free_blk HB.out.box 1
      have c2 : w8.cell? ⟨b3, 2, none⟩ = some (.int .i64 C.b) := cell_blk HB.out.box 2
      have cf2 := free_blk HB.out.box 2
      have c3 : w8.cell? ⟨b3, 3, none⟩ = some (.int .i64 C.l) := cell_blk HB.out.box 3
      have cf3 := free_blk HB.out.box 3
      have c4 : w8.cell? ⟨b3, 4, none⟩ = some (.int .i64 C.m) := cell_blk HB.out.box 4
      have cf4 := free_blk HB.out.box 4
      have c5 : w8.cell? ⟨b3, 5, none⟩ = some (.int .i64 C.n) := cell_blk HB.out.box 5
      have cf5 := free_blk HB.out.box 5
      have c6 : w8.cell? ⟨b3, 6, none⟩ = some (.int .i64 (q : Int)) := by rw [← hCe]; exact cell_blk HB.out.box 6
      have cf6 := free_blk HB.out.box 6
      have c7 : w8.cell? ⟨b3, 7, none⟩ = some (.slice none 0 0) := cell_blk HB.out.box 7
      have cf7 := free_blk HB.out.box 7
      have cl := blk_lt HB.out.box
      go_wp2_with fail
      refine (l1Below W _ p q (by omega) (by omega) HB.out.cur).mono ?_
      rintro e w9 ⟨⟨m8, hm8, rfl⟩, hc, hg⟩
      replace HB := Lib.hid (HB.out.next hc hg)
      clear hc hg
      clear c0 cf0 c1 cf1 c2 cf2 c3 cf3 c4 cf4 c5 cf5 c6 cf6 c7 cf7 cl
      have c0 : w9.cell? ⟨b3, 0, none⟩ = some (.int .i64 C.r) := cell_blk HB.out.box 0
      have cf0 := free_blk HB.out.box 0
      have c1 : w9.cell? ⟨b3, 1, none⟩ = some (.int .i64 C.d) := cell_blk HB.out.box 1
      have cf1 := free_blk HB.out.box 1
      have c2 : w9.cell? ⟨b3, 2, none⟩ = some (.int .i64 C.b) := cell_blk HB.out.box 2
      have cf2 := free_blk HB.out.box 2
      have c3 : w9.cell? ⟨b3, 3, none⟩ = some (.int .i64 C.l) := cell_blk HB.out.box 3
      have cf3 := free_blk HB.out.box 3
      have c4 : w9.cell? ⟨b3, 4, none⟩ = some (.int .i64 C.m) := cell_blk HB.out.box 4
      have cf4 := free_blk HB.out.box 4
      have c5 : w9.cell? ⟨b3, 5, none⟩ = some (.int .i64 C.n) := cell_blk HB.out.box 5
      have cf5 := free_blk HB.out.box 5
      have c6 : w9.cell? ⟨b3, 6, none⟩ = some (.int .i64 C.e) := cell_blk HB.out.box 6
      have cf6 := free_blk HB.out.box 6
      have c7 : w9.cell? ⟨b3, 7, none⟩ = some (.slice none 0 0) := cell_blk HB.out.box 7
      have cf7 := free_blk HB.out.box 7
      have cl := blk_lt HB.out.box
      go_wp2_with fail
      obtain ⟨E, hE⟩ : ∃ E : Cfg, E = { C with n := 1 + (m8 : Int) } := ⟨_, rfl⟩
      have hEs : E.s = [] := by rw [hE]; exact hCs
      have hEe : E.e = (q : Int) := by rw [hE]; exact hCe
      have hB2 : RtB W w (w9.setCell ⟨b3, 5, none⟩ (.int .i64 (1 + (m8 : Int)))) p b3 E (.slice none 0 0) := HB.out.put (by rw [hE]; rfl)
      replace HB := Lib.hid hB2
      clear hB2 hE hCs hCe
      clear c0 cf0 c1 cf1 c2 cf2 c3 cf3 c4 cf4 c5 cf5 c6 cf6 c7 cf7 cl
      generalize w9.setCell ⟨b3, 5, none⟩ (.int .i64 (1 + (m8 : Int))) = wc at HB ⊢
      obtain ⟨C, hEC⟩ : ∃ C, E = C := ⟨_, rfl⟩
      rw [hEC] at HB hEs hEe
      have hCs := hEs
      have hCe := hEe
      clear hEC hEs hEe
      go_wp2_with fail
      refine (l1Below W _ p 5 (by omega) (by omega) HB.out.cur).mono ?_
      rintro e wt ⟨⟨m9, hm9, rfl⟩, hc, hg⟩
      replace HB := Lib.hid (HB.out.next hc hg)
      clear hc hg hb3
      go_wp2_with fail
      go_loopw [5] (fun i wr => ∃ (k : Nat) (D : Cfg) (v : Value), k ≤ m9 ∧ i = .int .i64 k ∧ RtB W w wr p b3 D v ∧ wr.ownsRow w.heap.size 3 1 v D.s.length (intCells D.s) ∧ D.s.length = k ∧ D.e = (q : Int)) (fun i _ => m9 - (intOf i).toNat)
      case atStart => exact ⟨0, C, .slice none 0 0, Nat.zero_le _, rfl, HB.out, by rw [hCs]; exact ⟨rfl, Or.inl ⟨rfl, rfl⟩⟩, by rw [hCs]; rfl, hCe⟩
      case round =>
        clear HB
        obtain ⟨k, D, v, hk9, rfl, hB, hown, hDk, hDe⟩ := hrel
        have HB := Lib.hid hB
        obtain ⟨va, vc, rfl⟩ := ownsI_form hown
        clear hB
        by_cases hlt : k < m9
        · have hlt1 : (k : Int) < m9 := by omega
          have HOWN := Lib.hid hown
          have HDK := Lib.hid hDk
          have hkd : k = D.s.length := hDk.symm
          have hdl : D.s.length ≤ 5 := by omega
          subst hkd
          clear hown
          have c0 : wr.cell? ⟨b3, 0, none⟩ = some (.int .i64 D.r) := cell_blk HB.out.box 0
          have cf0 := free_blk HB.out.box 0
          have c1 : wr.cell? ⟨b3, 1, none⟩ = some (.int .i64 D.d) := cell_blk HB.out.box 1
          have cf1 := free_blk HB.out.box 1
          have c2 : wr.cell? ⟨b3, 2, none⟩ = some (.int .i64 D.b) := cell_blk HB.out.box 2
          have cf2 := free_blk HB.out.box 2
          have c3 : wr.cell? ⟨b3, 3, none⟩ = some (.int .i64 D.l) := cell_blk HB.out.box 3
          have cf3 := free_blk HB.out.box 3
          have c4 : wr.cell? ⟨b3, 4, none⟩ = some (.int .i64 D.m) := cell_blk HB.out.box 4
          have cf4 := free_blk HB.out.box 4
          have c5 : wr.cell? ⟨b3, 5, none⟩ = some (.int .i64 D.n) := cell_blk HB.out.box 5
          have cf5 := free_blk HB.out.box 5
          have c6 : wr.cell? ⟨b3, 6, none⟩ = some (.int .i64 D.e) := cell_blk HB.out.box 6
          have cf6 := free_blk HB.out.box 6
          have c7 : wr.cell? ⟨b3, 7, none⟩ = some (.slice va D.s.length vc) := cell_blk HB.out.box 7
          have cf7 := free_blk HB.out.box 7
          have cl := blk_lt HB.out.box
          go_wp2_with fail
          clear c0 cf0 c1 cf1 c2 cf2 c3 cf3 c4 cf4 c5 cf5 c6 cf6 c7 cf7 cl
          refine wp_region_noPanic ?_
          refine wp_region_held_drew (S := (fun _ => True)) (by kernel_rfl) trivial (fun hHeld => ?_)
          refine wpAnyH_take (i := 0) (oi := ?o1) (v := ?v1) ?hi1 ?hs1 ?hf1 ?hr1 ?hQ1 ?hy1 ?hS1 ?rest1
          case hi1 => rfl
          case hs1 => kernel_rfl
          case hf1 => kernel_rfl
          case hr1 => kernel_rfl
          case hQ1 => exact fun _ _ _ h => h
          case hS1 => assumption
          case hy1 =>
            refine Or.inl ⟨by kernel_rfl, ?_⟩
            intro w' hSw
            (try dsimp only at hSw)
            go_simp
            (try rfl)
          (try simp only [List.getElem_toArray, List.getElem_cons_zero, Act.put, List.setIfInBounds_toArray, List.set_cons_zero, List.set_cons_succ])
          refine wpAnyH_take (i := 2) (oi := ?o2) (v := ?v2) ?hi2 ?hs2 ?hf2 ?hr2 ?hQ2 ?hy2 ?hS2 ?rest2
          case hi2 => rfl
          case hs2 => kernel_rfl
          case hf2 => kernel_rfl
          case hr2 => kernel_rfl
          case hQ2 => exact fun _ _ _ h => h
          case hS2 => assumption
          case hy2 =>
            refine Or.inl ⟨by kernel_rfl, ?_⟩
            intro w' hSw
            (try dsimp only at hSw)
            go_simp
            (try rfl)
          (try simp only [List.getElem_toArray, List.getElem_cons_succ, List.getElem_cons_zero, Act.put, List.setIfInBounds_toArray, List.set_cons_zero, List.set_cons_succ])
          refine wpAnyH_ready (rs := [1, 3]) (by kernel_rfl) (by simp) ?_
          refine AllReadyH.cons rfl (fun K hK => ?_) (AllReadyH.cons rfl (fun K hK => ?_) AllReadyH.nil)
          · have c7x : (wr.drew).cell? ⟨b3, 7, none⟩ = some (.slice va D.s.length vc) := cell_blk (HB.out.drew).box 7
            go_simp
            refine hK.out _ _ trivial (fun hHeld => ?_)
            clear hK K
            (try simp only [List.getElem_toArray, List.getElem_cons_succ, List.getElem_cons_zero, Act.put, List.setIfInBounds_toArray, List.set_cons_zero, List.set_cons_succ])
            clear c7x
            refine wpAnyH_ready (rs := [3]) (by kernel_rfl) (by simp) ?_
            refine AllReadyH.cons rfl (fun K hK => ?_) AllReadyH.nil
            go_simp
            refine (l1Below W _ p 3 (by omega) (by omega) HB.out.drew.cur).mono ?_
            rintro e w5' ⟨⟨mm, hmm, rfl⟩, hc, hg⟩
            have hn1 := HB.out.drew.next hc hg
            have ho1 := own_next8 (wr := wr.drew) HOWN.out hlp hg
            have hw1 : IntKind.i64.wrap ((mm : Int) - 1) = (mm : Int) - 1 := IntWalk.i64_in _ (by omega)
            clear hc hg
            refine hK.out _ _ trivial (fun hHeld => ?_)
            clear hK K
            (try simp only [List.getElem_toArray, List.getElem_cons_succ, List.getElem_cons_zero, Act.put, List.setIfInBounds_toArray, List.set_cons_zero, List.set_cons_succ])
            refine wpAnyH_take (i := 4) (oi := ?o3) (v := ?v3) ?hi3 ?hs3 ?hf3 ?hr3 ?hQ3 ?hy3 ?hS3 ?rest3
            case hi3 => rfl
            case hs3 => kernel_rfl
            case hf3 => kernel_rfl
            case hr3 => kernel_rfl
            case hQ3 => exact fun _ _ _ h => h
            case hS3 => assumption
            case hy3 =>
              refine Or.inl ⟨by kernel_rfl, ?_⟩
              intro w' hSw
              (try dsimp only at hSw)
              go_simp
              (try rfl)
            (try simp only [List.getElem_toArray, List.getElem_cons_succ, List.getElem_cons_zero, Act.put, List.setIfInBounds_toArray, List.set_cons_zero, List.set_cons_succ])
            refine wpAnyH_ready (rs := [5]) (by kernel_rfl) (by simp) ?_
            refine AllReadyH.cons rfl (fun K hK => ?_) AllReadyH.nil
            go_simp
            refine hK.out _ _ trivial (fun hHeld => ?_)
            clear hK K
            (try simp only [List.getElem_toArray, List.getElem_cons_succ, List.getElem_cons_zero, Act.put, List.setIfInBounds_toArray, List.set_cons_zero, List.set_cons_succ])
            refine wpAnyH_ready (rs := [6]) (by kernel_rfl) (by simp) ?_
            refine AllReadyH.cons rfl (fun K hK => ?_) AllReadyH.nil
            refine step_append_lies _ rfl (.tmp 46) (.tmp 50) 24 rfl w.heap.size 3 iI (.int .i64 0) 1 8 Tryz.underlying24 hi hz0 hz1 hz2 rfl (by decide) (.slice va D.s.length vc) D.s.length (intCells D.s) (by simp [Act.eval]) (ho1.alloc (.cells #[.int .i64 ((mm : Int) - 1)] 3)) ⟨w5'.heap.size, 0, none⟩ 1 1 [.int .i64 ((mm : Int) - 1)] (by simp [Act.eval]) rfl news_one (by intro y hy; simp at hy; subst hy; rfl) (by omega) (by unfold maxLen; omega) (by omega) (by have := (hn1.laid (.cells #[.int .i64 ((mm : Int) - 1)] 3)).grw.size; exact this) (w5'.heap.size + 1) (by simp) ?_
            intro g cap w8' hown8 hg8 _ hlt8
            have hn2 := RtB.app (hn1.laid (.cells #[.int .i64 ((mm : Int) - 1)] 3)) (ho1.alloc (.cells #[.int .i64 ((mm : Int) - 1)] 3)) hg8
            refine hK.out _ _ trivial (fun hHeld => ?_)
            clear hK K
            (try simp only [List.getElem_toArray, List.getElem_cons_succ, List.getElem_cons_zero, Act.put, List.setIfInBounds_toArray, List.set_cons_zero, List.set_cons_succ])
            refine wpAnyH_take (i := 7) (oi := ?o4) (v := ?v4) ?hi4 ?hs4 ?hf4 ?hr4 ?hQ4 ?hy4 ?hS4 ?rest4
            case hi4 => rfl
            case hs4 => kernel_rfl
            case hf4 => kernel_rfl
            case hr4 => kernel_rfl
            case hQ4 => exact fun _ _ _ h => h
            case hS4 => assumption
            case hy4 =>
              refine Or.inl ⟨by kernel_rfl, ?_⟩
              intro w' hSw
              (try dsimp only at hSw)
              go_simp
              (try rfl)
            (try simp only [List.getElem_toArray, List.getElem_cons_succ, List.getElem_cons_zero, Act.put, List.setIfInBounds_toArray, List.set_cons_zero, List.set_cons_succ])
            have c7s : w8'.cell? ⟨b3, 7, none⟩ = some (.slice va D.s.length vc) := cell_blk hn2.box 7
            have cf7s := free_blk hn2.box 7
            have cl7s := blk_lt hn2.box
            refine wpAnyH_ready (rs := [8]) (by kernel_rfl) (by simp) ?_
            refine AllReadyH.cons rfl (fun K hK => ?_) AllReadyH.nil
            go_simp
            refine hK.out _ _ trivial (fun hHeld => ?_)
            clear hK K
            (try simp only [List.getElem_toArray, List.getElem_cons_succ, List.getElem_cons_zero, Act.put, List.setIfInBounds_toArray, List.set_cons_zero, List.set_cons_succ])
            refine wpAnyH_done (by kernel_rfl) ?_ _
            refine NoPanic.normal ?_
            have hn3 : RtB W w (w8'.setCell ⟨b3, 7, none⟩ (.slice (some ⟨g, 0, none⟩) (D.s.length + 1) cap)) p b3 { D with s := D.s ++ [(mm : Int) - 1] } (.slice (some ⟨g, 0, none⟩) (D.s.length + 1) cap) := hn2.put rfl
            have hown9 := ownsRow_setCell_other (a := ⟨b3, 7, none⟩) hown8 (owns_ne_blk hown8 hn2.box (by decide)) (.slice (some ⟨g, 0, none⟩) (D.s.length + 1) cap)
            have HN3 := Lib.hid hn3
            have HO9 := Lib.hid hown9
            clear c7s cf7s cl7s hn3 hown9 hown8 hg8 hlt8 hn2 hn1 ho1 hw1 hHeld HB HOWN
            generalize w8'.setCell ⟨b3, 7, none⟩ (.slice (some ⟨g, 0, none⟩) (D.s.length + 1) cap) = w9' at HN3 HO9 ⊢
            go_wp2_with fail
            go_roundw
            case rel => exact ⟨D.s.length + 1, { D with s := D.s ++ [(mm : Int) - 1] }, _, by omega, by go_num, HN3.out, row9 HO9.out, by simp, hDe⟩
            case measure => simp [intOf]; omega
          · go_simp
            refine (l1Below W _ p 3 (by omega) (by omega) HB.out.drew.cur).mono ?_
            rintro e w5' ⟨⟨mm, hmm, rfl⟩, hc, hg⟩
            have hn1 := HB.out.drew.next hc hg
            have ho1 := own_next8 (wr := wr.drew) HOWN.out hlp hg
            have hw1 : IntKind.i64.wrap ((mm : Int) - 1) = (mm : Int) - 1 := IntWalk.i64_in _ (by omega)
            clear hc hg
            refine hK.out _ _ trivial (fun hHeld => ?_)
            clear hK K
            (try simp only [List.getElem_toArray, List.getElem_cons_succ, List.getElem_cons_zero, Act.put, List.setIfInBounds_toArray, List.set_cons_zero, List.set_cons_succ])
            refine wpAnyH_take (i := 4) (oi := ?o7) (v := ?v7) ?hi7 ?hs7 ?hf7 ?hr7 ?hQ7 ?hy7 ?hS7 ?rest7
            case hi7 => rfl
            case hs7 => kernel_rfl
            case hf7 => kernel_rfl
            case hr7 => kernel_rfl
            case hQ7 => exact fun _ _ _ h => h
            case hS7 => assumption
            case hy7 =>
              refine Or.inl ⟨by kernel_rfl, ?_⟩
              intro w' hSw
              (try dsimp only at hSw)
              go_simp
              (try rfl)
            (try simp only [List.getElem_toArray, List.getElem_cons_succ, List.getElem_cons_zero, Act.put, List.setIfInBounds_toArray, List.set_cons_zero, List.set_cons_succ])
            refine wpAnyH_ready (rs := [1, 5]) (by kernel_rfl) (by simp) ?_
            refine AllReadyH.cons rfl (fun K hK => ?_) (AllReadyH.cons rfl (fun K hK => ?_) AllReadyH.nil)
            · have c7x : (w5').cell? ⟨b3, 7, none⟩ = some (.slice va D.s.length vc) := cell_blk (hn1).box 7
              go_simp
              refine hK.out _ _ trivial (fun hHeld => ?_)
              clear hK K
              (try simp only [List.getElem_toArray, List.getElem_cons_succ, List.getElem_cons_zero, Act.put, List.setIfInBounds_toArray, List.set_cons_zero, List.set_cons_succ])
              clear c7x
              refine wpAnyH_ready (rs := [5]) (by kernel_rfl) (by simp) ?_
              refine AllReadyH.cons rfl (fun K hK => ?_) AllReadyH.nil
              go_simp
              refine hK.out _ _ trivial (fun hHeld => ?_)
              clear hK K
              (try simp only [List.getElem_toArray, List.getElem_cons_succ, List.getElem_cons_zero, Act.put, List.setIfInBounds_toArray, List.set_cons_zero, List.set_cons_succ])
              refine wpAnyH_ready (rs := [6]) (by kernel_rfl) (by simp) ?_
              refine AllReadyH.cons rfl (fun K hK => ?_) AllReadyH.nil
              refine step_append_lies _ rfl (.tmp 46) (.tmp 50) 24 rfl w.heap.size 3 iI (.int .i64 0) 1 8 Tryz.underlying24 hi hz0 hz1 hz2 rfl (by decide) (.slice va D.s.length vc) D.s.length (intCells D.s) (by simp [Act.eval]) (ho1.alloc (.cells #[.int .i64 ((mm : Int) - 1)] 3)) ⟨w5'.heap.size, 0, none⟩ 1 1 [.int .i64 ((mm : Int) - 1)] (by simp [Act.eval]) rfl news_one (by intro y hy; simp at hy; subst hy; rfl) (by omega) (by unfold maxLen; omega) (by omega) (by have := (hn1.laid (.cells #[.int .i64 ((mm : Int) - 1)] 3)).grw.size; exact this) (w5'.heap.size + 1) (by simp) ?_
              intro g cap w8' hown8 hg8 _ hlt8
              have hn2 := RtB.app (hn1.laid (.cells #[.int .i64 ((mm : Int) - 1)] 3)) (ho1.alloc (.cells #[.int .i64 ((mm : Int) - 1)] 3)) hg8
              refine hK.out _ _ trivial (fun hHeld => ?_)
              clear hK K
              (try simp only [List.getElem_toArray, List.getElem_cons_succ, List.getElem_cons_zero, Act.put, List.setIfInBounds_toArray, List.set_cons_zero, List.set_cons_succ])
              refine wpAnyH_take (i := 7) (oi := ?o5) (v := ?v5) ?hi5 ?hs5 ?hf5 ?hr5 ?hQ5 ?hy5 ?hS5 ?rest5
              case hi5 => rfl
              case hs5 => kernel_rfl
              case hf5 => kernel_rfl
              case hr5 => kernel_rfl
              case hQ5 => exact fun _ _ _ h => h
              case hS5 => assumption
              case hy5 =>
                refine Or.inl ⟨by kernel_rfl, ?_⟩
                intro w' hSw
                (try dsimp only at hSw)
                go_simp
                (try rfl)
              (try simp only [List.getElem_toArray, List.getElem_cons_succ, List.getElem_cons_zero, Act.put, List.setIfInBounds_toArray, List.set_cons_zero, List.set_cons_succ])
              have c7s : w8'.cell? ⟨b3, 7, none⟩ = some (.slice va D.s.length vc) := cell_blk hn2.box 7
              have cf7s := free_blk hn2.box 7
              have cl7s := blk_lt hn2.box
              refine wpAnyH_ready (rs := [8]) (by kernel_rfl) (by simp) ?_
              refine AllReadyH.cons rfl (fun K hK => ?_) AllReadyH.nil
              go_simp
              refine hK.out _ _ trivial (fun hHeld => ?_)
              clear hK K
              (try simp only [List.getElem_toArray, List.getElem_cons_succ, List.getElem_cons_zero, Act.put, List.setIfInBounds_toArray, List.set_cons_zero, List.set_cons_succ])
              refine wpAnyH_done (by kernel_rfl) ?_ _
              refine NoPanic.normal ?_
              have hn3 : RtB W w (w8'.setCell ⟨b3, 7, none⟩ (.slice (some ⟨g, 0, none⟩) (D.s.length + 1) cap)) p b3 { D with s := D.s ++ [(mm : Int) - 1] } (.slice (some ⟨g, 0, none⟩) (D.s.length + 1) cap) := hn2.put rfl
              have hown9 := ownsRow_setCell_other (a := ⟨b3, 7, none⟩) hown8 (owns_ne_blk hown8 hn2.box (by decide)) (.slice (some ⟨g, 0, none⟩) (D.s.length + 1) cap)
              have HN3 := Lib.hid hn3
              have HO9 := Lib.hid hown9
              clear c7s cf7s cl7s hn3 hown9 hown8 hg8 hlt8 hn2 hn1 ho1 hw1 hHeld HB HOWN
              generalize w8'.setCell ⟨b3, 7, none⟩ (.slice (some ⟨g, 0, none⟩) (D.s.length + 1) cap) = w9' at HN3 HO9 ⊢
              go_wp2_with fail
              go_roundw
              case rel => exact ⟨D.s.length + 1, { D with s := D.s ++ [(mm : Int) - 1] }, _, by omega, by go_num, HN3.out, row9 HO9.out, by simp, hDe⟩
              case measure => simp [intOf]; omega
            · go_simp
              refine hK.out _ _ trivial (fun hHeld => ?_)
              clear hK K
              (try simp only [List.getElem_toArray, List.getElem_cons_succ, List.getElem_cons_zero, Act.put, List.setIfInBounds_toArray, List.set_cons_zero, List.set_cons_succ])
              refine wpAnyH_ready (rs := [1]) (by kernel_rfl) (by simp) ?_
              refine AllReadyH.cons rfl (fun K hK => ?_) AllReadyH.nil
              have c7x : (w5'.alloc (.cells #[.int .i64 ((mm : Int) - 1)] 3)).cell? ⟨b3, 7, none⟩ = some (.slice va D.s.length vc) := cell_blk (hn1.laid (.cells #[.int .i64 ((mm : Int) - 1)] 3)).box 7
              go_simp
              refine hK.out _ _ trivial (fun hHeld => ?_)
              clear hK K
              (try simp only [List.getElem_toArray, List.getElem_cons_succ, List.getElem_cons_zero, Act.put, List.setIfInBounds_toArray, List.set_cons_zero, List.set_cons_succ])
              clear c7x
              refine wpAnyH_ready (rs := [6]) (by kernel_rfl) (by simp) ?_
              refine AllReadyH.cons rfl (fun K hK => ?_) AllReadyH.nil
              refine step_append_lies _ rfl (.tmp 46) (.tmp 50) 24 rfl w.heap.size 3 iI (.int .i64 0) 1 8 Tryz.underlying24 hi hz0 hz1 hz2 rfl (by decide) (.slice va D.s.length vc) D.s.length (intCells D.s) (by simp [Act.eval]) (ho1.alloc (.cells #[.int .i64 ((mm : Int) - 1)] 3)) ⟨w5'.heap.size, 0, none⟩ 1 1 [.int .i64 ((mm : Int) - 1)] (by simp [Act.eval]) rfl news_one (by intro y hy; simp at hy; subst hy; rfl) (by omega) (by unfold maxLen; omega) (by omega) (by have := (hn1.laid (.cells #[.int .i64 ((mm : Int) - 1)] 3)).grw.size; exact this) (w5'.heap.size + 1) (by simp) ?_
              intro g cap w8' hown8 hg8 _ hlt8
              have hn2 := RtB.app (hn1.laid (.cells #[.int .i64 ((mm : Int) - 1)] 3)) (ho1.alloc (.cells #[.int .i64 ((mm : Int) - 1)] 3)) hg8
              refine hK.out _ _ trivial (fun hHeld => ?_)
              clear hK K
              (try simp only [List.getElem_toArray, List.getElem_cons_succ, List.getElem_cons_zero, Act.put, List.setIfInBounds_toArray, List.set_cons_zero, List.set_cons_succ])
              refine wpAnyH_take (i := 7) (oi := ?o6) (v := ?v6) ?hi6 ?hs6 ?hf6 ?hr6 ?hQ6 ?hy6 ?hS6 ?rest6
              case hi6 => rfl
              case hs6 => kernel_rfl
              case hf6 => kernel_rfl
              case hr6 => kernel_rfl
              case hQ6 => exact fun _ _ _ h => h
              case hS6 => assumption
              case hy6 =>
                refine Or.inl ⟨by kernel_rfl, ?_⟩
                intro w' hSw
                (try dsimp only at hSw)
                go_simp
                (try rfl)
              (try simp only [List.getElem_toArray, List.getElem_cons_succ, List.getElem_cons_zero, Act.put, List.setIfInBounds_toArray, List.set_cons_zero, List.set_cons_succ])
              have c7s : w8'.cell? ⟨b3, 7, none⟩ = some (.slice va D.s.length vc) := cell_blk hn2.box 7
              have cf7s := free_blk hn2.box 7
              have cl7s := blk_lt hn2.box
              refine wpAnyH_ready (rs := [8]) (by kernel_rfl) (by simp) ?_
              refine AllReadyH.cons rfl (fun K hK => ?_) AllReadyH.nil
              go_simp
              refine hK.out _ _ trivial (fun hHeld => ?_)
              clear hK K
              (try simp only [List.getElem_toArray, List.getElem_cons_succ, List.getElem_cons_zero, Act.put, List.setIfInBounds_toArray, List.set_cons_zero, List.set_cons_succ])
              refine wpAnyH_done (by kernel_rfl) ?_ _
              refine NoPanic.normal ?_
              have hn3 : RtB W w (w8'.setCell ⟨b3, 7, none⟩ (.slice (some ⟨g, 0, none⟩) (D.s.length + 1) cap)) p b3 { D with s := D.s ++ [(mm : Int) - 1] } (.slice (some ⟨g, 0, none⟩) (D.s.length + 1) cap) := hn2.put rfl
              have hown9 := ownsRow_setCell_other (a := ⟨b3, 7, none⟩) hown8 (owns_ne_blk hown8 hn2.box (by decide)) (.slice (some ⟨g, 0, none⟩) (D.s.length + 1) cap)
              have HN3 := Lib.hid hn3
              have HO9 := Lib.hid hown9
              clear c7s cf7s cl7s hn3 hown9 hown8 hg8 hlt8 hn2 hn1 ho1 hw1 hHeld HB HOWN
              generalize w8'.setCell ⟨b3, 7, none⟩ (.slice (some ⟨g, 0, none⟩) (D.s.length + 1) cap) = w9' at HN3 HO9 ⊢
              go_wp2_with fail
              go_roundw
              case rel => exact ⟨D.s.length + 1, { D with s := D.s ++ [(mm : Int) - 1] }, _, by omega, by go_num, HN3.out, row9 HO9.out, by simp, hDe⟩
              case measure => simp [intOf]; omega
        · have hlt1 : ¬ (k : Int) < m9 := by omega
          have HOWN := Lib.hid hown
          clear hown
          have c0 : wr.cell? ⟨b3, 0, none⟩ = some (.int .i64 D.r) := cell_blk HB.out.box 0
          have cf0 := free_blk HB.out.box 0
          have c1 : wr.cell? ⟨b3, 1, none⟩ = some (.int .i64 D.d) := cell_blk HB.out.box 1
          have cf1 := free_blk HB.out.box 1
          have c2 : wr.cell? ⟨b3, 2, none⟩ = some (.int .i64 D.b) := cell_blk HB.out.box 2
          have cf2 := free_blk HB.out.box 2
          have c3 : wr.cell? ⟨b3, 3, none⟩ = some (.int .i64 D.l) := cell_blk HB.out.box 3
          have cf3 := free_blk HB.out.box 3
          have c4 : wr.cell? ⟨b3, 4, none⟩ = some (.int .i64 D.m) := cell_blk HB.out.box 4
          have cf4 := free_blk HB.out.box 4
          have c5 : wr.cell? ⟨b3, 5, none⟩ = some (.int .i64 D.n) := cell_blk HB.out.box 5
          have cf5 := free_blk HB.out.box 5
          have c6 : wr.cell? ⟨b3, 6, none⟩ = some (.int .i64 D.e) := cell_blk HB.out.box 6
          have cf6 := free_blk HB.out.box 6
          have c7 : wr.cell? ⟨b3, 7, none⟩ = some (.slice va D.s.length vc) := cell_blk HB.out.box 7
          have cf7 := free_blk HB.out.box 7
          have cl := blk_lt HB.out.box
          have r0 := cell_blk HB.out.res 0
          have rf0 := free_blk HB.out.res 0
          have r1 := cell_blk HB.out.res 1
          have rf1 := free_blk HB.out.res 1
          have r2 := cell_blk HB.out.res 2
          have rf2 := free_blk HB.out.res 2
          have r3 := cell_blk HB.out.res 3
          have rf3 := free_blk HB.out.res 3
          have r4 := cell_blk HB.out.res 4
          have rf4 := free_blk HB.out.res 4
          have r5 := cell_blk HB.out.res 5
          have rf5 := free_blk HB.out.res 5
          have r6 := cell_blk HB.out.res 6
          have rf6 := free_blk HB.out.res 6
          have r7 := cell_blk HB.out.res 7
          have rf7 := free_blk HB.out.res 7
          have rl := blk_lt HB.out.res
          go_wp2_with fail
          refine bodyPost_ret (v := cfgV D (.slice va D.s.length vc)) ?_ rfl ⟨⟨D, _, rfl, ?_, by omega, by omega, by omega⟩, ?_, ?_⟩
          · rw [results_one rfl]
            simp only [cfgV]
            go_simp
          · iterate 8 refine ownsRow_setCell_other ?_ (owns_ne_blk HOWN.out HB.out.res (by decide)) _
            exact HOWN.out
          · iterate 8 refine Cur.far8 ?_ hlp
            exact HB.out.cur
          · iterate 8 refine grown_set8 ?_ (Nat.le_refl _)
            exact HB.out.grw
    | false =>
      go_wp2_with fail
      refine (l1Below W _ p 5 (by omega) (by omega) HB.out.cur).mono ?_
      rintro e wt ⟨⟨m9, hm9, rfl⟩, hc, hg⟩
      replace HB := Lib.hid (HB.out.next hc hg)
      clear hc hg hb3
      go_wp2_with fail
      go_loopw [5] (fun i wr => ∃ (k : Nat) (D : Cfg) (v : Value), k ≤ m9 ∧ i = .int .i64 k ∧ RtB W w wr p b3 D v ∧ wr.ownsRow w.heap.size 3 1 v D.s.length (intCells D.s) ∧ D.s.length = k ∧ D.e = (q : Int)) (fun i _ => m9 - (intOf i).toNat)
      case atStart => exact ⟨0, C, .slice none 0 0, Nat.zero_le _, rfl, HB.out, by rw [hCs]; exact ⟨rfl, Or.inl ⟨rfl, rfl⟩⟩, by rw [hCs]; rfl, hCe⟩
      case round =>
        clear HB
        obtain ⟨k, D, v, hk9, rfl, hB, hown, hDk, hDe⟩ := hrel
        have HB := Lib.hid hB
        obtain ⟨va, vc, rfl⟩ := ownsI_form hown
        clear hB
        by_cases hlt : k < m9
        · have hlt1 : (k : Int) < m9 := by omega
          have HOWN := Lib.hid hown
          have HDK := Lib.hid hDk
          have hkd : k = D.s.length := hDk.symm
          have hdl : D.s.length ≤ 5 := by omega
          subst hkd
          clear hown
          have c0 : wr.cell? ⟨b3, 0, none⟩ = some (.int .i64 D.r) := cell_blk HB.out.box 0
          have cf0 := free_blk HB.out.box 0
          have c1 : wr.cell? ⟨b3, 1, none⟩ = some (.int .i64 D.d) := cell_blk HB.out.box 1
          have cf1 := free_blk HB.out.box 1
          have c2 : wr.cell? ⟨b3, 2, none⟩ = some (.int .i64 D.b) := cell_blk HB.out.box 2
          have cf2 := free_blk HB.out.box 2
          have c3 : wr.cell? ⟨b3, 3, none⟩ = some (.int .i64 D.l) := cell_blk HB.out.box 3
          have cf3 := free_blk HB.out.box 3
          have c4 : wr.cell? ⟨b3, 4, none⟩ = some (.int .i64 D.m) := cell_blk HB.out.box 4
          have cf4 := free_blk HB.out.box 4
          have c5 : wr.cell? ⟨b3, 5, none⟩ = some (.int .i64 D.n) := cell_blk HB.out.box 5
          have cf5 := free_blk HB.out.box 5
          have c6 : wr.cell? ⟨b3, 6, none⟩ = some (.int .i64 D.e) := cell_blk HB.out.box 6
          have cf6 := free_blk HB.out.box 6
          have c7 : wr.cell? ⟨b3, 7, none⟩ = some (.slice va D.s.length vc) := cell_blk HB.out.box 7
          have cf7 := free_blk HB.out.box 7
          have cl := blk_lt HB.out.box
          go_wp2_with fail
          clear c0 cf0 c1 cf1 c2 cf2 c3 cf3 c4 cf4 c5 cf5 c6 cf6 c7 cf7 cl
          refine wp_region_noPanic ?_
          refine wp_region_held_drew (S := (fun _ => True)) (by kernel_rfl) trivial (fun hHeld => ?_)
          refine wpAnyH_take (i := 0) (oi := ?o8) (v := ?v8) ?hi8 ?hs8 ?hf8 ?hr8 ?hQ8 ?hy8 ?hS8 ?rest8
          case hi8 => rfl
          case hs8 => kernel_rfl
          case hf8 => kernel_rfl
          case hr8 => kernel_rfl
          case hQ8 => exact fun _ _ _ h => h
          case hS8 => assumption
          case hy8 =>
            refine Or.inl ⟨by kernel_rfl, ?_⟩
            intro w' hSw
            (try dsimp only at hSw)
            go_simp
            (try rfl)
          (try simp only [List.getElem_toArray, List.getElem_cons_zero, Act.put, List.setIfInBounds_toArray, List.set_cons_zero, List.set_cons_succ])
          refine wpAnyH_take (i := 2) (oi := ?o9) (v := ?v9) ?hi9 ?hs9 ?hf9 ?hr9 ?hQ9 ?hy9 ?hS9 ?rest9
          case hi9 => rfl
          case hs9 => kernel_rfl
          case hf9 => kernel_rfl
          case hr9 => kernel_rfl
          case hQ9 => exact fun _ _ _ h => h
          case hS9 => assumption
          case hy9 =>
            refine Or.inl ⟨by kernel_rfl, ?_⟩
            intro w' hSw
            (try dsimp only at hSw)
            go_simp
            (try rfl)
          (try simp only [List.getElem_toArray, List.getElem_cons_succ, List.getElem_cons_zero, Act.put, List.setIfInBounds_toArray, List.set_cons_zero, List.set_cons_succ])
          refine wpAnyH_ready (rs := [1, 3]) (by kernel_rfl) (by simp) ?_
          refine AllReadyH.cons rfl (fun K hK => ?_) (AllReadyH.cons rfl (fun K hK => ?_) AllReadyH.nil)
          · have c7x : (wr.drew).cell? ⟨b3, 7, none⟩ = some (.slice va D.s.length vc) := cell_blk (HB.out.drew).box 7
            go_simp
            refine hK.out _ _ trivial (fun hHeld => ?_)
            clear hK K
            (try simp only [List.getElem_toArray, List.getElem_cons_succ, List.getElem_cons_zero, Act.put, List.setIfInBounds_toArray, List.set_cons_zero, List.set_cons_succ])
            clear c7x
            refine wpAnyH_ready (rs := [3]) (by kernel_rfl) (by simp) ?_
            refine AllReadyH.cons rfl (fun K hK => ?_) AllReadyH.nil
            go_simp
            refine (l1Below W _ p 3 (by omega) (by omega) HB.out.drew.cur).mono ?_
            rintro e w5' ⟨⟨mm, hmm, rfl⟩, hc, hg⟩
            have hn1 := HB.out.drew.next hc hg
            have ho1 := own_next8 (wr := wr.drew) HOWN.out hlp hg
            have hw1 : IntKind.i64.wrap ((mm : Int) - 1) = (mm : Int) - 1 := IntWalk.i64_in _ (by omega)
            clear hc hg
            refine hK.out _ _ trivial (fun hHeld => ?_)
            clear hK K
            (try simp only [List.getElem_toArray, List.getElem_cons_succ, List.getElem_cons_zero, Act.put, List.setIfInBounds_toArray, List.set_cons_zero, List.set_cons_succ])
            refine wpAnyH_take (i := 4) (oi := ?o10) (v := ?v10) ?hi10 ?hs10 ?hf10 ?hr10 ?hQ10 ?hy10 ?hS10 ?rest10
            case hi10 => rfl
            case hs10 => kernel_rfl
            case hf10 => kernel_rfl
            case hr10 => kernel_rfl
            case hQ10 => exact fun _ _ _ h => h
            case hS10 => assumption
            case hy10 =>
              refine Or.inl ⟨by kernel_rfl, ?_⟩
              intro w' hSw
              (try dsimp only at hSw)
              go_simp
              (try rfl)
            (try simp only [List.getElem_toArray, List.getElem_cons_succ, List.getElem_cons_zero, Act.put, List.setIfInBounds_toArray, List.set_cons_zero, List.set_cons_succ])
            refine wpAnyH_ready (rs := [5]) (by kernel_rfl) (by simp) ?_
            refine AllReadyH.cons rfl (fun K hK => ?_) AllReadyH.nil
            go_simp
            refine hK.out _ _ trivial (fun hHeld => ?_)
            clear hK K
            (try simp only [List.getElem_toArray, List.getElem_cons_succ, List.getElem_cons_zero, Act.put, List.setIfInBounds_toArray, List.set_cons_zero, List.set_cons_succ])
            refine wpAnyH_ready (rs := [6]) (by kernel_rfl) (by simp) ?_
            refine AllReadyH.cons rfl (fun K hK => ?_) AllReadyH.nil
            refine step_append_lies _ rfl (.tmp 46) (.tmp 50) 24 rfl w.heap.size 3 iI (.int .i64 0) 1 8 Tryz.underlying24 hi hz0 hz1 hz2 rfl (by decide) (.slice va D.s.length vc) D.s.length (intCells D.s) (by simp [Act.eval]) (ho1.alloc (.cells #[.int .i64 ((mm : Int) - 1)] 3)) ⟨w5'.heap.size, 0, none⟩ 1 1 [.int .i64 ((mm : Int) - 1)] (by simp [Act.eval]) rfl news_one (by intro y hy; simp at hy; subst hy; rfl) (by omega) (by unfold maxLen; omega) (by omega) (by have := (hn1.laid (.cells #[.int .i64 ((mm : Int) - 1)] 3)).grw.size; exact this) (w5'.heap.size + 1) (by simp) ?_
            intro g cap w8' hown8 hg8 _ hlt8
            have hn2 := RtB.app (hn1.laid (.cells #[.int .i64 ((mm : Int) - 1)] 3)) (ho1.alloc (.cells #[.int .i64 ((mm : Int) - 1)] 3)) hg8
            refine hK.out _ _ trivial (fun hHeld => ?_)
            clear hK K
            (try simp only [List.getElem_toArray, List.getElem_cons_succ, List.getElem_cons_zero, Act.put, List.setIfInBounds_toArray, List.set_cons_zero, List.set_cons_succ])
            refine wpAnyH_take (i := 7) (oi := ?o11) (v := ?v11) ?hi11 ?hs11 ?hf11 ?hr11 ?hQ11 ?hy11 ?hS11 ?rest11
            case hi11 => rfl
            case hs11 => kernel_rfl
            case hf11 => kernel_rfl
            case hr11 => kernel_rfl
            case hQ11 => exact fun _ _ _ h => h
            case hS11 => assumption
            case hy11 =>
              refine Or.inl ⟨by kernel_rfl, ?_⟩
              intro w' hSw
              (try dsimp only at hSw)
              go_simp
              (try rfl)
            (try simp only [List.getElem_toArray, List.getElem_cons_succ, List.getElem_cons_zero, Act.put, List.setIfInBounds_toArray, List.set_cons_zero, List.set_cons_succ])
            have c7s : w8'.cell? ⟨b3, 7, none⟩ = some (.slice va D.s.length vc) := cell_blk hn2.box 7
            have cf7s := free_blk hn2.box 7
            have cl7s := blk_lt hn2.box
            refine wpAnyH_ready (rs := [8]) (by kernel_rfl) (by simp) ?_
            refine AllReadyH.cons rfl (fun K hK => ?_) AllReadyH.nil
            go_simp
            refine hK.out _ _ trivial (fun hHeld => ?_)
            clear hK K
            (try simp only [List.getElem_toArray, List.getElem_cons_succ, List.getElem_cons_zero, Act.put, List.setIfInBounds_toArray, List.set_cons_zero, List.set_cons_succ])
            refine wpAnyH_done (by kernel_rfl) ?_ _
            refine NoPanic.normal ?_
            have hn3 : RtB W w (w8'.setCell ⟨b3, 7, none⟩ (.slice (some ⟨g, 0, none⟩) (D.s.length + 1) cap)) p b3 { D with s := D.s ++ [(mm : Int) - 1] } (.slice (some ⟨g, 0, none⟩) (D.s.length + 1) cap) := hn2.put rfl
            have hown9 := ownsRow_setCell_other (a := ⟨b3, 7, none⟩) hown8 (owns_ne_blk hown8 hn2.box (by decide)) (.slice (some ⟨g, 0, none⟩) (D.s.length + 1) cap)
            have HN3 := Lib.hid hn3
            have HO9 := Lib.hid hown9
            clear c7s cf7s cl7s hn3 hown9 hown8 hg8 hlt8 hn2 hn1 ho1 hw1 hHeld HB HOWN
            generalize w8'.setCell ⟨b3, 7, none⟩ (.slice (some ⟨g, 0, none⟩) (D.s.length + 1) cap) = w9' at HN3 HO9 ⊢
            go_wp2_with fail
            go_roundw
            case rel => exact ⟨D.s.length + 1, { D with s := D.s ++ [(mm : Int) - 1] }, _, by omega, by go_num, HN3.out, row9 HO9.out, by simp, hDe⟩
            case measure => simp [intOf]; omega
          · go_simp
            refine (l1Below W _ p 3 (by omega) (by omega) HB.out.drew.cur).mono ?_
            rintro e w5' ⟨⟨mm, hmm, rfl⟩, hc, hg⟩
            have hn1 := HB.out.drew.next hc hg
            have ho1 := own_next8 (wr := wr.drew) HOWN.out hlp hg
            have hw1 : IntKind.i64.wrap ((mm : Int) - 1) = (mm : Int) - 1 := IntWalk.i64_in _ (by omega)
            clear hc hg
            refine hK.out _ _ trivial (fun hHeld => ?_)
            clear hK K
            (try simp only [List.getElem_toArray, List.getElem_cons_succ, List.getElem_cons_zero, Act.put, List.setIfInBounds_toArray, List.set_cons_zero, List.set_cons_succ])
            refine wpAnyH_take (i := 4) (oi := ?o14) (v := ?v14) ?hi14 ?hs14 ?hf14 ?hr14 ?hQ14 ?hy14 ?hS14 ?rest14
            case hi14 => rfl
            case hs14 => kernel_rfl
            case hf14 => kernel_rfl
            case hr14 => kernel_rfl
            case hQ14 => exact fun _ _ _ h => h
            case hS14 => assumption
            case hy14 =>
              refine Or.inl ⟨by kernel_rfl, ?_⟩
              intro w' hSw
              (try dsimp only at hSw)
              go_simp
              (try rfl)
            (try simp only [List.getElem_toArray, List.getElem_cons_succ, List.getElem_cons_zero, Act.put, List.setIfInBounds_toArray, List.set_cons_zero, List.set_cons_succ])
            refine wpAnyH_ready (rs := [1, 5]) (by kernel_rfl) (by simp) ?_
            refine AllReadyH.cons rfl (fun K hK => ?_) (AllReadyH.cons rfl (fun K hK => ?_) AllReadyH.nil)
            · have c7x : (w5').cell? ⟨b3, 7, none⟩ = some (.slice va D.s.length vc) := cell_blk (hn1).box 7
              go_simp
              refine hK.out _ _ trivial (fun hHeld => ?_)
              clear hK K
              (try simp only [List.getElem_toArray, List.getElem_cons_succ, List.getElem_cons_zero, Act.put, List.setIfInBounds_toArray, List.set_cons_zero, List.set_cons_succ])
              clear c7x
              refine wpAnyH_ready (rs := [5]) (by kernel_rfl) (by simp) ?_
              refine AllReadyH.cons rfl (fun K hK => ?_) AllReadyH.nil
              go_simp
              refine hK.out _ _ trivial (fun hHeld => ?_)
              clear hK K
              (try simp only [List.getElem_toArray, List.getElem_cons_succ, List.getElem_cons_zero, Act.put, List.setIfInBounds_toArray, List.set_cons_zero, List.set_cons_succ])
              refine wpAnyH_ready (rs := [6]) (by kernel_rfl) (by simp) ?_
              refine AllReadyH.cons rfl (fun K hK => ?_) AllReadyH.nil
              refine step_append_lies _ rfl (.tmp 46) (.tmp 50) 24 rfl w.heap.size 3 iI (.int .i64 0) 1 8 Tryz.underlying24 hi hz0 hz1 hz2 rfl (by decide) (.slice va D.s.length vc) D.s.length (intCells D.s) (by simp [Act.eval]) (ho1.alloc (.cells #[.int .i64 ((mm : Int) - 1)] 3)) ⟨w5'.heap.size, 0, none⟩ 1 1 [.int .i64 ((mm : Int) - 1)] (by simp [Act.eval]) rfl news_one (by intro y hy; simp at hy; subst hy; rfl) (by omega) (by unfold maxLen; omega) (by omega) (by have := (hn1.laid (.cells #[.int .i64 ((mm : Int) - 1)] 3)).grw.size; exact this) (w5'.heap.size + 1) (by simp) ?_
              intro g cap w8' hown8 hg8 _ hlt8
              have hn2 := RtB.app (hn1.laid (.cells #[.int .i64 ((mm : Int) - 1)] 3)) (ho1.alloc (.cells #[.int .i64 ((mm : Int) - 1)] 3)) hg8
              refine hK.out _ _ trivial (fun hHeld => ?_)
              clear hK K
              (try simp only [List.getElem_toArray, List.getElem_cons_succ, List.getElem_cons_zero, Act.put, List.setIfInBounds_toArray, List.set_cons_zero, List.set_cons_succ])
              refine wpAnyH_take (i := 7) (oi := ?o12) (v := ?v12) ?hi12 ?hs12 ?hf12 ?hr12 ?hQ12 ?hy12 ?hS12 ?rest12
              case hi12 => rfl
              case hs12 => kernel_rfl
              case hf12 => kernel_rfl
              case hr12 => kernel_rfl
              case hQ12 => exact fun _ _ _ h => h
              case hS12 => assumption
              case hy12 =>
                refine Or.inl ⟨by kernel_rfl, ?_⟩
                intro w' hSw
                (try dsimp only at hSw)
                go_simp
                (try rfl)
              (try simp only [List.getElem_toArray, List.getElem_cons_succ, List.getElem_cons_zero, Act.put, List.setIfInBounds_toArray, List.set_cons_zero, List.set_cons_succ])
              have c7s : w8'.cell? ⟨b3, 7, none⟩ = some (.slice va D.s.length vc) := cell_blk hn2.box 7
              have cf7s := free_blk hn2.box 7
              have cl7s := blk_lt hn2.box
              refine wpAnyH_ready (rs := [8]) (by kernel_rfl) (by simp) ?_
              refine AllReadyH.cons rfl (fun K hK => ?_) AllReadyH.nil
              go_simp
              refine hK.out _ _ trivial (fun hHeld => ?_)
              clear hK K
              (try simp only [List.getElem_toArray, List.getElem_cons_succ, List.getElem_cons_zero, Act.put, List.setIfInBounds_toArray, List.set_cons_zero, List.set_cons_succ])
              refine wpAnyH_done (by kernel_rfl) ?_ _
              refine NoPanic.normal ?_
              have hn3 : RtB W w (w8'.setCell ⟨b3, 7, none⟩ (.slice (some ⟨g, 0, none⟩) (D.s.length + 1) cap)) p b3 { D with s := D.s ++ [(mm : Int) - 1] } (.slice (some ⟨g, 0, none⟩) (D.s.length + 1) cap) := hn2.put rfl
              have hown9 := ownsRow_setCell_other (a := ⟨b3, 7, none⟩) hown8 (owns_ne_blk hown8 hn2.box (by decide)) (.slice (some ⟨g, 0, none⟩) (D.s.length + 1) cap)
              have HN3 := Lib.hid hn3
              have HO9 := Lib.hid hown9
              clear c7s cf7s cl7s hn3 hown9 hown8 hg8 hlt8 hn2 hn1 ho1 hw1 hHeld HB HOWN
              generalize w8'.setCell ⟨b3, 7, none⟩ (.slice (some ⟨g, 0, none⟩) (D.s.length + 1) cap) = w9' at HN3 HO9 ⊢
              go_wp2_with fail
              go_roundw
              case rel => exact ⟨D.s.length + 1, { D with s := D.s ++ [(mm : Int) - 1] }, _, by omega, by go_num, HN3.out, row9 HO9.out, by simp, hDe⟩
              case measure => simp [intOf]; omega
            · go_simp
              refine hK.out _ _ trivial (fun hHeld => ?_)
              clear hK K
              (try simp only [List.getElem_toArray, List.getElem_cons_succ, List.getElem_cons_zero, Act.put, List.setIfInBounds_toArray, List.set_cons_zero, List.set_cons_succ])
              refine wpAnyH_ready (rs := [1]) (by kernel_rfl) (by simp) ?_
              refine AllReadyH.cons rfl (fun K hK => ?_) AllReadyH.nil
              have c7x : (w5'.alloc (.cells #[.int .i64 ((mm : Int) - 1)] 3)).cell? ⟨b3, 7, none⟩ = some (.slice va D.s.length vc) := cell_blk (hn1.laid (.cells #[.int .i64 ((mm : Int) - 1)] 3)).box 7
              go_simp
              refine hK.out _ _ trivial (fun hHeld => ?_)
              clear hK K
              (try simp only [List.getElem_toArray, List.getElem_cons_succ, List.getElem_cons_zero, Act.put, List.setIfInBounds_toArray, List.set_cons_zero, List.set_cons_succ])
              clear c7x
              refine wpAnyH_ready (rs := [6]) (by kernel_rfl) (by simp) ?_
              refine AllReadyH.cons rfl (fun K hK => ?_) AllReadyH.nil
              refine step_append_lies _ rfl (.tmp 46) (.tmp 50) 24 rfl w.heap.size 3 iI (.int .i64 0) 1 8 Tryz.underlying24 hi hz0 hz1 hz2 rfl (by decide) (.slice va D.s.length vc) D.s.length (intCells D.s) (by simp [Act.eval]) (ho1.alloc (.cells #[.int .i64 ((mm : Int) - 1)] 3)) ⟨w5'.heap.size, 0, none⟩ 1 1 [.int .i64 ((mm : Int) - 1)] (by simp [Act.eval]) rfl news_one (by intro y hy; simp at hy; subst hy; rfl) (by omega) (by unfold maxLen; omega) (by omega) (by have := (hn1.laid (.cells #[.int .i64 ((mm : Int) - 1)] 3)).grw.size; exact this) (w5'.heap.size + 1) (by simp) ?_
              intro g cap w8' hown8 hg8 _ hlt8
              have hn2 := RtB.app (hn1.laid (.cells #[.int .i64 ((mm : Int) - 1)] 3)) (ho1.alloc (.cells #[.int .i64 ((mm : Int) - 1)] 3)) hg8
              refine hK.out _ _ trivial (fun hHeld => ?_)
              clear hK K
              (try simp only [List.getElem_toArray, List.getElem_cons_succ, List.getElem_cons_zero, Act.put, List.setIfInBounds_toArray, List.set_cons_zero, List.set_cons_succ])
              refine wpAnyH_take (i := 7) (oi := ?o13) (v := ?v13) ?hi13 ?hs13 ?hf13 ?hr13 ?hQ13 ?hy13 ?hS13 ?rest13
              case hi13 => rfl
              case hs13 => kernel_rfl
              case hf13 => kernel_rfl
              case hr13 => kernel_rfl
              case hQ13 => exact fun _ _ _ h => h
              case hS13 => assumption
              case hy13 =>
                refine Or.inl ⟨by kernel_rfl, ?_⟩
                intro w' hSw
                (try dsimp only at hSw)
                go_simp
                (try rfl)
              (try simp only [List.getElem_toArray, List.getElem_cons_succ, List.getElem_cons_zero, Act.put, List.setIfInBounds_toArray, List.set_cons_zero, List.set_cons_succ])
              have c7s : w8'.cell? ⟨b3, 7, none⟩ = some (.slice va D.s.length vc) := cell_blk hn2.box 7
              have cf7s := free_blk hn2.box 7
              have cl7s := blk_lt hn2.box
              refine wpAnyH_ready (rs := [8]) (by kernel_rfl) (by simp) ?_
              refine AllReadyH.cons rfl (fun K hK => ?_) AllReadyH.nil
              go_simp
              refine hK.out _ _ trivial (fun hHeld => ?_)
              clear hK K
              (try simp only [List.getElem_toArray, List.getElem_cons_succ, List.getElem_cons_zero, Act.put, List.setIfInBounds_toArray, List.set_cons_zero, List.set_cons_succ])
              refine wpAnyH_done (by kernel_rfl) ?_ _
              refine NoPanic.normal ?_
              have hn3 : RtB W w (w8'.setCell ⟨b3, 7, none⟩ (.slice (some ⟨g, 0, none⟩) (D.s.length + 1) cap)) p b3 { D with s := D.s ++ [(mm : Int) - 1] } (.slice (some ⟨g, 0, none⟩) (D.s.length + 1) cap) := hn2.put rfl
              have hown9 := ownsRow_setCell_other (a := ⟨b3, 7, none⟩) hown8 (owns_ne_blk hown8 hn2.box (by decide)) (.slice (some ⟨g, 0, none⟩) (D.s.length + 1) cap)
              have HN3 := Lib.hid hn3
              have HO9 := Lib.hid hown9
              clear c7s cf7s cl7s hn3 hown9 hown8 hg8 hlt8 hn2 hn1 ho1 hw1 hHeld HB HOWN
              generalize w8'.setCell ⟨b3, 7, none⟩ (.slice (some ⟨g, 0, none⟩) (D.s.length + 1) cap) = w9' at HN3 HO9 ⊢
              go_wp2_with fail
              go_roundw
              case rel => exact ⟨D.s.length + 1, { D with s := D.s ++ [(mm : Int) - 1] }, _, by omega, by go_num, HN3.out, row9 HO9.out, by simp, hDe⟩
              case measure => simp [intOf]; omega
        · have hlt1 : ¬ (k : Int) < m9 := by omega
          have HOWN := Lib.hid hown
          clear hown
          have c0 : wr.cell? ⟨b3, 0, none⟩ = some (.int .i64 D.r) := cell_blk HB.out.box 0
          have cf0 := free_blk HB.out.box 0
          have c1 : wr.cell? ⟨b3, 1, none⟩ = some (.int .i64 D.d) := cell_blk HB.out.box 1
          have cf1 := free_blk HB.out.box 1
          have c2 : wr.cell? ⟨b3, 2, none⟩ = some (.int .i64 D.b) := cell_blk HB.out.box 2
          have cf2 := free_blk HB.out.box 2
          have c3 : wr.cell? ⟨b3, 3, none⟩ = some (.int .i64 D.l) := cell_blk HB.out.box 3
          have cf3 := free_blk HB.out.box 3
          have c4 : wr.cell? ⟨b3, 4, none⟩ = some (.int .i64 D.m) := cell_blk HB.out.box 4
          have cf4 := free_blk HB.out.box 4
          have c5 : wr.cell? ⟨b3, 5, none⟩ = some (.int .i64 D.n) := cell_blk HB.out.box 5
          have cf5 := free_blk HB.out.box 5
          have c6 : wr.cell? ⟨b3, 6, none⟩ = some (.int .i64 D.e) := cell_blk HB.out.box 6
          have cf6 := free_blk HB.out.box 6
          have c7 : wr.cell? ⟨b3, 7, none⟩ = some (.slice va D.s.length vc) := cell_blk HB.out.box 7
          have cf7 := free_blk HB.out.box 7
          have cl := blk_lt HB.out.box
          have r0 := cell_blk HB.out.res 0
          have rf0 := free_blk HB.out.res 0
          have r1 := cell_blk HB.out.res 1
          have rf1 := free_blk HB.out.res 1
          have r2 := cell_blk HB.out.res 2
          have rf2 := free_blk HB.out.res 2
          have r3 := cell_blk HB.out.res 3
          have rf3 := free_blk HB.out.res 3
          have r4 := cell_blk HB.out.res 4
          have rf4 := free_blk HB.out.res 4
          have r5 := cell_blk HB.out.res 5
          have rf5 := free_blk HB.out.res 5
          have r6 := cell_blk HB.out.res 6
          have rf6 := free_blk HB.out.res 6
          have r7 := cell_blk HB.out.res 7
          have rf7 := free_blk HB.out.res 7
          have rl := blk_lt HB.out.res
          go_wp2_with fail
          refine bodyPost_ret (v := cfgV D (.slice va D.s.length vc)) ?_ rfl ⟨⟨D, _, rfl, ?_, by omega, by omega, by omega⟩, ?_, ?_⟩
          · rw [results_one rfl]
            simp only [cfgV]
            go_simp
          · iterate 8 refine ownsRow_setCell_other ?_ (owns_ne_blk HOWN.out HB.out.res (by decide)) _
            exact HOWN.out
          · iterate 8 refine Cur.far8 ?_ hlp
            exact HB.out.cur
          · iterate 8 refine grown_set8 ?_ (Nat.le_refl _)
            exact HB.out.grw
  | false =>
    go_wp2_with fail
    refine (l1Once W _ p 4 (by omega) (by omega) HB.out.cur).mono ?_
    rintro e w8 ⟨⟨bb, rfl⟩, hc, hg⟩
    replace HB := Lib.hid (HB.out.next hc hg)
    clear hc hg
    cases bb with
    | true =>
      have c0 : w8.cell? ⟨b3, 0, none⟩ = some (.int .i64 C.r) := cell_blk HB.out.box 0
      have cf0 := free_blk HB.out.box 0
      have c1 : w8.cell? ⟨b3, 1, none⟩ = some (.int .i64 C.d) := cell_blk HB.out.box 1
      have cf1 := free_blk HB.out.box 1
      have c2 : w8.cell? ⟨b3, 2, none⟩ = some (.int .i64 C.b) := cell_blk HB.out.box 2
      have cf2 := free_blk HB.out.box 2
      have c3 : w8.cell? ⟨b3, 3, none⟩ = some (.int .i64 C.l) := cell_blk HB.out.box 3
      have cf3 := free_blk HB.out.box 3
      have c4 : w8.cell? ⟨b3, 4, none⟩ = some (.int .i64 C.m) := cell_blk HB.out.box 4
      have cf4 := free_blk HB.out.box 4
      have c5 : w8.cell? ⟨b3, 5, none⟩ = some (.int .i64 C.n) := cell_blk HB.out.box 5
      have cf5 := free_blk HB.out.box 5
      have c6 : w8.cell? ⟨b3, 6, none⟩ = some (.int .i64 (q : Int)) := by rw [← hCe]; exact cell_blk HB.out.box 6
      have cf6 := free_blk HB.out.box 6
      have c7 : w8.cell? ⟨b3, 7, none⟩ = some (.slice none 0 0) := cell_blk HB.out.box 7
      have cf7 := free_blk HB.out.box 7
      have cl := blk_lt HB.out.box
      go_wp2_with fail
      refine (l1Below W _ p q (by omega) (by omega) HB.out.cur).mono ?_
      rintro e w9 ⟨⟨m8, hm8, rfl⟩, hc, hg⟩
      replace HB := Lib.hid (HB.out.next hc hg)
      clear hc hg
      clear c0 cf0 c1 cf1 c2 cf2 c3 cf3 c4 cf4 c5 cf5 c6 cf6 c7 cf7 cl
      have c0 : w9.cell? ⟨b3, 0, none⟩ = some (.int .i64 C.r) := cell_blk HB.out.box 0
      have cf0 := free_blk HB.out.box 0
      have c1 : w9.cell? ⟨b3, 1, none⟩ = some (.int .i64 C.d) := cell_blk HB.out.box 1
      have cf1 := free_blk HB.out.box 1
      have c2 : w9.cell? ⟨b3, 2, none⟩ = some (.int .i64 C.b) := cell_blk HB.out.box 2
      have cf2 := free_blk HB.out.box 2
      have c3 : w9.cell? ⟨b3, 3, none⟩ = some (.int .i64 C.l) := cell_blk HB.out.box 3
      have cf3 := free_blk HB.out.box 3
      have c4 : w9.cell? ⟨b3, 4, none⟩ = some (.int .i64 C.m) := cell_blk HB.out.box 4
      have cf4 := free_blk HB.out.box 4
      have c5 : w9.cell? ⟨b3, 5, none⟩ = some (.int .i64 C.n) := cell_blk HB.out.box 5
      have cf5 := free_blk HB.out.box 5
      have c6 : w9.cell? ⟨b3, 6, none⟩ = some (.int .i64 C.e) := cell_blk HB.out.box 6
      have cf6 := free_blk HB.out.box 6
      have c7 : w9.cell? ⟨b3, 7, none⟩ = some (.slice none 0 0) := cell_blk HB.out.box 7
      have cf7 := free_blk HB.out.box 7
      have cl := blk_lt HB.out.box
      go_wp2_with fail
      obtain ⟨E, hE⟩ : ∃ E : Cfg, E = { C with n := 1 + (m8 : Int) } := ⟨_, rfl⟩
      have hEs : E.s = [] := by rw [hE]; exact hCs
      have hEe : E.e = (q : Int) := by rw [hE]; exact hCe
      have hB2 : RtB W w (w9.setCell ⟨b3, 5, none⟩ (.int .i64 (1 + (m8 : Int)))) p b3 E (.slice none 0 0) := HB.out.put (by rw [hE]; rfl)
      replace HB := Lib.hid hB2
      clear hB2 hE hCs hCe
      clear c0 cf0 c1 cf1 c2 cf2 c3 cf3 c4 cf4 c5 cf5 c6 cf6 c7 cf7 cl
      generalize w9.setCell ⟨b3, 5, none⟩ (.int .i64 (1 + (m8 : Int))) = wc at HB ⊢
      obtain ⟨C, hEC⟩ : ∃ C, E = C := ⟨_, rfl⟩
      rw [hEC] at HB hEs hEe
      have hCs := hEs
      have hCe := hEe
      clear hEC hEs hEe
      go_wp2_with fail
      refine (l1Below W _ p 5 (by omega) (by omega) HB.out.cur).mono ?_
      rintro e wt ⟨⟨m9, hm9, rfl⟩, hc, hg⟩
      replace HB := Lib.hid (HB.out.next hc hg)
      clear hc hg hb3
      go_wp2_with fail
      go_loopw [5] (fun i wr => ∃ (k : Nat) (D : Cfg) (v : Value), k ≤ m9 ∧ i = .int .i64 k ∧ RtB W w wr p b3 D v ∧ wr.ownsRow w.heap.size 3 1 v D.s.length (intCells D.s) ∧ D.s.length = k ∧ D.e = (q : Int)) (fun i _ => m9 - (intOf i).toNat)
      case atStart => exact ⟨0, C, .slice none 0 0, Nat.zero_le _, rfl, HB.out, by rw [hCs]; exact ⟨rfl, Or.inl ⟨rfl, rfl⟩⟩, by rw [hCs]; rfl, hCe⟩
      case round =>
        clear HB
        obtain ⟨k, D, v, hk9, rfl, hB, hown, hDk, hDe⟩ := hrel
        have HB := Lib.hid hB
        obtain ⟨va, vc, rfl⟩ := ownsI_form hown
        clear hB
        by_cases hlt : k < m9
        · have hlt1 : (k : Int) < m9 := by omega
          have HOWN := Lib.hid hown
          have HDK := Lib.hid hDk
          have hkd : k = D.s.length := hDk.symm
          have hdl : D.s.length ≤ 5 := by omega
          subst hkd
          clear hown
          have c0 : wr.cell? ⟨b3, 0, none⟩ = some (.int .i64 D.r) := cell_blk HB.out.box 0
          have cf0 := free_blk HB.out.box 0
          have c1 : wr.cell? ⟨b3, 1, none⟩ = some (.int .i64 D.d) := cell_blk HB.out.box 1
          have cf1 := free_blk HB.out.box 1
          have c2 : wr.cell? ⟨b3, 2, none⟩ = some (.int .i64 D.b) := cell_blk HB.out.box 2
          have cf2 := free_blk HB.out.box 2
          have c3 : wr.cell? ⟨b3, 3, none⟩ = some (.int .i64 D.l) := cell_blk HB.out.box 3
          have cf3 := free_blk HB.out.box 3
          have c4 : wr.cell? ⟨b3, 4, none⟩ = some (.int .i64 D.m) := cell_blk HB.out.box 4
          have cf4 := free_blk HB.out.box 4
          have c5 : wr.cell? ⟨b3, 5, none⟩ = some (.int .i64 D.n) := cell_blk HB.out.box 5
          have cf5 := free_blk HB.out.box 5
          have c6 : wr.cell? ⟨b3, 6, none⟩ = some (.int .i64 D.e) := cell_blk HB.out.box 6
          have cf6 := free_blk HB.out.box 6
          have c7 : wr.cell? ⟨b3, 7, none⟩ = some (.slice va D.s.length vc) := cell_blk HB.out.box 7
          have cf7 := free_blk HB.out.box 7
          have cl := blk_lt HB.out.box
          go_wp2_with fail
          clear c0 cf0 c1 cf1 c2 cf2 c3 cf3 c4 cf4 c5 cf5 c6 cf6 c7 cf7 cl
          refine wp_region_noPanic ?_
          refine wp_region_held_drew (S := (fun _ => True)) (by kernel_rfl) trivial (fun hHeld => ?_)
          refine wpAnyH_take (i := 0) (oi := ?o15) (v := ?v15) ?hi15 ?hs15 ?hf15 ?hr15 ?hQ15 ?hy15 ?hS15 ?rest15
          case hi15 => rfl
          case hs15 => kernel_rfl
          case hf15 => kernel_rfl
          case hr15 => kernel_rfl
          case hQ15 => exact fun _ _ _ h => h
          case hS15 => assumption
          case hy15 =>
            refine Or.inl ⟨by kernel_rfl, ?_⟩
            intro w' hSw
            (try dsimp only at hSw)
            go_simp
            (try rfl)
          (try simp only [List.getElem_toArray, List.getElem_cons_zero, Act.put, List.setIfInBounds_toArray, List.set_cons_zero, List.set_cons_succ])
          refine wpAnyH_take (i := 2) (oi := ?o16) (v := ?v16) ?hi16 ?hs16 ?hf16 ?hr16 ?hQ16 ?hy16 ?hS16 ?rest16
          case hi16 => rfl
          case hs16 => kernel_rfl
          case hf16 => kernel_rfl
          case hr16 => kernel_rfl
          case hQ16 => exact fun _ _ _ h => h
          case hS16 => assumption
          case hy16 =>
            refine Or.inl ⟨by kernel_rfl, ?_⟩
            intro w' hSw
            (try dsimp only at hSw)
            go_simp
            (try rfl)
          (try simp only [List.getElem_toArray, List.getElem_cons_succ, List.getElem_cons_zero, Act.put, List.setIfInBounds_toArray, List.set_cons_zero, List.set_cons_succ])
          refine wpAnyH_ready (rs := [1, 3]) (by kernel_rfl) (by simp) ?_
          refine AllReadyH.cons rfl (fun K hK => ?_) (AllReadyH.cons rfl (fun K hK => ?_) AllReadyH.nil)
          · have c7x : (wr.drew).cell? ⟨b3, 7, none⟩ = some (.slice va D.s.length vc) := cell_blk (HB.out.drew).box 7
            go_simp
            refine hK.out _ _ trivial (fun hHeld => ?_)
            clear hK K
            (try simp only [List.getElem_toArray, List.getElem_cons_succ, List.getElem_cons_zero, Act.put, List.setIfInBounds_toArray, List.set_cons_zero, List.set_cons_succ])
            clear c7x
            refine wpAnyH_ready (rs := [3]) (by kernel_rfl) (by simp) ?_
            refine AllReadyH.cons rfl (fun K hK => ?_) AllReadyH.nil
            go_simp
            refine (l1Below W _ p 3 (by omega) (by omega) HB.out.drew.cur).mono ?_
            rintro e w5' ⟨⟨mm, hmm, rfl⟩, hc, hg⟩
            have hn1 := HB.out.drew.next hc hg
            have ho1 := own_next8 (wr := wr.drew) HOWN.out hlp hg
            have hw1 : IntKind.i64.wrap ((mm : Int) - 1) = (mm : Int) - 1 := IntWalk.i64_in _ (by omega)
            clear hc hg
            refine hK.out _ _ trivial (fun hHeld => ?_)
            clear hK K
            (try simp only [List.getElem_toArray, List.getElem_cons_succ, List.getElem_cons_zero, Act.put, List.setIfInBounds_toArray, List.set_cons_zero, List.set_cons_succ])
            refine wpAnyH_take (i := 4) (oi := ?o17) (v := ?v17) ?hi17 ?hs17 ?hf17 ?hr17 ?hQ17 ?hy17 ?hS17 ?rest17
            case hi17 => rfl
            case hs17 => kernel_rfl
            case hf17 => kernel_rfl
            case hr17 => kernel_rfl
            case hQ17 => exact fun _ _ _ h => h
            case hS17 => assumption
            case hy17 =>
              refine Or.inl ⟨by kernel_rfl, ?_⟩
              intro w' hSw
              (try dsimp only at hSw)
              go_simp
              (try rfl)
            (try simp only [List.getElem_toArray, List.getElem_cons_succ, List.getElem_cons_zero, Act.put, List.setIfInBounds_toArray, List.set_cons_zero, List.set_cons_succ])
            refine wpAnyH_ready (rs := [5]) (by kernel_rfl) (by simp) ?_
            refine AllReadyH.cons rfl (fun K hK => ?_) AllReadyH.nil
            go_simp
            refine hK.out _ _ trivial (fun hHeld => ?_)
            clear hK K
            (try simp only [List.getElem_toArray, List.getElem_cons_succ, List.getElem_cons_zero, Act.put, List.setIfInBounds_toArray, List.set_cons_zero, List.set_cons_succ])
            refine wpAnyH_ready (rs := [6]) (by kernel_rfl) (by simp) ?_
            refine AllReadyH.cons rfl (fun K hK => ?_) AllReadyH.nil
            refine step_append_lies _ rfl (.tmp 46) (.tmp 50) 24 rfl w.heap.size 3 iI (.int .i64 0) 1 8 Tryz.underlying24 hi hz0 hz1 hz2 rfl (by decide) (.slice va D.s.length vc) D.s.length (intCells D.s) (by simp [Act.eval]) (ho1.alloc (.cells #[.int .i64 ((mm : Int) - 1)] 3)) ⟨w5'.heap.size, 0, none⟩ 1 1 [.int .i64 ((mm : Int) - 1)] (by simp [Act.eval]) rfl news_one (by intro y hy; simp at hy; subst hy; rfl) (by omega) (by unfold maxLen; omega) (by omega) (by have := (hn1.laid (.cells #[.int .i64 ((mm : Int) - 1)] 3)).grw.size; exact this) (w5'.heap.size + 1) (by simp) ?_
            intro g cap w8' hown8 hg8 _ hlt8
            have hn2 := RtB.app (hn1.laid (.cells #[.int .i64 ((mm : Int) - 1)] 3)) (ho1.alloc (.cells #[.int .i64 ((mm : Int) - 1)] 3)) hg8
            refine hK.out _ _ trivial (fun hHeld => ?_)
            clear hK K
            (try simp only [List.getElem_toArray, List.getElem_cons_succ, List.getElem_cons_zero, Act.put, List.setIfInBounds_toArray, List.set_cons_zero, List.set_cons_succ])
            refine wpAnyH_take (i := 7) (oi := ?o18) (v := ?v18) ?hi18 ?hs18 ?hf18 ?hr18 ?hQ18 ?hy18 ?hS18 ?rest18
            case hi18 => rfl
            case hs18 => kernel_rfl
            case hf18 => kernel_rfl
            case hr18 => kernel_rfl
            case hQ18 => exact fun _ _ _ h => h
            case hS18 => assumption
            case hy18 =>
              refine Or.inl ⟨by kernel_rfl, ?_⟩
              intro w' hSw
              (try dsimp only at hSw)
              go_simp
              (try rfl)
            (try simp only [List.getElem_toArray, List.getElem_cons_succ, List.getElem_cons_zero, Act.put, List.setIfInBounds_toArray, List.set_cons_zero, List.set_cons_succ])
            have c7s : w8'.cell? ⟨b3, 7, none⟩ = some (.slice va D.s.length vc) := cell_blk hn2.box 7
            have cf7s := free_blk hn2.box 7
            have cl7s := blk_lt hn2.box
            refine wpAnyH_ready (rs := [8]) (by kernel_rfl) (by simp) ?_
            refine AllReadyH.cons rfl (fun K hK => ?_) AllReadyH.nil
            go_simp
            refine hK.out _ _ trivial (fun hHeld => ?_)
            clear hK K
            (try simp only [List.getElem_toArray, List.getElem_cons_succ, List.getElem_cons_zero, Act.put, List.setIfInBounds_toArray, List.set_cons_zero, List.set_cons_succ])
            refine wpAnyH_done (by kernel_rfl) ?_ _
            refine NoPanic.normal ?_
            have hn3 : RtB W w (w8'.setCell ⟨b3, 7, none⟩ (.slice (some ⟨g, 0, none⟩) (D.s.length + 1) cap)) p b3 { D with s := D.s ++ [(mm : Int) - 1] } (.slice (some ⟨g, 0, none⟩) (D.s.length + 1) cap) := hn2.put rfl
            have hown9 := ownsRow_setCell_other (a := ⟨b3, 7, none⟩) hown8 (owns_ne_blk hown8 hn2.box (by decide)) (.slice (some ⟨g, 0, none⟩) (D.s.length + 1) cap)
            have HN3 := Lib.hid hn3
            have HO9 := Lib.hid hown9
            clear c7s cf7s cl7s hn3 hown9 hown8 hg8 hlt8 hn2 hn1 ho1 hw1 hHeld HB HOWN
            generalize w8'.setCell ⟨b3, 7, none⟩ (.slice (some ⟨g, 0, none⟩) (D.s.length + 1) cap) = w9' at HN3 HO9 ⊢
            go_wp2_with fail
            go_roundw
            case rel => exact ⟨D.s.length + 1, { D with s := D.s ++ [(mm : Int) - 1] }, _, by omega, by go_num, HN3.out, row9 HO9.out, by simp, hDe⟩
            case measure => simp [intOf]; omega
          · go_simp
            refine (l1Below W _ p 3 (by omega) (by omega) HB.out.drew.cur).mono ?_
            rintro e w5' ⟨⟨mm, hmm, rfl⟩, hc, hg⟩
            have hn1 := HB.out.drew.next hc hg
            have ho1 := own_next8 (wr := wr.drew) HOWN.out hlp hg
            have hw1 : IntKind.i64.wrap ((mm : Int) - 1) = (mm : Int) - 1 := IntWalk.i64_in _ (by omega)
            clear hc hg
            refine hK.out _ _ trivial (fun hHeld => ?_)
            clear hK K
            (try simp only [List.getElem_toArray, List.getElem_cons_succ, List.getElem_cons_zero, Act.put, List.setIfInBounds_toArray, List.set_cons_zero, List.set_cons_succ])
            refine wpAnyH_take (i := 4) (oi := ?o21) (v := ?v21) ?hi21 ?hs21 ?hf21 ?hr21 ?hQ21 ?hy21 ?hS21 ?rest21
            case hi21 => rfl
            case hs21 => kernel_rfl
            case hf21 => kernel_rfl
            case hr21 => kernel_rfl
            case hQ21 => exact fun _ _ _ h => h
            case hS21 => assumption
            case hy21 =>
              refine Or.inl ⟨by kernel_rfl, ?_⟩
              intro w' hSw
              (try dsimp only at hSw)
              go_simp
              (try rfl)
            (try simp only [List.getElem_toArray, List.getElem_cons_succ, List.getElem_cons_zero, Act.put, List.setIfInBounds_toArray, List.set_cons_zero, List.set_cons_succ])
            refine wpAnyH_ready (rs := [1, 5]) (by kernel_rfl) (by simp) ?_
            refine AllReadyH.cons rfl (fun K hK => ?_) (AllReadyH.cons rfl (fun K hK => ?_) AllReadyH.nil)
            · have c7x : (w5').cell? ⟨b3, 7, none⟩ = some (.slice va D.s.length vc) := cell_blk (hn1).box 7
              go_simp
              refine hK.out _ _ trivial (fun hHeld => ?_)
              clear hK K
              (try simp only [List.getElem_toArray, List.getElem_cons_succ, List.getElem_cons_zero, Act.put, List.setIfInBounds_toArray, List.set_cons_zero, List.set_cons_succ])
              clear c7x
              refine wpAnyH_ready (rs := [5]) (by kernel_rfl) (by simp) ?_
              refine AllReadyH.cons rfl (fun K hK => ?_) AllReadyH.nil
              go_simp
              refine hK.out _ _ trivial (fun hHeld => ?_)
              clear hK K
              (try simp only [List.getElem_toArray, List.getElem_cons_succ, List.getElem_cons_zero, Act.put, List.setIfInBounds_toArray, List.set_cons_zero, List.set_cons_succ])
              refine wpAnyH_ready (rs := [6]) (by kernel_rfl) (by simp) ?_
              refine AllReadyH.cons rfl (fun K hK => ?_) AllReadyH.nil
              refine step_append_lies _ rfl (.tmp 46) (.tmp 50) 24 rfl w.heap.size 3 iI (.int .i64 0) 1 8 Tryz.underlying24 hi hz0 hz1 hz2 rfl (by decide) (.slice va D.s.length vc) D.s.length (intCells D.s) (by simp [Act.eval]) (ho1.alloc (.cells #[.int .i64 ((mm : Int) - 1)] 3)) ⟨w5'.heap.size, 0, none⟩ 1 1 [.int .i64 ((mm : Int) - 1)] (by simp [Act.eval]) rfl news_one (by intro y hy; simp at hy; subst hy; rfl) (by omega) (by unfold maxLen; omega) (by omega) (by have := (hn1.laid (.cells #[.int .i64 ((mm : Int) - 1)] 3)).grw.size; exact this) (w5'.heap.size + 1) (by simp) ?_
              intro g cap w8' hown8 hg8 _ hlt8
              have hn2 := RtB.app (hn1.laid (.cells #[.int .i64 ((mm : Int) - 1)] 3)) (ho1.alloc (.cells #[.int .i64 ((mm : Int) - 1)] 3)) hg8
              refine hK.out _ _ trivial (fun hHeld => ?_)
              clear hK K
              (try simp only [List.getElem_toArray, List.getElem_cons_succ, List.getElem_cons_zero, Act.put, List.setIfInBounds_toArray, List.set_cons_zero, List.set_cons_succ])
              refine wpAnyH_take (i := 7) (oi := ?o19) (v := ?v19) ?hi19 ?hs19 ?hf19 ?hr19 ?hQ19 ?hy19 ?hS19 ?rest19
              case hi19 => rfl
              case hs19 => kernel_rfl
              case hf19 => kernel_rfl
              case hr19 => kernel_rfl
              case hQ19 => exact fun _ _ _ h => h
              case hS19 => assumption
              case hy19 =>
                refine Or.inl ⟨by kernel_rfl, ?_⟩
                intro w' hSw
                (try dsimp only at hSw)
                go_simp
                (try rfl)
              (try simp only [List.getElem_toArray, List.getElem_cons_succ, List.getElem_cons_zero, Act.put, List.setIfInBounds_toArray, List.set_cons_zero, List.set_cons_succ])
              have c7s : w8'.cell? ⟨b3, 7, none⟩ = some (.slice va D.s.length vc) := cell_blk hn2.box 7
              have cf7s := free_blk hn2.box 7
              have cl7s := blk_lt hn2.box
              refine wpAnyH_ready (rs := [8]) (by kernel_rfl) (by simp) ?_
              refine AllReadyH.cons rfl (fun K hK => ?_) AllReadyH.nil
              go_simp
              refine hK.out _ _ trivial (fun hHeld => ?_)
              clear hK K
              (try simp only [List.getElem_toArray, List.getElem_cons_succ, List.getElem_cons_zero, Act.put, List.setIfInBounds_toArray, List.set_cons_zero, List.set_cons_succ])
              refine wpAnyH_done (by kernel_rfl) ?_ _
              refine NoPanic.normal ?_
              have hn3 : RtB W w (w8'.setCell ⟨b3, 7, none⟩ (.slice (some ⟨g, 0, none⟩) (D.s.length + 1) cap)) p b3 { D with s := D.s ++ [(mm : Int) - 1] } (.slice (some ⟨g, 0, none⟩) (D.s.length + 1) cap) := hn2.put rfl
              have hown9 := ownsRow_setCell_other (a := ⟨b3, 7, none⟩) hown8 (owns_ne_blk hown8 hn2.box (by decide)) (.slice (some ⟨g, 0, none⟩) (D.s.length + 1) cap)
              have HN3 := Lib.hid hn3
              have HO9 := Lib.hid hown9
              clear c7s cf7s cl7s hn3 hown9 hown8 hg8 hlt8 hn2 hn1 ho1 hw1 hHeld HB HOWN
              generalize w8'.setCell ⟨b3, 7, none⟩ (.slice (some ⟨g, 0, none⟩) (D.s.length + 1) cap) = w9' at HN3 HO9 ⊢
              go_wp2_with fail
              go_roundw
              case rel => exact ⟨D.s.length + 1, { D with s := D.s ++ [(mm : Int) - 1] }, _, by omega, by go_num, HN3.out, row9 HO9.out, by simp, hDe⟩
              case measure => simp [intOf]; omega
            · go_simp
              refine hK.out _ _ trivial (fun hHeld => ?_)
              clear hK K
              (try simp only [List.getElem_toArray, List.getElem_cons_succ, List.getElem_cons_zero, Act.put, List.setIfInBounds_toArray, List.set_cons_zero, List.set_cons_succ])
              refine wpAnyH_ready (rs := [1]) (by kernel_rfl) (by simp) ?_
              refine AllReadyH.cons rfl (fun K hK => ?_) AllReadyH.nil
              have c7x : (w5'.alloc (.cells #[.int .i64 ((mm : Int) - 1)] 3)).cell? ⟨b3, 7, none⟩ = some (.slice va D.s.length vc) := cell_blk (hn1.laid (.cells #[.int .i64 ((mm : Int) - 1)] 3)).box 7
              go_simp
              refine hK.out _ _ trivial (fun hHeld => ?_)
              clear hK K
              (try simp only [List.getElem_toArray, List.getElem_cons_succ, List.getElem_cons_zero, Act.put, List.setIfInBounds_toArray, List.set_cons_zero, List.set_cons_succ])
              clear c7x
              refine wpAnyH_ready (rs := [6]) (by kernel_rfl) (by simp) ?_
              refine AllReadyH.cons rfl (fun K hK => ?_) AllReadyH.nil
              refine step_append_lies _ rfl (.tmp 46) (.tmp 50) 24 rfl w.heap.size 3 iI (.int .i64 0) 1 8 Tryz.underlying24 hi hz0 hz1 hz2 rfl (by decide) (.slice va D.s.length vc) D.s.length (intCells D.s) (by simp [Act.eval]) (ho1.alloc (.cells #[.int .i64 ((mm : Int) - 1)] 3)) ⟨w5'.heap.size, 0, none⟩ 1 1 [.int .i64 ((mm : Int) - 1)] (by simp [Act.eval]) rfl news_one (by intro y hy; simp at hy; subst hy; rfl) (by omega) (by unfold maxLen; omega) (by omega) (by have := (hn1.laid (.cells #[.int .i64 ((mm : Int) - 1)] 3)).grw.size; exact this) (w5'.heap.size + 1) (by simp) ?_
              intro g cap w8' hown8 hg8 _ hlt8
              have hn2 := RtB.app (hn1.laid (.cells #[.int .i64 ((mm : Int) - 1)] 3)) (ho1.alloc (.cells #[.int .i64 ((mm : Int) - 1)] 3)) hg8
              refine hK.out _ _ trivial (fun hHeld => ?_)
              clear hK K
              (try simp only [List.getElem_toArray, List.getElem_cons_succ, List.getElem_cons_zero, Act.put, List.setIfInBounds_toArray, List.set_cons_zero, List.set_cons_succ])
              refine wpAnyH_take (i := 7) (oi := ?o20) (v := ?v20) ?hi20 ?hs20 ?hf20 ?hr20 ?hQ20 ?hy20 ?hS20 ?rest20
              case hi20 => rfl
              case hs20 => kernel_rfl
              case hf20 => kernel_rfl
              case hr20 => kernel_rfl
              case hQ20 => exact fun _ _ _ h => h
              case hS20 => assumption
              case hy20 =>
                refine Or.inl ⟨by kernel_rfl, ?_⟩
                intro w' hSw
                (try dsimp only at hSw)
                go_simp
                (try rfl)
              (try simp only [List.getElem_toArray, List.getElem_cons_succ, List.getElem_cons_zero, Act.put, List.setIfInBounds_toArray, List.set_cons_zero, List.set_cons_succ])
              have c7s : w8'.cell? ⟨b3, 7, none⟩ = some (.slice va D.s.length vc) := cell_blk hn2.box 7
              have cf7s := free_blk hn2.box 7
              have cl7s := blk_lt hn2.box
              refine wpAnyH_ready (rs := [8]) (by kernel_rfl) (by simp) ?_
              refine AllReadyH.cons rfl (fun K hK => ?_) AllReadyH.nil
              go_simp
              refine hK.out _ _ trivial (fun hHeld => ?_)
              clear hK K
              (try simp only [List.getElem_toArray, List.getElem_cons_succ, List.getElem_cons_zero, Act.put, List.setIfInBounds_toArray, List.set_cons_zero, List.set_cons_succ])
              refine wpAnyH_done (by kernel_rfl) ?_ _
              refine NoPanic.normal ?_
              have hn3 : RtB W w (w8'.setCell ⟨b3, 7, none⟩ (.slice (some ⟨g, 0, none⟩) (D.s.length + 1) cap)) p b3 { D with s := D.s ++ [(mm : Int) - 1] } (.slice (some ⟨g, 0, none⟩) (D.s.length + 1) cap) := hn2.put rfl
              have hown9 := ownsRow_setCell_other (a := ⟨b3, 7, none⟩) hown8 (owns_ne_blk hown8 hn2.box (by decide)) (.slice (some ⟨g, 0, none⟩) (D.s.length + 1) cap)
              have HN3 := Lib.hid hn3
              have HO9 := Lib.hid hown9
              clear c7s cf7s cl7s hn3 hown9 hown8 hg8 hlt8 hn2 hn1 ho1 hw1 hHeld HB HOWN
              generalize w8'.setCell ⟨b3, 7, none⟩ (.slice (some ⟨g, 0, none⟩) (D.s.length + 1) cap) = w9' at HN3 HO9 ⊢
              go_wp2_with fail
              go_roundw
              case rel => exact ⟨D.s.length + 1, { D with s := D.s ++ [(mm : Int) - 1] }, _, by omega, by go_num, HN3.out, row9 HO9.out, by simp, hDe⟩
              case measure => simp [intOf]; omega
        · have hlt1 : ¬ (k : Int) < m9 := by omega
          have HOWN := Lib.hid hown
          clear hown
          have c0 : wr.cell? ⟨b3, 0, none⟩ = some (.int .i64 D.r) := cell_blk HB.out.box 0
          have cf0 := free_blk HB.out.box 0
          have c1 : wr.cell? ⟨b3, 1, none⟩ = some (.int .i64 D.d) := cell_blk HB.out.box 1
          have cf1 := free_blk HB.out.box 1
          have c2 : wr.cell? ⟨b3, 2, none⟩ = some (.int .i64 D.b) := cell_blk HB.out.box 2
          have cf2 := free_blk HB.out.box 2
          have c3 : wr.cell? ⟨b3, 3, none⟩ = some (.int .i64 D.l) := cell_blk HB.out.box 3
          have cf3 := free_blk HB.out.box 3
          have c4 : wr.cell? ⟨b3, 4, none⟩ = some (.int .i64 D.m) := cell_blk HB.out.box 4
          have cf4 := free_blk HB.out.box 4
          have c5 : wr.cell? ⟨b3, 5, none⟩ = some (.int .i64 D.n) := cell_blk HB.out.box 5
          have cf5 := free_blk HB.out.box 5
          have c6 : wr.cell? ⟨b3, 6, none⟩ = some (.int .i64 D.e) := cell_blk HB.out.box 6
          have cf6 := free_blk HB.out.box 6
          have c7 : wr.cell? ⟨b3, 7, none⟩ = some (.slice va D.s.length vc) := cell_blk HB.out.box 7
          have cf7 := free_blk HB.out.box 7
          have cl := blk_lt HB.out.box
          have r0 := cell_blk HB.out.res 0
          have rf0 := free_blk HB.out.res 0
          have r1 := cell_blk HB.out.res 1
          have rf1 := free_blk HB.out.res 1
          have r2 := cell_blk HB.out.res 2
          have rf2 := free_blk HB.out.res 2
          have r3 := cell_blk HB.out.res 3
          have rf3 := free_blk HB.out.res 3
          have r4 := cell_blk HB.out.res 4
          have rf4 := free_blk HB.out.res 4
          have r5 := cell_blk HB.out.res 5
          have rf5 := free_blk HB.out.res 5
          have r6 := cell_blk HB.out.res 6
          have rf6 := free_blk HB.out.res 6
          have r7 := cell_blk HB.out.res 7
          have rf7 := free_blk HB.out.res 7
          have rl := blk_lt HB.out.res
          go_wp2_with fail
          refine bodyPost_ret (v := cfgV D (.slice va D.s.length vc)) ?_ rfl ⟨⟨D, _, rfl, ?_, by omega, by omega, by omega⟩, ?_, ?_⟩
          · rw [results_one rfl]
            simp only [cfgV]
            go_simp
          · iterate 8 refine ownsRow_setCell_other ?_ (owns_ne_blk HOWN.out HB.out.res (by decide)) _
            exact HOWN.out
          · iterate 8 refine Cur.far8 ?_ hlp
            exact HB.out.cur
          · iterate 8 refine grown_set8 ?_ (Nat.le_refl _)
            exact HB.out.grw
    | false =>
      go_wp2_with fail
      refine (l1Below W _ p 5 (by omega) (by omega) HB.out.cur).mono ?_
      rintro e wt ⟨⟨m9, hm9, rfl⟩, hc, hg⟩
      replace HB := Lib.hid (HB.out.next hc hg)
      clear hc hg hb3
      go_wp2_with fail
      go_loopw [5] (fun i wr => ∃ (k : Nat) (D : Cfg) (v : Value), k ≤ m9 ∧ i = .int .i64 k ∧ RtB W w wr p b3 D v ∧ wr.ownsRow w.heap.size 3 1 v D.s.length (intCells D.s) ∧ D.s.length = k ∧ D.e = (q : Int)) (fun i _ => m9 - (intOf i).toNat)
      case atStart => exact ⟨0, C, .slice none 0 0, Nat.zero_le _, rfl, HB.out, by rw [hCs]; exact ⟨rfl, Or.inl ⟨rfl, rfl⟩⟩, by rw [hCs]; rfl, hCe⟩
      case round =>
        clear HB
        obtain ⟨k, D, v, hk9, rfl, hB, hown, hDk, hDe⟩ := hrel
        have HB := Lib.hid hB
        obtain ⟨va, vc, rfl⟩ := ownsI_form hown
        clear hB
        by_cases hlt : k < m9
        · have hlt1 : (k : Int) < m9 := by omega
          have HOWN := Lib.hid hown
          have HDK := Lib.hid hDk
          have hkd : k = D.s.length := hDk.symm
          have hdl : D.s.length ≤ 5 := by omega
          subst hkd
          clear hown
          have c0 : wr.cell? ⟨b3, 0, none⟩ = some (.int .i64 D.r) := cell_blk HB.out.box 0
          have cf0 := free_blk HB.out.box 0
          have c1 : wr.cell? ⟨b3, 1, none⟩ = some (.int .i64 D.d) := cell_blk HB.out.box 1
          have cf1 := free_blk HB.out.box 1
          have c2 : wr.cell? ⟨b3, 2, none⟩ = some (.int .i64 D.b) := cell_blk HB.out.box 2
          have cf2 := free_blk HB.out.box 2
          have c3 : wr.cell? ⟨b3, 3, none⟩ = some (.int .i64 D.l) := cell_blk HB.out.box 3
          have cf3 := free_blk HB.out.box 3
          have c4 : wr.cell? ⟨b3, 4, none⟩ = some (.int .i64 D.m) := cell_blk HB.out.box 4
          have cf4 := free_blk HB.out.box 4
          have c5 : wr.cell? ⟨b3, 5, none⟩ = some (.int .i64 D.n) := cell_blk HB.out.box 5
          have cf5 := free_blk HB.out.box 5
          have c6 : wr.cell? ⟨b3, 6, none⟩ = some (.int .i64 D.e) := cell_blk HB.out.box 6
          have cf6 := free_blk HB.out.box 6
          have c7 : wr.cell? ⟨b3, 7, none⟩ = some (.slice va D.s.length vc) := cell_blk HB.out.box 7
          have cf7 := free_blk HB.out.box 7
          have cl := blk_lt HB.out.box
          go_wp2_with fail
          clear c0 cf0 c1 cf1 c2 cf2 c3 cf3 c4 cf4 c5 cf5 c6 cf6 c7 cf7 cl
          refine wp_region_noPanic ?_
          refine wp_region_held_drew (S := (fun _ => True)) (by kernel_rfl) trivial (fun hHeld => ?_)
          refine wpAnyH_take (i := 0) (oi := ?o22) (v := ?v22) ?hi22 ?hs22 ?hf22 ?hr22 ?hQ22 ?hy22 ?hS22 ?rest22
          case hi22 => rfl
          case hs22 => kernel_rfl
          case hf22 => kernel_rfl
          case hr22 => kernel_rfl
          case hQ22 => exact fun _ _ _ h => h
          case hS22 => assumption
          case hy22 =>
            refine Or.inl ⟨by kernel_rfl, ?_⟩
            intro w' hSw
            (try dsimp only at hSw)
            go_simp
            (try rfl)
          (try simp only [List.getElem_toArray, List.getElem_cons_zero, Act.put, List.setIfInBounds_toArray, List.set_cons_zero, List.set_cons_succ])
          refine wpAnyH_take (i := 2) (oi := ?o23) (v := ?v23) ?hi23 ?hs23 ?hf23 ?hr23 ?hQ23 ?hy23 ?hS23 ?rest23
          case hi23 => rfl
          case hs23 => kernel_rfl
          case hf23 => kernel_rfl
          case hr23 => kernel_rfl
          case hQ23 => exact fun _ _ _ h => h
          case hS23 => assumption
          case hy23 =>
            refine Or.inl ⟨by kernel_rfl, ?_⟩
            intro w' hSw
            (try dsimp only at hSw)
            go_simp
            (try rfl)
          (try simp only [List.getElem_toArray, List.getElem_cons_succ, List.getElem_cons_zero, Act.put, List.setIfInBounds_toArray, List.set_cons_zero, List.set_cons_succ])
          refine wpAnyH_ready (rs := [1, 3]) (by kernel_rfl) (by simp) ?_
          refine AllReadyH.cons rfl (fun K hK => ?_) (AllReadyH.cons rfl (fun K hK => ?_) AllReadyH.nil)
          · have c7x : (wr.drew).cell? ⟨b3, 7, none⟩ = some (.slice va D.s.length vc) := cell_blk (HB.out.drew).box 7
            go_simp
            refine hK.out _ _ trivial (fun hHeld => ?_)
            clear hK K
            (try simp only [List.getElem_toArray, List.getElem_cons_succ, List.getElem_cons_zero, Act.put, List.setIfInBounds_toArray, List.set_cons_zero, List.set_cons_succ])
            clear c7x
            refine wpAnyH_ready (rs := [3]) (by kernel_rfl) (by simp) ?_
            refine AllReadyH.cons rfl (fun K hK => ?_) AllReadyH.nil
            go_simp
            refine (l1Below W _ p 3 (by omega) (by omega) HB.out.drew.cur).mono ?_
            rintro e w5' ⟨⟨mm, hmm, rfl⟩, hc, hg⟩
            have hn1 := HB.out.drew.next hc hg
            have ho1 := own_next8 (wr := wr.drew) HOWN.out hlp hg
            have hw1 : IntKind.i64.wrap ((mm : Int) - 1) = (mm : Int) - 1 := IntWalk.i64_in _ (by omega)
            clear hc hg
            refine hK.out _ _ trivial (fun hHeld => ?_)
            clear hK K
            (try simp only [List.getElem_toArray, List.getElem_cons_succ, List.getElem_cons_zero, Act.put, List.setIfInBounds_toArray, List.set_cons_zero, List.set_cons_succ])
            refine wpAnyH_take (i := 4) (oi := ?o24) (v := ?v24) ?hi24 ?hs24 ?hf24 ?hr24 ?hQ24 ?hy24 ?hS24 ?rest24
            case hi24 => rfl
            case hs24 => kernel_rfl
            case hf24 => kernel_rfl
            case hr24 => kernel_rfl
            case hQ24 => exact fun _ _ _ h => h
            case hS24 => assumption
            case hy24 =>
              refine Or.inl ⟨by kernel_rfl, ?_⟩
              intro w' hSw
              (try dsimp only at hSw)
              go_simp
              (try rfl)
            (try simp only [List.getElem_toArray, List.getElem_cons_succ, List.getElem_cons_zero, Act.put, List.setIfInBounds_toArray, List.set_cons_zero, List.set_cons_succ])
            refine wpAnyH_ready (rs := [5]) (by kernel_rfl) (by simp) ?_
            refine AllReadyH.cons rfl (fun K hK => ?_) AllReadyH.nil
            go_simp
            refine hK.out _ _ trivial (fun hHeld => ?_)
            clear hK K
            (try simp only [List.getElem_toArray, List.getElem_cons_succ, List.getElem_cons_zero, Act.put, List.setIfInBounds_toArray, List.set_cons_zero, List.set_cons_succ])
            refine wpAnyH_ready (rs := [6]) (by kernel_rfl) (by simp) ?_
            refine AllReadyH.cons rfl (fun K hK => ?_) AllReadyH.nil
            refine step_append_lies _ rfl (.tmp 46) (.tmp 50) 24 rfl w.heap.size 3 iI (.int .i64 0) 1 8 Tryz.underlying24 hi hz0 hz1 hz2 rfl (by decide) (.slice va D.s.length vc) D.s.length (intCells D.s) (by simp [Act.eval]) (ho1.alloc (.cells #[.int .i64 ((mm : Int) - 1)] 3)) ⟨w5'.heap.size, 0, none⟩ 1 1 [.int .i64 ((mm : Int) - 1)] (by simp [Act.eval]) rfl news_one (by intro y hy; simp at hy; subst hy; rfl) (by omega) (by unfold maxLen; omega) (by omega) (by have := (hn1.laid (.cells #[.int .i64 ((mm : Int) - 1)] 3)).grw.size; exact this) (w5'.heap.size + 1) (by simp) ?_
            intro g cap w8' hown8 hg8 _ hlt8
            have hn2 := RtB.app (hn1.laid (.cells #[.int .i64 ((mm : Int) - 1)] 3)) (ho1.alloc (.cells #[.int .i64 ((mm : Int) - 1)] 3)) hg8
            refine hK.out _ _ trivial (fun hHeld => ?_)
            clear hK K
            (try simp only [List.getElem_toArray, List.getElem_cons_succ, List.getElem_cons_zero, Act.put, List.setIfInBounds_toArray, List.set_cons_zero, List.set_cons_succ])
            refine wpAnyH_take (i := 7) (oi := ?o25) (v := ?v25) ?hi25 ?hs25 ?hf25 ?hr25 ?hQ25 ?hy25 ?hS25 ?rest25
            case hi25 => rfl
            case hs25 => kernel_rfl
            case hf25 => kernel_rfl
            case hr25 => kernel_rfl
            case hQ25 => exact fun _ _ _ h => h
            case hS25 => assumption
            case hy25 =>
              refine Or.inl ⟨by kernel_rfl, ?_⟩
              intro w' hSw
              (try dsimp only at hSw)
              go_simp
              (try rfl)
            (try simp only [List.getElem_toArray, List.getElem_cons_succ, List.getElem_cons_zero, Act.put, List.setIfInBounds_toArray, List.set_cons_zero, List.set_cons_succ])
            have c7s : w8'.cell? ⟨b3, 7, none⟩ = some (.slice va D.s.length vc) := cell_blk hn2.box 7
            have cf7s := free_blk hn2.box 7
            have cl7s := blk_lt hn2.box
            refine wpAnyH_ready (rs := [8]) (by kernel_rfl) (by simp) ?_
            refine AllReadyH.cons rfl (fun K hK => ?_) AllReadyH.nil
            go_simp
            refine hK.out _ _ trivial (fun hHeld => ?_)
            clear hK K
            (try simp only [List.getElem_toArray, List.getElem_cons_succ, List.getElem_cons_zero, Act.put, List.setIfInBounds_toArray, List.set_cons_zero, List.set_cons_succ])
            refine wpAnyH_done (by kernel_rfl) ?_ _
            refine NoPanic.normal ?_
            have hn3 : RtB W w (w8'.setCell ⟨b3, 7, none⟩ (.slice (some ⟨g, 0, none⟩) (D.s.length + 1) cap)) p b3 { D with s := D.s ++ [(mm : Int) - 1] } (.slice (some ⟨g, 0, none⟩) (D.s.length + 1) cap) := hn2.put rfl
            have hown9 := ownsRow_setCell_other (a := ⟨b3, 7, none⟩) hown8 (owns_ne_blk hown8 hn2.box (by decide)) (.slice (some ⟨g, 0, none⟩) (D.s.length + 1) cap)
            have HN3 := Lib.hid hn3
            have HO9 := Lib.hid hown9
            clear c7s cf7s cl7s hn3 hown9 hown8 hg8 hlt8 hn2 hn1 ho1 hw1 hHeld HB HOWN
            generalize w8'.setCell ⟨b3, 7, none⟩ (.slice (some ⟨g, 0, none⟩) (D.s.length + 1) cap) = w9' at HN3 HO9 ⊢
            go_wp2_with fail
            go_roundw
            case rel => exact ⟨D.s.length + 1, { D with s := D.s ++ [(mm : Int) - 1] }, _, by omega, by go_num, HN3.out, row9 HO9.out, by simp, hDe⟩
            case measure => simp [intOf]; omega
          · go_simp
            refine (l1Below W _ p 3 (by omega) (by omega) HB.out.drew.cur).mono ?_
            rintro e w5' ⟨⟨mm, hmm, rfl⟩, hc, hg⟩
            have hn1 := HB.out.drew.next hc hg
            have ho1 := own_next8 (wr := wr.drew) HOWN.out hlp hg
            have hw1 : IntKind.i64.wrap ((mm : Int) - 1) = (mm : Int) - 1 := IntWalk.i64_in _ (by omega)
            clear hc hg
            refine hK.out _ _ trivial (fun hHeld => ?_)
            clear hK K
            (try simp only [List.getElem_toArray, List.getElem_cons_succ, List.getElem_cons_zero, Act.put, List.setIfInBounds_toArray, List.set_cons_zero, List.set_cons_succ])
            refine wpAnyH_take (i := 4) (oi := ?o28) (v := ?v28) ?hi28 ?hs28 ?hf28 ?hr28 ?hQ28 ?hy28 ?hS28 ?rest28
            case hi28 => rfl
            case hs28 => kernel_rfl
            case hf28 => kernel_rfl
            case hr28 => kernel_rfl
            case hQ28 => exact fun _ _ _ h => h
            case hS28 => assumption
            case hy28 =>
              refine Or.inl ⟨by kernel_rfl, ?_⟩
              intro w' hSw
              (try dsimp only at hSw)
              go_simp
              (try rfl)
            (try simp only [List.getElem_toArray, List.getElem_cons_succ, List.getElem_cons_zero, Act.put, List.setIfInBounds_toArray, List.set_cons_zero, List.set_cons_succ])
            refine wpAnyH_ready (rs := [1, 5]) (by kernel_rfl) (by simp) ?_
            refine AllReadyH.cons rfl (fun K hK => ?_) (AllReadyH.cons rfl (fun K hK => ?_) AllReadyH.nil)
            · have c7x : (w5').cell? ⟨b3, 7, none⟩ = some (.slice va D.s.length vc) := cell_blk (hn1).box 7
              go_simp
              refine hK.out _ _ trivial (fun hHeld => ?_)
              clear hK K
              (try simp only [List.getElem_toArray, List.getElem_cons_succ, List.getElem_cons_zero, Act.put, List.setIfInBounds_toArray, List.set_cons_zero, List.set_cons_succ])
              clear c7x
              refine wpAnyH_ready (rs := [5]) (by kernel_rfl) (by simp) ?_
              refine AllReadyH.cons rfl (fun K hK => ?_) AllReadyH.nil
              go_simp
              refine hK.out _ _ trivial (fun hHeld => ?_)
              clear hK K
              (try simp only [List.getElem_toArray, List.getElem_cons_succ, List.getElem_cons_zero, Act.put, List.setIfInBounds_toArray, List.set_cons_zero, List.set_cons_succ])
              refine wpAnyH_ready (rs := [6]) (by kernel_rfl) (by simp) ?_
              refine AllReadyH.cons rfl (fun K hK => ?_) AllReadyH.nil
              refine step_append_lies _ rfl (.tmp 46) (.tmp 50) 24 rfl w.heap.size 3 iI (.int .i64 0) 1 8 Tryz.underlying24 hi hz0 hz1 hz2 rfl (by decide) (.slice va D.s.length vc) D.s.length (intCells D.s) (by simp [Act.eval]) (ho1.alloc (.cells #[.int .i64 ((mm : Int) - 1)] 3)) ⟨w5'.heap.size, 0, none⟩ 1 1 [.int .i64 ((mm : Int) - 1)] (by simp [Act.eval]) rfl news_one (by intro y hy; simp at hy; subst hy; rfl) (by omega) (by unfold maxLen; omega) (by omega) (by have := (hn1.laid (.cells #[.int .i64 ((mm : Int) - 1)] 3)).grw.size; exact this) (w5'.heap.size + 1) (by simp) ?_
              intro g cap w8' hown8 hg8 _ hlt8
              have hn2 := RtB.app (hn1.laid (.cells #[.int .i64 ((mm : Int) - 1)] 3)) (ho1.alloc (.cells #[.int .i64 ((mm : Int) - 1)] 3)) hg8
              refine hK.out _ _ trivial (fun hHeld => ?_)
              clear hK K
              (try simp only [List.getElem_toArray, List.getElem_cons_succ, List.getElem_cons_zero, Act.put, List.setIfInBounds_toArray, List.set_cons_zero, List.set_cons_succ])
              refine wpAnyH_take (i := 7) (oi := ?o26) (v := ?v26) ?hi26 ?hs26 ?hf26 ?hr26 ?hQ26 ?hy26 ?hS26 ?rest26
              case hi26 => rfl
              case hs26 => kernel_rfl
              case hf26 => kernel_rfl
              case hr26 => kernel_rfl
              case hQ26 => exact fun _ _ _ h => h
              case hS26 => assumption
              case hy26 =>
                refine Or.inl ⟨by kernel_rfl, ?_⟩
                intro w' hSw
                (try dsimp only at hSw)
                go_simp
                (try rfl)
              (try simp only [List.getElem_toArray, List.getElem_cons_succ, List.getElem_cons_zero, Act.put, List.setIfInBounds_toArray, List.set_cons_zero, List.set_cons_succ])
              have c7s : w8'.cell? ⟨b3, 7, none⟩ = some (.slice va D.s.length vc) := cell_blk hn2.box 7
              have cf7s := free_blk hn2.box 7
              have cl7s := blk_lt hn2.box
              refine wpAnyH_ready (rs := [8]) (by kernel_rfl) (by simp) ?_
              refine AllReadyH.cons rfl (fun K hK => ?_) AllReadyH.nil
              go_simp
              refine hK.out _ _ trivial (fun hHeld => ?_)
              clear hK K
              (try simp only [List.getElem_toArray, List.getElem_cons_succ, List.getElem_cons_zero, Act.put, List.setIfInBounds_toArray, List.set_cons_zero, List.set_cons_succ])
              refine wpAnyH_done (by kernel_rfl) ?_ _
              refine NoPanic.normal ?_
              have hn3 : RtB W w (w8'.setCell ⟨b3, 7, none⟩ (.slice (some ⟨g, 0, none⟩) (D.s.length + 1) cap)) p b3 { D with s := D.s ++ [(mm : Int) - 1] } (.slice (some ⟨g, 0, none⟩) (D.s.length + 1) cap) := hn2.put rfl
              have hown9 := ownsRow_setCell_other (a := ⟨b3, 7, none⟩) hown8 (owns_ne_blk hown8 hn2.box (by decide)) (.slice (some ⟨g, 0, none⟩) (D.s.length + 1) cap)
              have HN3 := Lib.hid hn3
              have HO9 := Lib.hid hown9
              clear c7s cf7s cl7s hn3 hown9 hown8 hg8 hlt8 hn2 hn1 ho1 hw1 hHeld HB HOWN
              generalize w8'.setCell ⟨b3, 7, none⟩ (.slice (some ⟨g, 0, none⟩) (D.s.length + 1) cap) = w9' at HN3 HO9 ⊢
              go_wp2_with fail
              go_roundw
              case rel => exact ⟨D.s.length + 1, { D with s := D.s ++ [(mm : Int) - 1] }, _, by omega, by go_num, HN3.out, row9 HO9.out, by simp, hDe⟩
              case measure => simp [intOf]; omega
            · go_simp
              refine hK.out _ _ trivial (fun hHeld => ?_)
              clear hK K
              (try simp only [List.getElem_toArray, List.getElem_cons_succ, List.getElem_cons_zero, Act.put, List.setIfInBounds_toArray, List.set_cons_zero, List.set_cons_succ])
              refine wpAnyH_ready (rs := [1]) (by kernel_rfl) (by simp) ?_
              refine AllReadyH.cons rfl (fun K hK => ?_) AllReadyH.nil
              have c7x : (w5'.alloc (.cells #[.int .i64 ((mm : Int) - 1)] 3)).cell? ⟨b3, 7, none⟩ = some (.slice va D.s.length vc) := cell_blk (hn1.laid (.cells #[.int .i64 ((mm : Int) - 1)] 3)).box 7
              go_simp
              refine hK.out _ _ trivial (fun hHeld => ?_)
              clear hK K
              (try simp only [List.getElem_toArray, List.getElem_cons_succ, List.getElem_cons_zero, Act.put, List.setIfInBounds_toArray, List.set_cons_zero, List.set_cons_succ])
              clear c7x
              refine wpAnyH_ready (rs := [6]) (by kernel_rfl) (by simp) ?_
              refine AllReadyH.cons rfl (fun K hK => ?_) AllReadyH.nil
              refine step_append_lies _ rfl (.tmp 46) (.tmp 50) 24 rfl w.heap.size 3 iI (.int .i64 0) 1 8 Tryz.underlying24 hi hz0 hz1 hz2 rfl (by decide) (.slice va D.s.length vc) D.s.length (intCells D.s) (by simp [Act.eval]) (ho1.alloc (.cells #[.int .i64 ((mm : Int) - 1)] 3)) ⟨w5'.heap.size, 0, none⟩ 1 1 [.int .i64 ((mm : Int) - 1)] (by simp [Act.eval]) rfl news_one (by intro y hy; simp at hy; subst hy; rfl) (by omega) (by unfold maxLen; omega) (by omega) (by have := (hn1.laid (.cells #[.int .i64 ((mm : Int) - 1)] 3)).grw.size; exact this) (w5'.heap.size + 1) (by simp) ?_
              intro g cap w8' hown8 hg8 _ hlt8
              have hn2 := RtB.app (hn1.laid (.cells #[.int .i64 ((mm : Int) - 1)] 3)) (ho1.alloc (.cells #[.int .i64 ((mm : Int) - 1)] 3)) hg8
              refine hK.out _ _ trivial (fun hHeld => ?_)
              clear hK K
              (try simp only [List.getElem_toArray, List.getElem_cons_succ, List.getElem_cons_zero, Act.put, List.setIfInBounds_toArray, List.set_cons_zero, List.set_cons_succ])
              refine wpAnyH_take (i := 7) (oi := ?o27) (v := ?v27) ?hi27 ?hs27 ?hf27 ?hr27 ?hQ27 ?hy27 ?hS27 ?rest27
              case hi27 => rfl
              case hs27 => kernel_rfl
              case hf27 => kernel_rfl
              case hr27 => kernel_rfl
              case hQ27 => exact fun _ _ _ h => h
              case hS27 => assumption
              case hy27 =>
                refine Or.inl ⟨by kernel_rfl, ?_⟩
                intro w' hSw
                (try dsimp only at hSw)
                go_simp
                (try rfl)
              (try simp only [List.getElem_toArray, List.getElem_cons_succ, List.getElem_cons_zero, Act.put, List.setIfInBounds_toArray, List.set_cons_zero, List.set_cons_succ])
              have c7s : w8'.cell? ⟨b3, 7, none⟩ = some (.slice va D.s.length vc) := cell_blk hn2.box 7
              have cf7s := free_blk hn2.box 7
              have cl7s := blk_lt hn2.box
              refine wpAnyH_ready (rs := [8]) (by kernel_rfl) (by simp) ?_
              refine AllReadyH.cons rfl (fun K hK => ?_) AllReadyH.nil
              go_simp
              refine hK.out _ _ trivial (fun hHeld => ?_)
              clear hK K
              (try simp only [List.getElem_toArray, List.getElem_cons_succ, List.getElem_cons_zero, Act.put, List.setIfInBounds_toArray, List.set_cons_zero, List.set_cons_succ])
              refine wpAnyH_done (by kernel_rfl) ?_ _
              refine NoPanic.normal ?_
              have hn3 : RtB W w (w8'.setCell ⟨b3, 7, none⟩ (.slice (some ⟨g, 0, none⟩) (D.s.length + 1) cap)) p b3 { D with s := D.s ++ [(mm : Int) - 1] } (.slice (some ⟨g, 0, none⟩) (D.s.length + 1) cap) := hn2.put rfl
              have hown9 := ownsRow_setCell_other (a := ⟨b3, 7, none⟩) hown8 (owns_ne_blk hown8 hn2.box (by decide)) (.slice (some ⟨g, 0, none⟩) (D.s.length + 1) cap)
              have HN3 := Lib.hid hn3
              have HO9 := Lib.hid hown9
              clear c7s cf7s cl7s hn3 hown9 hown8 hg8 hlt8 hn2 hn1 ho1 hw1 hHeld HB HOWN
              generalize w8'.setCell ⟨b3, 7, none⟩ (.slice (some ⟨g, 0, none⟩) (D.s.length + 1) cap) = w9' at HN3 HO9 ⊢
              go_wp2_with fail
              go_roundw
              case rel => exact ⟨D.s.length + 1, { D with s := D.s ++ [(mm : Int) - 1] }, _, by omega, by go_num, HN3.out, row9 HO9.out, by simp, hDe⟩
              case measure => simp [intOf]; omega
        · have hlt1 : ¬ (k : Int) < m9 := by omega
          have HOWN := Lib.hid hown
          clear hown
          have c0 : wr.cell? ⟨b3, 0, none⟩ = some (.int .i64 D.r) := cell_blk HB.out.box 0
          have cf0 := free_blk HB.out.box 0
          have c1 : wr.cell? ⟨b3, 1, none⟩ = some (.int .i64 D.d) := cell_blk HB.out.box 1
          have cf1 := free_blk HB.out.box 1
          have c2 : wr.cell? ⟨b3, 2, none⟩ = some (.int .i64 D.b) := cell_blk HB.out.box 2
          have cf2 := free_blk HB.out.box 2
          have c3 : wr.cell? ⟨b3, 3, none⟩ = some (.int .i64 D.l) := cell_blk HB.out.box 3
          have cf3 := free_blk HB.out.box 3
          have c4 : wr.cell? ⟨b3, 4, none⟩ = some (.int .i64 D.m) := cell_blk HB.out.box 4
          have cf4 := free_blk HB.out.box 4
          have c5 : wr.cell? ⟨b3, 5, none⟩ = some (.int .i64 D.n) := cell_blk HB.out.box 5
          have cf5 := free_blk HB.out.box 5
          have c6 : wr.cell? ⟨b3, 6, none⟩ = some (.int .i64 D.e) := cell_blk HB.out.box 6
          have cf6 := free_blk HB.out.box 6
          have c7 : wr.cell? ⟨b3, 7, none⟩ = some (.slice va D.s.length vc) := cell_blk HB.out.box 7
          have cf7 := free_blk HB.out.box 7
          have cl := blk_lt HB.out.box
          have r0 := cell_blk HB.out.res 0
          have rf0 := free_blk HB.out.res 0
          have r1 := cell_blk HB.out.res 1
          have rf1 := free_blk HB.out.res 1
          have r2 := cell_blk HB.out.res 2
          have rf2 := free_blk HB.out.res 2
          have r3 := cell_blk HB.out.res 3
          have rf3 := free_blk HB.out.res 3
          have r4 := cell_blk HB.out.res 4
          have rf4 := free_blk HB.out.res 4
          have r5 := cell_blk HB.out.res 5
          have rf5 := free_blk HB.out.res 5
          have r6 := cell_blk HB.out.res 6
          have rf6 := free_blk HB.out.res 6
          have r7 := cell_blk HB.out.res 7
          have rf7 := free_blk HB.out.res 7
          have rl := blk_lt HB.out.res
          go_wp2_with fail
          refine bodyPost_ret (v := cfgV D (.slice va D.s.length vc)) ?_ rfl ⟨⟨D, _, rfl, ?_, by omega, by omega, by omega⟩, ?_, ?_⟩
          · rw [results_one rfl]
            simp only [cfgV]
            go_simp
          · iterate 8 refine ownsRow_setCell_other ?_ (owns_ne_blk HOWN.out HB.out.res (by decide)) _
            exact HOWN.out
          · iterate 8 refine Cur.far8 ?_ hlp
            exact HB.out.cur
          · iterate 8 refine grown_set8 ?_ (Nat.le_refl _)
            exact HB.out.grw
end Go.Proofs.YtnnbhgnllbjmeaaGreatDoor
