/-
  What a line lays, whatever its key: the reference's way.
  The reading of settings: what the walk keeps.
-/
import Derived.Test.YtnnbhgnllbjmeaaGreatDoorPk4
import Derived.Test.YtnnbhgnllbjmeaaGreatDoorCfgL
namespace Go.Proofs.YtnnbhgnllbjmeaaGreatDoor
open Go.RowKit

/-- What the laying of a line answers. -/
def LayPost (B : Nat) (C : Cfg) (k : Nat) (l : List UInt8) (e : Ending) (w' : World) : Prop :=
  ∃ D c v, layV C k l = (D, c) ∧ e = .returned (.tuple #[cfgV D v, .int .i64 (c : Nat)]) ∧ w'.ownsRow B 3 1 v D.s.length (intCells D.s)
theorem layV_num {C : Cfg} {k : Nat} {l : List UInt8} (hk : k < 5) {z : Int} (hz : numV l = some z) : layV C k l = (setC k z C, if inZ z (leastC k) (mostC k) = true then 0 else 13) := by
  rw [layV, if_neg (by omega), if_neg (by omega), hz]
theorem specLay (C : Cfg) (u : Value) (k : Nat) (hk : k < 7) (s : ByteArray) (hs : s.size ≤ 1048576) (w : World) (B : Nat) (hB0 : B ≤ w.heap.size) (h : w.ownsRow B 3 1 u C.s.length (intCells C.s)) :
    Calls Tryz.prog 39 #[cfgV C u, .int .i64 k, .string s] w fun e w' => LayPost B C k s.data.toList e w' ∧ Below w.heap.size w w' := by
  obtain ⟨a, c, rfl⟩ := ownsI_form h
  by_cases h6 : k = 6
  · subst h6
    cases hz : signsV s.data.toList with
    | some zs => exact (specLay_s C a _ c s hs zs (Lib.hid hz) w).mono fun e w' ⟨⟨v, he, hr⟩, hB⟩ => ⟨⟨{ C with s := zs }, 0, v, by rw [layV, if_pos rfl, hz], he, hr.mono hB0⟩, hB⟩
    | none => exact (specLay_sn C a _ c s hs (Lib.hid hz) w).mono fun e w' ⟨⟨v, he, hr⟩, hB⟩ => ⟨⟨{ C with s := [] }, 14, v, by rw [layV, if_pos rfl, hz], he, hr.mono hB0⟩, hB⟩
  · by_cases h5 : k = 5
    · subst h5
      obtain ⟨n0, d0, c0, hz⟩ : ∃ n d c, rateV s.data.toList = (n, d, c) := ⟨_, _, _, rfl⟩
      exact (specLay_r C a _ c s hs n0 d0 c0 (Lib.hid hz) w).mono fun e w' ⟨he, hB⟩ => ⟨⟨{ C with n := n0, e := d0 }, c0, _, by rw [layV, if_neg (by omega), if_pos rfl, hz], he, ownsI_below h hB⟩, hB⟩
    · have hk5 : k < 5 := by omega
      cases hz : numV s.data.toList with
      | none => exact (specLay_nn C a _ c k hk5 s (Lib.hid hz) w).mono fun e w' ⟨he, hB⟩ => ⟨⟨C, 12, _, by rw [layV, if_neg h6, if_neg h5, hz], he, ownsI_below h hB⟩, hB⟩
      | some z =>
        have hi := (numV_is hz).2
        have hl := layV_num (C := C) hk5 hz
        rcases Bool.eq_false_or_eq_true (inZ z (leastC k) (mostC k)) with hin | hin
        · rw [if_pos hin] at hl
          rcases (by omega : k = 0 ∨ k = 1 ∨ k = 2 ∨ k = 3 ∨ k = 4) with rfl | rfl | rfl | rfl | rfl
          · exact (specLay_n0y C a _ c s z hi.1 hi.2 (Lib.hid hz) (Lib.hid hin) w).mono fun e w' ⟨he, hB⟩ => ⟨⟨_, 0, _, hl, he, ownsI_below h hB⟩, hB⟩
          · exact (specLay_n1y C a _ c s z hi.1 hi.2 (Lib.hid hz) (Lib.hid hin) w).mono fun e w' ⟨he, hB⟩ => ⟨⟨_, 0, _, hl, he, ownsI_below h hB⟩, hB⟩
          · exact (specLay_n2y C a _ c s z hi.1 hi.2 (Lib.hid hz) (Lib.hid hin) w).mono fun e w' ⟨he, hB⟩ => ⟨⟨_, 0, _, hl, he, ownsI_below h hB⟩, hB⟩
          · exact (specLay_n3y C a _ c s z hi.1 hi.2 (Lib.hid hz) (Lib.hid hin) w).mono fun e w' ⟨he, hB⟩ => ⟨⟨_, 0, _, hl, he, ownsI_below h hB⟩, hB⟩
          · exact (specLay_n4y C a _ c s z hi.1 hi.2 (Lib.hid hz) (Lib.hid hin) w).mono fun e w' ⟨he, hB⟩ => ⟨⟨_, 0, _, hl, he, ownsI_below h hB⟩, hB⟩
        · rw [if_neg (by rw [hin]; decide)] at hl
          rcases (by omega : k = 0 ∨ k = 1 ∨ k = 2 ∨ k = 3 ∨ k = 4) with rfl | rfl | rfl | rfl | rfl
          · exact (specLay_n0n C a _ c s z hi.1 hi.2 (Lib.hid hz) (Lib.hid hin) w).mono fun e w' ⟨he, hB⟩ => ⟨⟨_, 13, _, hl, he, ownsI_below h hB⟩, hB⟩
          · exact (specLay_n1n C a _ c s z hi.1 hi.2 (Lib.hid hz) (Lib.hid hin) w).mono fun e w' ⟨he, hB⟩ => ⟨⟨_, 13, _, hl, he, ownsI_below h hB⟩, hB⟩
          · exact (specLay_n2n C a _ c s z hi.1 hi.2 (Lib.hid hz) (Lib.hid hin) w).mono fun e w' ⟨he, hB⟩ => ⟨⟨_, 13, _, hl, he, ownsI_below h hB⟩, hB⟩
          · exact (specLay_n3n C a _ c s z hi.1 hi.2 (Lib.hid hz) (Lib.hid hin) w).mono fun e w' ⟨he, hB⟩ => ⟨⟨_, 13, _, hl, he, ownsI_below h hB⟩, hB⟩
          · exact (specLay_n4n C a _ c s z hi.1 hi.2 (Lib.hid hz) (Lib.hid hin) w).mono fun e w' ⟨he, hB⟩ => ⟨⟨_, 13, _, hl, he, ownsI_below h hB⟩, hB⟩
end Go.Proofs.YtnnbhgnllbjmeaaGreatDoor
namespace Go.Proofs.YtnnbhgnllbjmeaaGreatDoor
open Go.RowKit

theorem goC_empty {x : List UInt8} {t : List (List UInt8)} {i : Nat} {mt : List Nat} {D : Cfg} (h : x = []) : goC (x :: t) i mt D = goC t (i + 1) mt D := by rw [goC, if_pos h]
theorem goC_line {x : List UInt8} {t : List (List UInt8)} {i : Nat} {mt : List Nat} {D : Cfg} (h : x ≠ []) (hs : splitEq x = none) : goC (x :: t) i mt D = (zeroC, 10, i) := by
  rw [goC, if_neg h, hs]
theorem goC_key {x a v : List UInt8} {t : List (List UInt8)} {i : Nat} {mt : List Nat} {D : Cfg} (h : x ≠ []) (hs : splitEq x = some (a, v)) (hw : wordOf a = none) : goC (x :: t) i mt D = (zeroC, 11, i) := by
  rw [goC, if_neg h, hs]
  simp only
  rw [hw]
theorem goC_twice {x a v : List UInt8} {t : List (List UInt8)} {i k : Nat} {mt : List Nat} {D : Cfg} (h : x ≠ []) (hs : splitEq x = some (a, v)) (hw : wordOf a = some k) (hm : k ∈ mt) : goC (x :: t) i mt D = (zeroC, 6, i) := by
  rw [goC, if_neg h, hs]
  simp only
  rw [hw]
  simp only
  rw [if_pos hm]
theorem goC_good {x a v : List UInt8} {t : List (List UInt8)} {i k : Nat} {mt : List Nat} {D E : Cfg} (h : x ≠ []) (hs : splitEq x = some (a, v)) (hw : wordOf a = some k) (hm : k ∉ mt) (hl : layV D k v = (E, 0)) : goC (x :: t) i mt D = goC t (i + 1) (k :: mt) E := by
  rw [goC, if_neg h, hs]
  simp only
  rw [hw]
  simp only
  rw [if_neg hm, hl, if_pos rfl]
theorem goC_bad {x a v : List UInt8} {t : List (List UInt8)} {i k c : Nat} {mt : List Nat} {D E : Cfg} (h : x ≠ []) (hs : splitEq x = some (a, v)) (hw : wordOf a = some k) (hm : k ∉ mt) (hl : layV D k v = (E, c)) (hc : c ≠ 0) : goC (x :: t) i mt D = (zeroC, c, i) := by
  rw [goC, if_neg h, hs]
  simp only
  rw [hw]
  simp only
  rw [if_neg hm, hl, if_neg hc]
theorem split_none : ∀ {x : List UInt8}, (∀ y ∈ x, y ≠ 61) → splitEq x = none
  | [], _ => rfl
  | c :: r, h => by rw [splitEq, if_neg (h c (by simp)), split_none (fun y hy => h y (by simp [hy]))]; rfl
/-- A line without a sign of equality. -/
theorem split_no {s : ByteArray} (h : ∀ (q : Nat) (hq : q < s.size), s[q] ≠ 61) : splitEq s.data.toList = none := by
  refine split_none fun y hy => ?_
  obtain ⟨q, hq⟩ := List.getElem?_of_mem hy
  have hql := (List.getElem?_eq_some_iff.1 hq).1
  rw [← Lib.size_eq] at hql
  have h2 := at_byte hql
  rw [hq] at h2
  rw [Option.some.inj h2]
  exact h q hql
/-- A line that is cut at the sign. -/
theorem split_at {s : ByteArray} {j : Nat} (hj : j < s.size) (he : s[j] = 61) (h : ∀ (q : Nat) (hq : q < s.size), q < j → s[q] ≠ 61) : splitEq s.data.toList = some (s.data.toList.take j, s.data.toList.drop (j + 1)) := by
  have hl : j < s.data.toList.length := by rw [← Lib.size_eq]; exact hj
  have e : s.data.toList = s.data.toList.take j ++ 61 :: s.data.toList.drop (j + 1) := by
    have h1 := List.take_append_drop j s.data.toList
    have h2 : s.data.toList.drop j = 61 :: s.data.toList.drop (j + 1) := by
      rw [List.drop_eq_getElem_cons hl]
      have h3 := at_byte hj
      rw [List.getElem?_eq_getElem hl] at h3
      rw [Option.some.inj h3, he]
    rw [h2] at h1
    exact h1.symm
  have hno : ∀ x ∈ s.data.toList.take j, x ≠ 61 := by
    intro x hx
    obtain ⟨q, hq⟩ := List.getElem?_of_mem hx
    have hqj : q < j := by
      have := (List.getElem?_eq_some_iff.1 hq).1
      simp at this
      omega
    rw [List.getElem?_take, if_pos hqj] at hq
    have h2 := at_byte (s := s) (k := q) (by omega)
    rw [hq] at h2
    rw [Option.some.inj h2]
    exact h q (by omega) hqj
  conv => lhs; rw [e]
  exact splitEq_at _ hno

/-- Which keys have been met, as cells. -/
def metL (mt : List Nat) : List Value := (List.range 7).map fun k => Value.bool (decide (k ∈ mt))
theorem metL_len (mt : List Nat) : (metL mt).length = 7 := by simp [metL]
theorem metL_at {mt : List Nat} {k : Nat} (h : k < 7) : (metL mt)[k]? = some (.bool (decide (k ∈ mt))) := by simp [metL, h]
theorem metL_nil : metL [] = List.replicate 7 (.bool false) := by rfl
theorem metL_set {mt : List Nat} {k : Nat} (_h : k < 7) : (metL mt).set k (.bool true) = metL (k :: mt) := by
  refine List.ext_getElem? fun q => ?_
  rw [List.getElem?_set]
  by_cases e : k = q
  · subst e
    rw [if_pos rfl, if_pos (by rw [metL_len]; exact _h), metL_at _h]
    simp
  · rw [if_neg e]
    by_cases hq : q < 7
    · rw [metL_at hq, metL_at hq]
      have : (q ∈ k :: mt) ↔ (q ∈ mt) := by
        constructor
        · intro h
          rcases List.mem_cons.1 h with h | h
          · exact absurd h.symm e
          · exact h
        · exact fun h => List.mem_cons_of_mem _ h
      simp [this]
    · rw [List.getElem?_eq_none (by rw [metL_len]; omega), List.getElem?_eq_none (by rw [metL_len]; omega)]
/-- What the reading keeps: the answer's two boxes, the settings so far, the keys met, the lines. -/
structure RcSt (W wr : World) (cb mb gg cap : Nat) (ps : List (List UInt8)) (D : Cfg) (v : Value) (mt : List Nat) : Prop where
  res : wr.heap[W.heap.size]? = some (.cells #[.int .i64 0, .int .i64 0, .int .i64 0, .int .i64 0, .int .i64 0, .int .i64 0, .int .i64 0, .slice none 0 0] 26 (0, 0))
  flt : wr.heap[W.heap.size + 1]? = some (.cells #[.int .i64 0, .int .i64 0, .int .i64 0] 31 (0, 0))
  box : wr.heap[cb]? = some (.cells (cfgA D v) 26 (0, 0))
  own : wr.ownsRow W.heap.size 3 1 v D.s.length (intCells D.s)
  met : wr.ownsRow W.heap.size 4 1 (.slice (some ⟨mb, 0, none⟩) 7 7) 7 (metL mt)
  lns : wr.ownsRow W.heap.size 9 1 (.slice (some ⟨gg, 0, none⟩) ps.length cap) ps.length (strCells ps)
  bel : Below W.heap.size W wr
  lt : W.heap.size + 1 < cb
theorem RcSt.next {W wr w' : World} {cb mb gg cap : Nat} {ps : List (List UInt8)} {D : Cfg} {v : Value} {mt : List Nat} (h : RcSt W wr cb mb gg cap ps D v mt) (hB : Below wr.heap.size wr w') : RcSt W w' cb mb gg cap ps D v mt :=
  ⟨blk_next h.res hB, blk_next h.flt hB, blk_next h.box hB, ownsI_below h.own hB, ownsI_below h.met hB, ownsI_below h.lns hB, bt h.bel hB, h.lt⟩
theorem RcSt.drew {W wr : World} {cb mb gg cap : Nat} {ps : List (List UInt8)} {D : Cfg} {v : Value} {mt : List Nat} (h : RcSt W wr cb mb gg cap ps D v mt) : RcSt W wr.drew cb mb gg cap ps D v mt :=
  h.next (Below.refl _ _).drew
theorem RcSt.mark {W wr : World} {cb mb gg cap k : Nat} {ps : List (List UInt8)} {D : Cfg} {v : Value} {mt : List Nat} (h : RcSt W wr cb mb gg cap ps D v mt) (hk : k < 7) : RcSt W (wr.setCell ⟨mb, k, none⟩ (.bool true)) cb mb gg cap ps D v (k :: mt) := by
  have hs := h.met.stored k (.bool true)
  have ne1 : W.heap.size ≠ mb := fun e => owns_ne_blk h.met h.res (by decide) (by rw [e]; rfl)
  have ne2 : W.heap.size + 1 ≠ mb := fun e => owns_ne_blk h.met h.flt (by decide) (by rw [e]; rfl)
  have ne3 : cb ≠ mb := fun e => owns_ne_blk h.met h.box (by decide) (by rw [e]; rfl)
  refine ⟨(heap_setCell_other _ _ _ _ ne1).trans h.res, (heap_setCell_other _ _ _ _ ne2).trans h.flt, (heap_setCell_other _ _ _ _ ne3).trans h.box, ?_, ?_, ?_, h.bel.setCell (h.met.lt mb rfl).1 _, h.lt⟩
  · exact owns_keep h.own h.met (by decide) hs.2
  · rw [← metL_set hk]; exact hs.1
  · exact owns_keep h.lns h.met (by decide) hs.2
/-- A box of its own is written. -/
theorem RcSt.far {W wr : World} {cb mb gg cap nb : Nat} {ps : List (List UInt8)} {D : Cfg} {v : Value} {mt : List Nat} {cs : Array Value} (h : RcSt W wr cb mb gg cap ps D v mt) (hb : wr.heap[nb]? = some (.cells cs 26 (0, 0))) (hn : nb ≠ cb) (hlt : W.heap.size + 1 < nb) (k : Nat) (x : Value) : RcSt W (wr.setCell ⟨nb, k, none⟩ x) cb mb gg cap ps D v mt ∧ (wr.setCell ⟨nb, k, none⟩ x).heap[nb]? = some (.cells (cs.setIfInBounds k x) 26 (0, 0)) := by
  refine ⟨⟨(heap_setCell_other _ _ _ _ (by simp; omega)).trans h.res, (heap_setCell_other _ _ _ _ (by simp; omega)).trans h.flt, (heap_setCell_other _ _ _ _ (fun e => hn e.symm)).trans h.box, ?_, ?_, ?_, h.bel.setCell (by simp; omega) _, h.lt⟩, heap_setCell_same _ _ _ _ _ _ hb⟩
  · exact ownsRow_setCell_other h.own (owns_ne_blk h.own hb (by decide)) _
  · exact ownsRow_setCell_other h.met (owns_ne_blk h.met hb (by decide)) _
  · exact ownsRow_setCell_other h.lns (owns_ne_blk h.lns hb (by decide)) _
theorem put8_box {wr : World} {cb : Nat} {D : Cfg} {v : Value} (hb : wr.heap[cb]? = some (.cells (cfgA D v) 26 (0, 0))) (E : Cfg) (u : Value) : (((((((((wr).setCell ⟨cb, 0, none⟩ (.int .i64 E.r)).setCell ⟨cb, 1, none⟩ (.int .i64 E.d)).setCell ⟨cb, 2, none⟩ (.int .i64 E.b)).setCell ⟨cb, 3, none⟩ (.int .i64 E.l)).setCell ⟨cb, 4, none⟩ (.int .i64 E.m)).setCell ⟨cb, 5, none⟩ (.int .i64 E.n)).setCell ⟨cb, 6, none⟩ (.int .i64 E.e)).setCell ⟨cb, 7, none⟩ u).heap[cb]? = some (.cells (cfgA E u) 26 (0, 0)) := by
  have s0 := heap_setCell_same _ cb 0 _ _ (.int .i64 E.r) hb
  have s1 := heap_setCell_same _ cb 1 _ _ (.int .i64 E.d) s0
  have s2 := heap_setCell_same _ cb 2 _ _ (.int .i64 E.b) s1
  have s3 := heap_setCell_same _ cb 3 _ _ (.int .i64 E.l) s2
  have s4 := heap_setCell_same _ cb 4 _ _ (.int .i64 E.m) s3
  have s5 := heap_setCell_same _ cb 5 _ _ (.int .i64 E.n) s4
  have s6 := heap_setCell_same _ cb 6 _ _ (.int .i64 E.e) s5
  have s7 := heap_setCell_same _ cb 7 _ _ (u) s6
  simp only [cfgA, List.setIfInBounds_toArray, List.set_cons_zero, List.set_cons_succ] at s7
  unfold cfgA
  exact s7
/-- Other settings are laid into the box. -/
theorem RcSt.put {W wr : World} {cb mb gg cap : Nat} {ps : List (List UInt8)} {D : Cfg} {v : Value} {mt : List Nat} (h : RcSt W wr cb mb gg cap ps D v mt) (E : Cfg) (u : Value) (ho : wr.ownsRow W.heap.size 3 1 u E.s.length (intCells E.s)) : RcSt W (((((((((wr).setCell ⟨cb, 0, none⟩ (.int .i64 E.r)).setCell ⟨cb, 1, none⟩ (.int .i64 E.d)).setCell ⟨cb, 2, none⟩ (.int .i64 E.b)).setCell ⟨cb, 3, none⟩ (.int .i64 E.l)).setCell ⟨cb, 4, none⟩ (.int .i64 E.m)).setCell ⟨cb, 5, none⟩ (.int .i64 E.n)).setCell ⟨cb, 6, none⟩ (.int .i64 E.e)).setCell ⟨cb, 7, none⟩ u) cb mb gg cap ps E u mt := by
  have n1 : W.heap.size ≠ cb := by have := h.lt; omega
  have n2 : W.heap.size + 1 ≠ cb := by have := h.lt; omega
  refine ⟨?_, ?_, ?_, ?_, ?_, ?_, ?_, h.lt⟩
  · iterate 8 rw [heap_setCell_other _ _ _ _ n1]
    exact h.res
  · iterate 8 rw [heap_setCell_other _ _ _ _ n2]
    exact h.flt
  · exact put8_box h.box E u
  · iterate 8 refine ownsRow_setCell_other ?_ (owns_ne_blk ho h.box (by decide)) _
    exact ho
  · iterate 8 refine ownsRow_setCell_other ?_ (owns_ne_blk h.met h.box (by decide)) _
    exact h.met
  · iterate 8 refine ownsRow_setCell_other ?_ (owns_ne_blk h.lns h.box (by decide)) _
    exact h.lns
  · iterate 8 refine Below.setCell ?_ (by have := h.lt; simp; omega) _
    exact h.bel
theorem RcSt.far8 {W wr : World} {cb mb gg cap nb : Nat} {ps : List (List UInt8)} {D : Cfg} {v : Value} {mt : List Nat} {cs : Array Value} (h : RcSt W wr cb mb gg cap ps D v mt) (hb : wr.heap[nb]? = some (.cells cs 26 (0, 0))) (hn : nb ≠ cb) (hlt : W.heap.size + 1 < nb) (E : Cfg) (u : Value) : RcSt W (((((((((wr).setCell ⟨nb, 0, none⟩ (.int .i64 E.r)).setCell ⟨nb, 1, none⟩ (.int .i64 E.d)).setCell ⟨nb, 2, none⟩ (.int .i64 E.b)).setCell ⟨nb, 3, none⟩ (.int .i64 E.l)).setCell ⟨nb, 4, none⟩ (.int .i64 E.m)).setCell ⟨nb, 5, none⟩ (.int .i64 E.n)).setCell ⟨nb, 6, none⟩ (.int .i64 E.e)).setCell ⟨nb, 7, none⟩ u) cb mb gg cap ps D v mt := by
  obtain ⟨h0, b0⟩ := h.far hb hn hlt 0 (.int .i64 E.r)
  obtain ⟨h1, b1⟩ := h0.far b0 hn hlt 1 (.int .i64 E.d)
  obtain ⟨h2, b2⟩ := h1.far b1 hn hlt 2 (.int .i64 E.b)
  obtain ⟨h3, b3⟩ := h2.far b2 hn hlt 3 (.int .i64 E.l)
  obtain ⟨h4, b4⟩ := h3.far b3 hn hlt 4 (.int .i64 E.m)
  obtain ⟨h5, b5⟩ := h4.far b4 hn hlt 5 (.int .i64 E.n)
  obtain ⟨h6, b6⟩ := h5.far b5 hn hlt 6 (.int .i64 E.e)
  obtain ⟨h7, b7⟩ := h6.far b6 hn hlt 7 (u)
  exact h7
/-- What the laying of a line keeps. -/
abbrev RcS (W : World) (cb mb gg cap : Nat) (ps : List (List UInt8)) (D : Cfg) (v : Value) (mt : List Nat) (i : Nat) (ln : ByteArray) (w : World) : Prop := w.cell? ⟨cb, 0, none⟩ = some (.int .i64 D.r) ∧ w.cell? ⟨cb, 1, none⟩ = some (.int .i64 D.d) ∧ w.cell? ⟨cb, 2, none⟩ = some (.int .i64 D.b) ∧ w.cell? ⟨cb, 3, none⟩ = some (.int .i64 D.l) ∧ w.cell? ⟨cb, 4, none⟩ = some (.int .i64 D.m) ∧ w.cell? ⟨cb, 5, none⟩ = some (.int .i64 D.n) ∧ w.cell? ⟨cb, 6, none⟩ = some (.int .i64 D.e) ∧ w.cell? ⟨cb, 7, none⟩ = some (v) ∧ w.cell? ⟨gg, i, none⟩ = some (.string ln) ∧ RcSt W w cb mb gg cap ps D v mt
theorem RcSt.line {W w : World} {cb mb gg cap i : Nat} {ps : List (List UInt8)} {D : Cfg} {v : Value} {mt : List Nat} {ln : ByteArray} (h : RcSt W w cb mb gg cap ps D v mt) (hl : ps[i]? = some ln.data.toList) : w.cell? ⟨gg, i, none⟩ = some (.string ln) := by
  have hil := (List.getElem?_eq_some_iff.1 hl).1
  have k := h.lns.cellAt i (by omega)
  simpa [strCells, hl] using k
theorem RcS.mk {W w : World} {cb mb gg cap i : Nat} {ps : List (List UInt8)} {D : Cfg} {v : Value} {mt : List Nat} {ln : ByteArray} (h : RcSt W w cb mb gg cap ps D v mt) (hl : ps[i]? = some ln.data.toList) : RcS W cb mb gg cap ps D v mt i ln w :=
  ⟨cell_blk h.box 0, cell_blk h.box 1, cell_blk h.box 2, cell_blk h.box 3, cell_blk h.box 4, cell_blk h.box 5, cell_blk h.box 6, cell_blk h.box 7, h.line hl, h⟩
end Go.Proofs.YtnnbhgnllbjmeaaGreatDoor
