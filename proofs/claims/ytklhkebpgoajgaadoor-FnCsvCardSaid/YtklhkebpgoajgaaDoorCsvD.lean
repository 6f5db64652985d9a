/-
  The draws of rows.
-/
import Derived.Test.YtklhkebpgoajgaaDoorCsvI
import Derived.Test.YtklhkebpgoajgaaDoorByR
import Derived.Test.YtklhkebpgoajgaaDoorDrawW
import Derived.Test.YtklhkebpgoajgaaDoorArgsB
import Derived.Deep.LoopGhost
namespace Go.Proofs.YtklhkebpgoajgaaDoor
open Go.RowKit

/-- The cursor stands where others are written. -/
theorem Cur.grown {W w w' : World} {p : Nat} {r : Option Nat} (h : Cur W w p) (hg : w.grownBy w' r) (hr : ∀ k, r = some k → W.heap.size ≤ k ∧ k ≠ p) : Cur W w' p := by
  have hlt := h.lt
  obtain ⟨hp, hB, v, n, i, x, hb, hi, h0, h1, hblk⟩ := h
  exact ⟨hp, hB.grown hg hB.size (fun k hk => (hr k hk).1), v, n, i, x, hb, hi, h0, h1, (hg.block p hlt (fun e => (hr p e.symm).2 rfl)).trans hblk⟩
theorem Cur.blk {W w : World} {p : Nat} (h : Cur W w p) : ∃ cs, w.heap[p]? = some (.cells cs 66 (0, 0)) := by
  obtain ⟨_, _, v, n, i, x, _, _, _, _, hblk⟩ := h
  exact ⟨_, hblk⟩
theorem grownBy_far {a b c : World} {p : Nat} {r : Option Nat} (h : a.grownBy b (some p)) (k : b.grownBy c r) (hr : ∀ g, r = some g → a.heap.size ≤ g) : a.grownBy c (some p) :=
  ⟨k.os.trans h.os, k.tape.trans h.tape, k.output.trans h.output, Nat.le_trans h.size k.size, fun i hi hne => (k.block i (Nat.lt_of_lt_of_le hi h.size) (fun e => by have := hr i e.symm; omega)).trans (h.block i hi hne)⟩

/-- The world while rows are drawn: the rows so far. -/
structure DrO (W w0 wr : World) (p : Nat) (vo : Value) (rows : List (List (List UInt8))) : Prop where
  cur : Cur W wr p
  grown : w0.grownBy wr (some p)
  out : SSOwn wr w0.heap.size vo rows
/-- .. and the row that is drawn. -/
structure DrSt (W w0 wr : World) (p lo : Nat) (vo vr : Value) (rows : List (List (List UInt8))) (row : List (List UInt8)) : Prop where
  cur : Cur W wr p
  grown : w0.grownBy wr (some p)
  out : ∃ vs, wr.ownsRow w0.heap.size 45 1 vo rows.length vs ∧ RowsOwn wr w0.heap.size 9 vs (rows.map strCells) ∧ ∀ (j : Nat) x g, vs[j]? = some x → x.ownBlock = some g → g < lo
  row : wr.ownsRow lo 9 1 vr row.length (strCells row)
  le : w0.heap.size ≤ lo
  hi : lo ≤ wr.heap.size
theorem DrO.next {W w0 wr w' : World} {p : Nat} {vo : Value} {rows : List (List (List UInt8))} (h : DrO W w0 wr p vo rows) (hc : Cur W w' p) (hg : wr.grownBy w' (some p)) : DrO W w0 w' p vo rows := by
  obtain ⟨cs, hb⟩ := h.cur.blk
  have hT1 : 45 ≠ 66 := by decide
  have hT2 : 9 ≠ 66 := by decide
  obtain ⟨vs, ho, hr⟩ := h.out
  refine ⟨hc, grownBy_trans h.grown hg, vs, ho.kept hg (Or.inr (cell_apart hb ho hT1)), hr.kept hg (fun j u g hu hb2 e => ?_)⟩
  obtain rfl := Option.some.inj e
  have hj : j < (rows.map strCells).length := by rw [← hr.1]; exact (List.getElem?_eq_some_iff.1 hu).1
  exact cell_apart hb (hr.2.1 j u _ hu (List.getElem?_eq_getElem hj)) hT2 hb2
theorem DrO.start {W w0 wr : World} {p : Nat} {vo : Value} {rows : List (List (List UInt8))} (h : DrO W w0 wr p vo rows) : DrSt W w0 (wr.alloc (.cells #[] 9)) p wr.heap.size vo (.slice (some ⟨wr.heap.size, 0, none⟩) 0 0) rows [] := by
  obtain ⟨vs, ho, hr⟩ := h.out
  have hB : Below wr.heap.size wr (wr.alloc (.cells #[] 9)) := (Below.refl _ _).alloc (Nat.le_refl _) _
  exact ⟨h.cur.alloc _, grownBy_trans h.grown (grownBy_alloc _ _ _), ⟨vs, ho.kept (grown_of_below hB none) (by cases hv : vo.ownBlock <;> simp), hr.below hB, fun j x g hx hg => (hr.lt hx hg).2⟩, World.ownsRow_made wr #[] 0 (Nat.le_refl _) (by unfold maxLen; omega) (by simp), h.grown.size, hB.size⟩
theorem DrSt.next {W w0 wr w' : World} {p lo : Nat} {vo vr : Value} {rows : List (List (List UInt8))} {row : List (List UInt8)} (h : DrSt W w0 wr p lo vo vr rows row) (hc : Cur W w' p) (hg : wr.grownBy w' (some p)) : DrSt W w0 w' p lo vo vr rows row := by
  obtain ⟨cs, hb⟩ := h.cur.blk
  have hT1 : 45 ≠ 66 := by decide
  have hT2 : 9 ≠ 66 := by decide
  obtain ⟨vs, ho, hr, hlt⟩ := h.out
  refine ⟨hc, grownBy_trans h.grown hg, ⟨vs, ho.kept hg (Or.inr (cell_apart hb ho hT1)), hr.kept hg (fun j u g hu hb2 e => ?_), hlt⟩, h.row.kept hg (Or.inr (cell_apart hb h.row hT2)), h.le, Nat.le_trans h.hi hg.size⟩
  obtain rfl := Option.some.inj e
  have hj : j < (rows.map strCells).length := by rw [← hr.1]; exact (List.getElem?_eq_some_iff.1 hu).1
  exact cell_apart hb (hr.2.1 j u _ hu (List.getElem?_eq_getElem hj)) hT2 hb2
theorem DrSt.laid {W w0 wr : World} {p lo : Nat} {vo vr : Value} {rows : List (List (List UInt8))} {row : List (List UInt8)} (h : DrSt W w0 wr p lo vo vr rows row) (o : Obj) : DrSt W w0 (wr.alloc o) p lo vo vr rows row :=
  h.next (h.cur.alloc o) (grownBy_alloc _ _ _)
theorem DrSt.app {W w0 wr w' : World} {p lo : Nat} {vo vr vr' : Value} {rows : List (List (List UInt8))} {row : List (List UInt8)} {f : List UInt8} (h : DrSt W w0 wr p lo vo vr rows row) (hw : W.heap.size ≤ w0.heap.size) (hg : wr.grownBy w' vr.ownBlock) (ho' : w'.ownsRow lo 9 1 vr' (row.length + 1) (strCells row ++ [.string ⟨f.toArray⟩])) : DrSt W w0 w' p lo vo vr' rows (row ++ [f]) := by
  obtain ⟨cs, hb⟩ := h.cur.blk
  obtain ⟨vs, ho, hr, hlt⟩ := h.out
  have hT : 9 ≠ 45 := by decide
  have hT2 : 9 ≠ 66 := by decide
  have hfar : ∀ k, vr.ownBlock = some k → w0.heap.size ≤ k := fun k hk => Nat.le_trans h.le (h.row.lt k hk).1
  refine ⟨h.cur.grown hg (fun k hk => ⟨Nat.le_trans hw (hfar k hk), fun e => cell_apart hb h.row hT2 (e ▸ hk)⟩), grownBy_far h.grown hg hfar, ⟨vs, ho.kept hg ?_, hr.kept hg (fun j u g hu hb e => ?_), hlt⟩, ?_, h.le, Nat.le_trans h.hi hg.size⟩
  · cases hb : vo.ownBlock with
    | none => exact Or.inl rfl
    | some b => exact Or.inr (fun e => owns_apart h.row ho hT b e.symm hb)
  · have := hlt j u g hu hb
    have := (h.row.lt g e).1
    omega
  · have e : (row ++ [f]).length = row.length + 1 := by simp
    rw [e, show strCells (row ++ [f]) = strCells row ++ [.string ⟨f.toArray⟩] by simp [strCells]]
    exact ho'
theorem DrSt.push {W w0 wr w' : World} {p lo : Nat} {vo vr vo' : Value} {rows : List (List (List UInt8))} {row : List (List UInt8)} {vs : List Value} (h : DrSt W w0 wr p lo vo vr rows row) (hw : W.heap.size ≤ w0.heap.size) (ho : wr.ownsRow w0.heap.size 45 1 vo rows.length vs) (hr : RowsOwn wr w0.heap.size 9 vs (rows.map strCells)) (hlt : ∀ (j : Nat) x g, vs[j]? = some x → x.ownBlock = some g → g < lo)
    (hg : wr.grownBy w' vo.ownBlock) (ho' : w'.ownsRow w0.heap.size 45 1 vo' (rows.length + 1) (vs ++ [vr])) : DrO W w0 w' p vo' (rows ++ [row]) := by
  obtain ⟨cs, hb⟩ := h.cur.blk
  have hT : 9 ≠ 45 := by decide
  have hT2 : 45 ≠ 66 := by decide
  have hfar : ∀ k, vo.ownBlock = some k → w0.heap.size ≤ k := fun k hk => (ho.lt k hk).1
  have hu : w'.ownsRow w0.heap.size 9 1 vr (strCells row).length (strCells row) := by
    rw [strCells_len]
    refine World.ownsRow.mono (h.row.kept hg ?_) h.le
    cases hb : vr.ownBlock with
    | none => exact Or.inl rfl
    | some b => exact Or.inr (fun e => owns_apart h.row ho hT b hb e.symm)
  refine ⟨h.cur.grown hg (fun k hk => ⟨Nat.le_trans hw (hfar k hk), fun e => cell_apart hb ho hT2 (e ▸ hk)⟩), grownBy_far h.grown hg hfar, vs ++ [vr], ?_, ?_⟩
  · rw [show (rows ++ [row]).length = rows.length + 1 by simp]
    exact ho'
  · rw [show (rows ++ [row]).map strCells = rows.map strCells ++ [strCells row] by simp]
    exact (hr.outer ho hT hg).snoc (lo := lo) hu hlt (fun g hg => (h.row.lt g hg).1)
theorem SSOwn.mono {w : World} {base base' : Nat} {v : Value} {L : List (List (List UInt8))} (h : SSOwn w base v L) (hb : base' ≤ base) : SSOwn w base' v L := by
  obtain ⟨vs, ho, hr⟩ := h
  exact ⟨vs, World.ownsRow.mono ho hb, hr.1, fun j u c hu hc => World.ownsRow.mono (hr.2.1 j u c hu hc) hb, hr.2.2⟩
theorem drO_form {W w0 wr : World} {p : Nat} {vo : Value} {rows : List (List (List UInt8))} (h : DrO W w0 wr p vo rows) : ∃ a c, vo = .slice a rows.length c := by
  obtain ⟨vs, ho, _⟩ := h.out
  exact owns_form ho
theorem drO_start {W w0 : World} {p : Nat} (hc : Cur W w0 p) : DrO W w0 (w0.alloc (.cells #[] 45)) p (.slice (some ⟨w0.heap.size, 0, none⟩) 0 0) [] :=
  ⟨hc.alloc _, grownBy_alloc _ _ _, [], by simpa using World.ownsRow_made (base := w0.heap.size) (e := 45) (size := 1) w0 #[] 0 (Nat.le_refl _) (by unfold maxLen; omega) (by simp), RowsOwn.nil _ _ _⟩

/-- Rows as they are drawn: few, none empty, their texts short. -/
def RowsGood (n : Nat) (rows : List (List (List UInt8))) : Prop := rows.length ≤ n ∧ ∀ r ∈ rows, r ≠ [] ∧ r.length ≤ 3 ∧ ∀ p ∈ r, p.length ≤ 10
theorem rowsGood_snoc {n : Nat} {rows : List (List (List UInt8))} {row : List (List UInt8)} (h : RowsGood n rows) (h0 : row ≠ []) (h1 : row.length ≤ 3) (h2 : ∀ p ∈ row, p.length ≤ 10) : RowsGood (n + 1) (rows ++ [row]) := by
  refine ⟨by simp; exact h.1, fun r hr => ?_⟩
  rcases List.mem_append.1 hr with hr | hr
  · exact h.2 r hr
  · obtain rfl : r = row := by simpa using hr
    exact ⟨h0, h1, h2⟩
/-- What a draw of rows answers. -/
def RowsOut (W w0 : World) (p : Nat) (e : Ending) (w' : World) : Prop := ∃ v rows, e = .returned v ∧ DrO W w0 w' p v rows ∧ RowsGood 3 rows

set_option maxRecDepth 100000 in
set_option maxHeartbeats 4000000 in
theorem l7Rows (W w : World) (p : Nat) (hc : Cur W w p) :
    Calls Tryd.prog 25 #[.pointer (some ⟨p, 0, none⟩)] w fun e w' => RowsOut W w p e w' := by
  obtain ⟨i1, hi, hz0, hz1, hz2⟩ := info_parts infoStr
  obtain ⟨i2, hj9, hy0, hy1, hy2⟩ := info_parts infoSlS
  have hW : W.heap.size ≤ w.heap.size := hc.2.1.size
  have hO0 := drO_start hc
  go_enter Tryd.func25, Tryd.ntmps25
  go_wp2_with fail
  refine (l1Below W _ p 4 (by omega) (by omega) (hc.alloc _)).mono ?_
  rintro e w1 ⟨⟨n, hn, rfl⟩, hc1, hg1⟩
  have hO1 := hO0.next hc1 hg1
  clear hO0 hc1 hg1 hc
  go_wp2_with fail
  go_loopg [3, 5, 6, 7, 8] n (fun g vo i _ _ _ wr => ∃ (j : Nat) (rows : List (List (List UInt8))), g = n - j ∧ i = .int .i64 j ∧ j ≤ n ∧ rows.length ≤ j ∧ RowsGood j rows ∧ DrO W w wr p vo rows)
  case atStart => exact ⟨0, [], rfl, rfl, Nat.zero_le _, Nat.zero_le _, ⟨Nat.zero_le _, by simp⟩, hO1⟩
  case round =>
    clear hO1
    obtain ⟨j, rows, rfl, rfl, hj, hrl, hgood, hO⟩ := hrel
    have HGood := Lib.hid hgood
    clear hgood
    by_cases hlt : j < n
    · have hj1 : (j : Int) < n := by omega
      obtain ⟨ao, co, hvo⟩ := drO_form hO
      subst hvo
      obtain ⟨lo0, hC0⟩ : ∃ lo0, DrSt W w (wr.alloc (.cells #[] 9)) p lo0 (.slice ao rows.length co) (.slice (some ⟨wr.heap.size, 0, none⟩) 0 0) rows [] := ⟨_, hO.start⟩
      clear hO
      go_wp2_with fail
      refine (l1Below W _ p 3 (by omega) (by omega) hC0.cur).mono ?_
      rintro e w2 ⟨⟨m, hm, rfl⟩, hc2, hg2⟩
      have hC2 := hC0.next hc2 hg2
      clear hC0 hc2 hg2
      go_wp2_with fail
      go_loopg [6, 8] (m + 1) (fun g vr k wi => ∃ (q : Nat) (row : List (List UInt8)), g = m + 1 - q ∧ k = .int .i64 q ∧ q ≤ m + 1 ∧ row.length = q ∧ (∀ x ∈ row, x.length ≤ 10) ∧ DrSt W w wi p lo0 (.slice ao rows.length co) vr rows row)
      case atStart => exact ⟨0, [], rfl, rfl, Nat.zero_le _, rfl, by simp, hC2⟩
      case round =>
        clear hC2
        obtain ⟨q, row, rfl, rfl, hq, hrw, hx, hC⟩ := hrel
        have HX := Lib.hid hx
        have HRW := Lib.hid hrw
        have hrw9 : row.length ≤ 3 := by omega
        obtain ⟨ar, cr, hvr⟩ := owns_form hC.row
        subst hvr
        clear hx hrw
        by_cases hqm : q < m + 1
        · have hq1 : (q : Int) < 1 + m := by omega
          have hne : wr.heap.size ≠ p := by have := hC.cur.lt; omega
          go_wp2_with fail
          refine (l1Pick W _ p wr.heap.size 10 10 (by omega) (by omega) hne ?_ (hC.cur.alloc _)).mono ?_
          · refine strList 10 ?_ ?_
            · rfl
            · decide
          rintro e w3 ⟨⟨s, hs, rfl⟩, hc3, hg3⟩
          obtain ⟨f, rfl⟩ : ∃ f : List UInt8, s = ⟨f.toArray⟩ := ⟨s.data.toList, (mk_toList s).symm⟩
          have hfl : f.length ≤ 10 := by simpa [ByteArray.size] using hs
          have hC3 := (hC.laid _).next hc3 hg3
          clear hC hc3 hg3 hs
          go_wp2_with (at_builtin; refine wpList_append_own _ rfl _ _ 45 rfl lo0 9 i1 (.string ByteArray.empty) 1 16 Tryd.underlying45 hi hz0 hz1 hz2 rfl (by decide) _ _ _ rfl (hC3.row.alloc _) ⟨w3.heap.size, 0, none⟩ 1 1 [.string ⟨f.toArray⟩] rfl rfl ?a1 ?a2 ?a3 ?a4 ?a5 ?_)
          try (case a1 => exact news_one)
          case a2 => first | (intro u hu; simp at hu; subst hu; rfl) | rfl
          case a3 => unfold maxLen; omega
          case a4 => omega
          case a5 => have := hC3.hi; simp; omega
          intro v4 w4 hown4 hg4 _
          have HC := Lib.hid ((hC3.laid _).app hW hg4 hown4)
          have HX2 : Hid (∀ x ∈ row ++ [f], x.length ≤ 10) := Lib.hid (fun x hx => by
            rcases List.mem_append.1 hx with hx | hx
            · exact HX.out x hx
            · obtain rfl : x = f := by simpa using hx
              exact hfl)
          clear hown4 hg4 hC3
          go_wp2_with fail
          go_roundg (m + 1 - (q + 1))
          case measure => omega
          case rel => exact ⟨q + 1, row ++ [f], rfl, by go_num, by omega, by have := HRW.out; simp; omega, HX2.out, HC.out⟩
        · have hq1 : ¬ (q : Int) < 1 + m := by omega
          have hrow0 : Hid (row ≠ []) := Lib.hid (by
            intro e
            have := HRW.out
            rw [e] at this
            simp at this
            omega)
          obtain ⟨vs, hvo, hvr, hvl⟩ := hC.out
          go_wp2_with (at_builtin; refine wpList_append_own _ rfl _ _ 24 rfl w.heap.size 45 i2 (.slice none 0 0) 1 24 Tryd.underlying24 hj9 hy0 hy1 hy2 rfl (by decide) _ _ _ rfl (hvo.alloc _) ⟨wr.heap.size, 0, none⟩ 1 1 [.slice ar row.length cr] rfl rfl ?b1 ?b2 ?b3 ?b4 ?b5 ?_)
          try (case b1 => exact news_one)
          case b2 => first | (intro u hu; simp at hu; subst hu; rfl) | rfl
          case b3 => unfold maxLen; omega
          case b4 => omega
          case b5 => have := hC.le; have := hC.hi; simp; omega
          intro v3 w3 hown3 hg3 _
          have hAl : Below wr.heap.size wr (wr.alloc (.cells #[.slice ar row.length cr] 45)) := (Below.refl _ _).alloc (Nat.le_refl _) _
          have HO := Lib.hid ((hC.laid _).push hW (hvo.alloc _) (hvr.below hAl) hvl hg3 hown3)
          have HG := Lib.hid (rowsGood_snoc HGood.out hrow0.out hrw9 HX.out)
          clear hown3 hg3 hAl hC hvo hvr hvl
          go_wp2_with fail
          go_roundg (n - (j + 1))
          case measure => omega
          case rel => exact ⟨j + 1, rows ++ [row], rfl, by go_num, by omega, by simp only [List.length_append, List.length_singleton]; omega, HG.out, HO.out⟩
    · have hj1 : ¬ (j : Int) < n := by omega
      have HO := Lib.hid hO
      clear hO
      go_wp2_with fail
      go_ret
      exact ⟨_, rows, rfl, HO.out, ⟨by omega, HGood.out.2⟩⟩

set_option maxRecDepth 100000 in
theorem drawCsvText (w : World) (v : Value) (n : Nat) (hb : Bytes w v n) :
    Calls Tryd.prog 9 #[v] w fun e w' => (∃ u rows, e = .returned u ∧ SSOwn w' w.heap.size u rows ∧ RowsGood 3 rows) ∧ Below w.heap.size w w' := by
  go_enter Tryd.func9, Tryd.ntmps9
  go_wp2_with fail
  refine (l1New w v n hb).mono ?_
  rintro e w1 ⟨rfl, hc1, hB1⟩
  go_wp2_with fail
  refine (l7Rows w _ _ hc1).mono ?_
  rintro e w2 ⟨u, rows, rfl, hO, hg⟩
  have ho := hO.out.mono hB1.size
  have hB := cur_below hO.cur
  go_wp2_with fail
  go_ret
  exact ⟨⟨u, rows, rfl, ho, hg⟩, hB⟩
end Go.Proofs.YtklhkebpgoajgaaDoor
