/-
  A whole draw: every draw answers an int.
  What an argument of bytes gives the walks; the law's own look at its size.
  The digits of an int by the reference, and their draw (where the program's own digits are not asked).
  What an argument that is a struct of a sign and two halves gives the walks.
  What impl.Digits answers, at every integer: the decimal numeral.
  The draws of chapter 2: two numbers, three numbers.
  What an argument that is a fraction gives the walks.
  What spec.IntText answers, at every string.
  What impl's parser of integers does: it hands the integer back, or it panics.
  What impl.IntText answers, at every string: it recovers what the parser panics with.
  What impl.Number and spec.Number answer, at every string.
  The walks of the laws on Number and IntText.
  The program's Number of the text of a number, in every world behind.
-/
import Derived.Test.YtapdocfifgnjgaaDoorDraw
import Derived.OpenShut
import Derived.Lib.ItoaMem
import Derived.Carry
import Derived.SizedLaws
import Derived.Test.YtapdocfifgnjgaaDoorPk1
import Derived.Deep.Strs
import Derived.ChangeSame
import Derived.Test.YtapdocfifgnjgaaDoorShItoa
import Derived.Lib.AppendIntMem
import Derived.WalkSmall
import Derived.OwnWalk
import Derived.Test.YtapdocfifgnjgaaDoorShAtoi
import Derived.Defers
import Derived.Recover
import Derived.WalkLawsBesides
import Derived.Lib.AtoiAllCases
namespace Go.Proofs.YtapdocfifgnjgaaDoor
open Go.RowKit

/-- A literal list of ints. -/
theorem intList {w : World} {cs : Array Value} {T : TypeId} {n : Nat} (hn : n = cs.size) (h : cs.toList.all (fun v => match v with | .int .i64 z => decide (-9223372036854775808 ≤ z) && decide (z ≤ 9223372036854775807) | _ => false) = true) :
    ∀ j, j < n → ∃ z : Int, -9223372036854775808 ≤ z ∧ z ≤ 9223372036854775807 ∧ (w.alloc (.cells cs T)).cell? ⟨w.heap.size, j, none⟩ = some (.int .i64 z) := by
  subst hn
  intro j hj
  have hb : (w.alloc (.cells cs T)).heap[w.heap.size]? = some (.cells cs T (0, 0)) := by
    show (w.heap.push _)[w.heap.size]? = _
    simp
  rw [cell_blk hb]
  have hm : cs[j] ∈ cs.toList := by simp
  have h1 := List.all_eq_true.1 h _ hm
  rw [Array.getElem?_eq_getElem hj]
  split at h1
  · rename_i z hz
    simp only [Bool.and_eq_true, decide_eq_true_eq] at h1
    exact ⟨z, h1.1, h1.2, by rw [hz]⟩
  · cases h1
theorem strList {w : World} {cs : Array Value} {T : TypeId} {n : Nat} (M : Nat) (hn : n = cs.size) (h : cs.toList.all (fun v => match v with | .string s => decide (s.size ≤ M) | _ => false) = true) :
    ∀ j, j < n → ∃ s : ByteArray, s.size ≤ M ∧ (w.alloc (.cells cs T)).cell? ⟨w.heap.size, j, none⟩ = some (.string s) := by
  subst hn
  intro j hj
  have hb : (w.alloc (.cells cs T)).heap[w.heap.size]? = some (.cells cs T (0, 0)) := by
    show (w.heap.push _)[w.heap.size]? = _
    simp
  rw [cell_blk hb]
  have hm : cs[j] ∈ cs.toList := by simp
  have h1 := List.all_eq_true.1 h _ hm
  rw [Array.getElem?_eq_getElem hj]
  split at h1
  · rename_i z hz
    exact ⟨z, of_decide_eq_true h1, by rw [hz]⟩
  · cases h1

/-- The cursor stands while a new block is laid. -/
theorem Cur.alloc {W w : World} {p : Nat} (h : Cur W w p) (o : Obj) : Cur W (w.alloc o) p := by
  obtain ⟨hp, hB, v, n, i, x, hb, hi, h0, h1, hblk⟩ := h
  have hlt : p < w.heap.size := by
    rcases Nat.lt_or_ge p w.heap.size with hl | hl
    · exact hl
    · rw [Array.getElem?_eq_none hl] at hblk; cases hblk
  exact ⟨hp, hB.alloc hB.size o, v, n, i, x, hb, hi, h0, h1, (Below.heap_alloc w o p hlt).trans hblk⟩
theorem Cur.lt {W w : World} {p : Nat} (h : Cur W w p) : p < w.heap.size := by
  obtain ⟨hp, hB, v, n, i, x, hb, hi, h0, h1, hblk⟩ := h
  rcases Nat.lt_or_ge p w.heap.size with hl | hl
  · exact hl
  · rw [Array.getElem?_eq_none hl] at hblk; cases hblk

theorem grownBy_alloc (w : World) (o : Obj) (r : Option Nat) : w.grownBy (w.alloc o) r :=
  ⟨rfl, rfl, rfl, by simp, fun i hi _ => Below.heap_alloc w o i hi⟩

set_option maxRecDepth 100000 in
set_option maxHeartbeats 2000000 in
theorem l1WholeG (W w : World) (p : Nat) (hc : Cur W w p) :
    Calls Tryd.prog 29 #[.pointer (some ⟨p, 0, none⟩)] w fun e w' => IntOut e ∧ Cur W w' p ∧ w.grownBy w' (some p) := by
  go_enter Tryd.func29, Tryd.ntmps29
  go_wp2_with fail
  refine (l1Below W _ p 4 (by omega) (by omega) hc).mono ?_
  rintro e w1 ⟨⟨m, hm, rfl⟩, hc1, hg1⟩
  have HG1 := Lib.hid hg1
  clear hg1
  have hm4 : m = 0 ∨ m = 1 ∨ m = 2 ∨ m = 3 := by omega
  rcases hm4 with rfl | rfl | rfl | rfl
  · have hne : w1.heap.size ≠ p := by have := hc1.lt; omega
    go_wp2_with fail
    refine (l1PickInt W _ p w1.heap.size 14 (by omega) (by omega) hne ?_ (hc1.alloc _)).mono ?_
    · refine intList ?_ ?_
      · rfl
      · decide
    rintro e w2 ⟨⟨z, z0, z1, rfl⟩, hc2, hg2⟩
    have HG2 := Lib.hid (grownBy_trans HG1.out (grownBy_trans (grownBy_alloc _ _ _) hg2))
    clear hg2
    go_wp2_with fail
    go_ret
    exact ⟨⟨_, z0, z1, rfl⟩, hc2, HG2.out⟩
  · go_wp2_with fail
    go_loopw [3, 4] (fun n i wr => ∃ (k : Nat) (z : Int), k ≤ 8 ∧ i = .int .i64 k ∧ -9223372036854775808 ≤ z ∧ z ≤ 9223372036854775807 ∧ n = .int .i64 z ∧ Cur W wr p ∧ w.grownBy wr (some p)) (fun _ i _ => 8 - (intOf i).toNat)
    case atStart => exact ⟨0, 0, by omega, rfl, by omega, by omega, rfl, hc1, HG1.out⟩
    case round =>
      obtain ⟨k, z, hk, rfl, hz0, hz1, rfl, hcr, hgr⟩ := hrel
      have HGR := Lib.hid hgr
      clear hgr
      by_cases hlt : k < 8
      · have hk8 : (k : Int) < 8 := by omega
        go_wp2_with fail
        refine (l1Byte W _ p hcr).mono ?_
        rintro e w2 ⟨⟨b, hb, rfl⟩, hc2, hg2⟩
        have HG2 := Lib.hid (grownBy_trans HGR.out hg2)
        clear hg2
        go_wp2_with fail
        go_roundw
        case rel => exact ⟨k + 1, _, by omega, by go_num, (wrap64_bounds _).1, (wrap64_bounds _).2, rfl, hc2, HG2.out⟩
        case measure => simp [intOf]; omega
      · have hk8 : ¬ (k : Int) < 8 := by omega
        go_wp2_with fail
        go_ret
        exact ⟨⟨_, hz0, hz1, rfl⟩, hcr, HGR.out⟩
  · go_wp2_with fail
    refine (l1Below W _ p 1000000 (by omega) (by omega) hc1).mono ?_
    rintro e w2 ⟨⟨m, hm, rfl⟩, hc2, hg2⟩
    have HG2 := Lib.hid (grownBy_trans HG1.out hg2)
    clear hg2
    go_wp2_with fail
    go_ret
    exact ⟨⟨_, by omega, by omega, rfl⟩, hc2, HG2.out⟩
  · go_wp2_with fail
    refine (l1Below W _ p 41 (by omega) (by omega) hc1).mono ?_
    rintro e w2 ⟨⟨m, hm, rfl⟩, hc2, hg2⟩
    have HG2 := Lib.hid (grownBy_trans HG1.out hg2)
    clear hg2
    go_wp2_with fail
    go_ret
    exact ⟨⟨_, by omega, by omega, rfl⟩, hc2, HG2.out⟩
theorem l1Whole (W w : World) (p : Nat) (hc : Cur W w p) :
    Calls Tryd.prog 29 #[.pointer (some ⟨p, 0, none⟩)] w fun e w' => IntOut e ∧ Cur W w' p :=
  (l1WholeG W w p hc).mono fun _ _ h => ⟨h.1, h.2.1⟩

/-- What a whole draw does: it answers, and nothing that was there has turned. -/
theorem cur_below {W w : World} {p : Nat} (h : Cur W w p) : Below W.heap.size W w := h.2.1

end Go.Proofs.YtapdocfifgnjgaaDoor
namespace Go.Proofs.YtapdocfifgnjgaaDoor
open Go.ChangeShapes Go.WideShapes Go.ChangeAt Go.RowKit

theorem Bytes.mono {w w' : World} {v : Value} {n : Nat} (h : Bytes w v n) (hB : Below w.heap.size w w') : Bytes w' v n := by
  rcases h with ⟨c, rfl, rfl⟩ | ⟨a, c, rfl, rfl⟩ | ⟨b, off, c, rfl, hn, hcell⟩
  · exact Or.inl ⟨c, rfl, rfl⟩
  · exact Or.inr (Or.inl ⟨a, c, rfl, rfl⟩)
  · refine Or.inr (Or.inr ⟨b, off, c, rfl, hn, fun j hj => ?_⟩)
    obtain ⟨hb, z, z0, z1, hz⟩ := hcell j hj
    exact ⟨Nat.lt_of_lt_of_le hb hB.size, z, z0, z1, (hB.cell (p := ⟨b, off + j, none⟩) hb).trans hz⟩

theorem Bytes.shape {w : World} {v : Value} {n : Nat} (h : Bytes w v n) : ∃ a c, v = .slice a n c := by
  rcases h with ⟨c, rfl, rfl⟩ | ⟨a, c, rfl, rfl⟩ | ⟨b, off, c, rfl, _, _⟩
  · exact ⟨_, _, rfl⟩
  · exact ⟨_, _, rfl⟩
  · exact ⟨_, _, rfl⟩

theorem big_yes (w : World) (v : Value) (n : Nat) (hb : Bytes w v n) (h : 1048576 < n) :
    Calls Tryd.prog 6 #[v] w fun e w' => e = .returned (.bool true) ∧ w = w' := by
  have hn : (1048576 : Int) < n := by omega
  obtain ⟨a, c, rfl⟩ := hb.shape
  clear hb
  go_enter Tryd.func6, Tryd.ntmps6
  go_wp2
  go_ret
  exact ⟨by first | (simp; done) | (simp; omega), rfl⟩
theorem big_no (w : World) (v : Value) (n : Nat) (hb : Bytes w v n) (h : ¬ 1048576 < n) :
    Calls Tryd.prog 6 #[v] w fun e w' => e = .returned (.bool false) ∧ w = w' := by
  have hn : ¬ (1048576 : Int) < n := by omega
  obtain ⟨a, c, rfl⟩ := hb.shape
  clear hb
  go_enter Tryd.func6, Tryd.ntmps6
  go_wp2
  go_ret
  exact ⟨by first | (simp; done) | (simp; omega), rfl⟩

theorem bt {a b c : World} (h : Below a.heap.size a b) (k : Below b.heap.size b c) : Below a.heap.size a c := h.trans (k.mono h.size)

theorem laidOut : laidOutB Tryd.prog = true := by kernel_rfl
theorem cellsU8 : Tryd.prog.cellsOf 5 = 1 := by kernel_rfl
theorem bytesU8 : Tryd.prog.bytesOf 5 = 1 := by kernel_rfl

theorem bytes_read {H : Type} {enc : TypeId × Value → H} {W : World} {sp : Nat → Bool} {a : Option Addr} {n c : Nat} {d : DataW H} {p : List MemPlace}
    (h : DataW.Trod enc Tryd.prog W 0 sp true 22 (.slice a n c) d p) (hr : ∀ l s, d = .slice l s → l.length ≤ 140737488355328) (hsp : ∀ b, sp b = true := by intro _; rfl) : Bytes W (.slice a n c) n := by
  obtain ⟨fuel, hf⟩ := h
  rcases open_ints Tryd.underlying22 Tryd.underlying5 cellsU8 hf with ⟨hcs, hx⟩ | ⟨a', len', cap', zs, hcs, _, hl, hm, hz, hx, hcell, hwz⟩
  · simp [Value.cells] at hcs
    obtain ⟨rfl, rfl, rfl⟩ := hcs
    exact Or.inl ⟨0, rfl, rfl⟩
  · simp [Value.cells] at hcs
    obtain ⟨rfl, rfl, rfl⟩ := hcs
    simp only [Prod.mk.injEq] at hx
    obtain ⟨rfl, rfl⟩ := hx
    simp only [hsp, if_true] at hz
    have hn := hr _ _ rfl
    simp only [lits, List.length_map, List.length_take] at hn
    by_cases h0 : n = 0
    · subst h0
      exact Or.inr (Or.inl ⟨a', c, rfl, rfl⟩)
    · obtain ⟨b, off, spot⟩ := a'
      have hspot : spot = none := by simpa [Addr.add] using World.cell?_spot (hcell 0 (by omega))
      subst hspot
      refine Or.inr (Or.inr ⟨b, off, c, rfl, by omega, fun j hj => ?_⟩)
      have hc := hcell j (by omega)
      rw [Lib.add_plain] at hc
      have hw := bounds_u8 (hwz (zs.getD j 0) (by
        rw [List.getD_eq_getElem?_getD, List.getElem?_eq_getElem (by omega)]
        simp))
      exact ⟨World.block_lt_of_cell? W _ hc, zs.getD j 0, hw.1, hw.2, hc⟩
end Go.Proofs.YtapdocfifgnjgaaDoor
namespace Go.Proofs.YtapdocfifgnjgaaDoor
open Go.RowKit

theorem specDigits_zero (w : World) :
    Calls Tryd.prog 39 #[.int .i64 0] w fun e w' => e = .returned (.string ⟨#[48]⟩) ∧ w = w' := by
  go_enter Tryd.func39, Tryd.ntmps39
  go_wp2
  go_ret
  exact ⟨rfl, rfl⟩

theorem specDigits (n : Int) (h0 : -9223372036854775808 ≤ n) (h1 : n ≤ 9223372036854775807) (w : World) :
    Calls Tryd.prog 39 #[.int .i64 n] w fun e w' => e = .returned (.string ⟨(Lib.itoa n).toArray⟩) ∧ Below w.heap.size w w' := by
  by_cases hz : n = 0
  · subst hz
    refine (specDigits_zero w).mono fun e w' ⟨he, hw⟩ => ⟨?_, hw ▸ Below.refl _ _⟩
    rw [he]
    have : Lib.itoa 0 = [48] := by
      have := Lib.itoa_nonneg 0
      rw [Lib.decDigits_one (by omega)] at this
      exact this
    rw [this]
  · by_cases hp : 0 ≤ n
    · obtain ⟨u, rfl⟩ := Int.eq_ofNat_of_zero_le hp
      rw [Lib.itoa_nonneg]
      exact specDigits_pos u (by omega) (by omega) w
    · obtain ⟨u, hu⟩ : ∃ u : Nat, n = -(u : Int) := ⟨n.natAbs, by omega⟩
      subst hu
      rw [Lib.itoa_neg u (by omega)]
      exact specDigits_neg u (by omega) (by omega) w

end Go.Proofs.YtapdocfifgnjgaaDoor
namespace Go.Proofs.YtapdocfifgnjgaaDoor
open Go.ChangeShapes Go.WideShapes Go.ChangeAt Go.RowKit Go.Deep

theorem cellsWideL : Tryd.prog.cellsOf 46 = 3 := by kernel_rfl
theorem cellsBool : Tryd.prog.cellsOf 4 = 1 := by kernel_rfl
theorem cellsU64W : Tryd.prog.cellsOf 24 = 1 := by kernel_rfl
set_option maxRecDepth 100000 in
theorem wide_read {H : Type} {enc : TypeId × Value → H} {W : World} {sp : Nat → Bool} {r : Reach} {b0 : Nat} {v : Value} {d : DataW H} {p : List MemPlace}
    (hval : Value.okWide Tryd.prog W r b0 46 v) (h : DataW.Trod enc Tryd.prog W 0 sp true 46 v d p) :
    ∃ (n : Bool) (x y : Int), v = .agg #[.bool n, .int .u64 x, .int .u64 y] ∧ d = .agg [.lit (.bool n), .lit (.int .u64 x), .lit (.int .u64 y)] ∧ p = [] ∧ (Lit.int .u64 x).wf = true ∧ (Lit.int .u64 y).wf = true := by
  obtain ⟨cs, rfl, hsz⟩ := okWide_struct Tryd.underlying46 hval
  rw [cellsWideL] at hsz
  obtain ⟨l⟩ := cs
  match l, hsz with
  | [c0, c1, c2], _ =>
    obtain ⟨fuel, hf⟩ := h
    obtain ⟨y0, y1, y2, m, hx, _, hy0, hy1, hy2⟩ := trod_struct3 Tryd.underlying46 hf
    obtain ⟨a, e0, rfl⟩ := DataW.trod_bool Tryd.underlying4 hy0
    obtain ⟨b, e1, rfl, wb⟩ := DataW.trod_int Tryd.underlying24 hy1
    obtain ⟨c, e2, rfl, wc⟩ := DataW.trod_int Tryd.underlying24 hy2
    simp [Value.cells, cellsBool, cellsU64W] at e0 e1 e2
    subst e0 e1 e2
    simp only [Prod.mk.injEq] at hx
    obtain ⟨rfl, rfl⟩ := hx
    exact ⟨a, b, c, rfl, rfl, rfl, wb, wc⟩

set_option maxRecDepth 100000 in
theorem wide_shut {H : Type} {enc : TypeId × Value → H} {W : World} {sp : Nat → Bool} {n : Bool} {x y : Int} (wx : (Lit.int .u64 x).wf = true) (wy : (Lit.int .u64 y).wf = true) :
    DataW.Trod enc Tryd.prog W 0 sp true 46 (.agg #[.bool n, .int .u64 x, .int .u64 y]) (.agg [.lit (.bool n), .lit (.int .u64 x), .lit (.int .u64 y)]) [] := ⟨2, by
  have f0 : DataW.trod enc Tryd.prog W 0 sp true 1 4 [.bool n] = some (.lit (.bool n), []) := by simp [DataW.trod, Tryd.underlying4]
  have f1 : DataW.trod enc Tryd.prog W 0 sp true 1 24 [.int .u64 x] = some (.lit (.int .u64 x), []) := by simp [DataW.trod, Tryd.underlying24, wx]
  have f2 : DataW.trod enc Tryd.prog W 0 sp true 1 24 [.int .u64 y] = some (.lit (.int .u64 y), []) := by simp [DataW.trod, Tryd.underlying24, wy]
  have := trod_struct3_mk (enc := enc) (w := W) (base := 0) (spare := sp) (held := true) (n := 1) (cs := [.bool n, .int .u64 x, .int .u64 y]) Tryd.underlying46 (by simp [cellsWideL]) (by simpa [cellsBool] using f0) (by simpa [cellsU64W] using f1) (by simpa [cellsU64W] using f2)
  simpa [Value.cells] using this⟩
end Go.Proofs.YtapdocfifgnjgaaDoor
namespace Go.Proofs.YtapdocfifgnjgaaDoor
open Go.RowKit

theorem tabIs_below {P : Program} {B g : Nat} {w w' : World} {n : String} {k : IntKind} {zs : List Int} (h : Lib.TabIs P w n k zs) (hb : Below B w w') (hg : P.globalNamed n = some g) (hgB : g < B) : Lib.TabIs P w' n k zs :=
  var?_below hb hg hgB h

theorem implDigits (n : Int) (h0 : -9223372036854775808 ≤ n) (h1 : n ≤ 9223372036854775807) (w : World) (htab : Lib.TabIs Tryd.prog w "internal/strconv.uint64pow10" .u64 Lib.pow10Tab) :
    Calls Tryd.prog 36 #[.int .i64 n] w fun e w' => e = .returned (.string ⟨(Lib.itoa n).toArray⟩) ∧ Below w.heap.size w w' := by
  go_enter Tryd.func36, Tryd.ntmps36
  go_wp2_with (go_at_call 65; refine (Tryd.strconv_Itoa n h0 h1 _ htab).mono ?_; rintro e w1 ⟨rfl, k, os, rfl⟩)
  go_ret
  exact ⟨rfl, Lib.below_grow _ _ (Nat.le_refl _) _ _⟩
end Go.Proofs.YtapdocfifgnjgaaDoor
namespace Go.Proofs.YtapdocfifgnjgaaDoor
open Go.RowKit

def TwoOut (e : Ending) : Prop := ∃ a b : Int, (-9223372036854775808 ≤ a ∧ a ≤ 9223372036854775807) ∧ (-9223372036854775808 ≤ b ∧ b ≤ 9223372036854775807) ∧ e = .returned (.tuple #[.int .i64 a, .int .i64 b])

def ThreeOut (e : Ending) : Prop := ∃ a b c : Int, e = .returned (.tuple #[.int .i64 a, .int .i64 b, .int .i64 c])
end Go.Proofs.YtapdocfifgnjgaaDoor
namespace Go.Proofs.YtapdocfifgnjgaaDoor
open Go.ChangeShapes Go.WideShapes Go.ChangeAt Go.RowKit Go.Deep

theorem cellsFracL : Tryd.prog.cellsOf 48 = 4 := by kernel_rfl
theorem cellsIntF : Tryd.prog.cellsOf 3 = 1 := by kernel_rfl
set_option maxRecDepth 100000 in
theorem frac_read {H : Type} {enc : TypeId × Value → H} {W : World} {sp : Nat → Bool} {r : Reach} {b0 : Nat} {v : Value} {d : DataW H} {p : List MemPlace}
    (hval : Value.okWide Tryd.prog W r b0 48 v) (h : DataW.Trod enc Tryd.prog W 0 sp true 48 v d p) :
    ∃ (n : Bool) (x y k : Int), v = .agg #[.bool n, .int .u64 x, .int .u64 y, .int .i64 k] ∧ d = .agg [.agg [.lit (.bool n), .lit (.int .u64 x), .lit (.int .u64 y)], .lit (.int .i64 k)] ∧ p = [] ∧ (Lit.int .u64 x).wf = true ∧ (Lit.int .u64 y).wf = true ∧ (Lit.int .i64 k).wf = true := by
  obtain ⟨cs, rfl, hsz⟩ := okWide_struct Tryd.underlying48 hval
  rw [cellsFracL] at hsz
  obtain ⟨l⟩ := cs
  match l, hsz with
  | [c0, c1, c2, c3], _ =>
    obtain ⟨fuel, hf⟩ := h
    obtain ⟨y0, y1, m, hx, _, hy0, hy1⟩ := trod_struct2 Tryd.underlying48 hf
    obtain ⟨z0, z1, z2, m2, hz, _, hz0, hz1, hz2⟩ := trod_struct3 Tryd.underlying46 hy0
    obtain ⟨a, e0, rfl⟩ := DataW.trod_bool Tryd.underlying4 hz0
    obtain ⟨b, e1, rfl, wb⟩ := DataW.trod_int Tryd.underlying24 hz1
    obtain ⟨c, e2, rfl, wc⟩ := DataW.trod_int Tryd.underlying24 hz2
    obtain ⟨k, e3, rfl, wk⟩ := DataW.trod_int Tryd.underlying3 hy1
    simp [Value.cells, cellsBool, cellsU64W, cellsWideL, cellsIntF] at e0 e1 e2 e3
    subst e0 e1 e2 e3
    subst hz
    simp only [Prod.mk.injEq] at hx
    obtain ⟨rfl, rfl⟩ := hx
    exact ⟨a, b, c, k, rfl, rfl, rfl, wb, wc, wk⟩

set_option maxRecDepth 100000 in
theorem frac_shut {H : Type} {enc : TypeId × Value → H} {W : World} {sp : Nat → Bool} {n : Bool} {x y k : Int} (wx : (Lit.int .u64 x).wf = true) (wy : (Lit.int .u64 y).wf = true) (wk : (Lit.int .i64 k).wf = true) :
    DataW.Trod enc Tryd.prog W 0 sp true 48 (.agg #[.bool n, .int .u64 x, .int .u64 y, .int .i64 k]) (.agg [.agg [.lit (.bool n), .lit (.int .u64 x), .lit (.int .u64 y)], .lit (.int .i64 k)]) [] := ⟨3, by
  have f0 : DataW.trod enc Tryd.prog W 0 sp true 1 4 [.bool n] = some (.lit (.bool n), []) := by simp [DataW.trod, Tryd.underlying4]
  have f1 : DataW.trod enc Tryd.prog W 0 sp true 1 24 [.int .u64 x] = some (.lit (.int .u64 x), []) := by simp [DataW.trod, Tryd.underlying24, wx]
  have f2 : DataW.trod enc Tryd.prog W 0 sp true 1 24 [.int .u64 y] = some (.lit (.int .u64 y), []) := by simp [DataW.trod, Tryd.underlying24, wy]
  have f3 : DataW.trod enc Tryd.prog W 0 sp true 2 3 [.int .i64 k] = some (.lit (.int .i64 k), []) := by simp [DataW.trod, Tryd.underlying3, wk]
  have g := trod_struct3_mk (enc := enc) (w := W) (base := 0) (spare := sp) (held := true) (n := 1) (cs := [.bool n, .int .u64 x, .int .u64 y]) Tryd.underlying46 (by simp [cellsWideL]) (by simpa [cellsBool] using f0) (by simpa [cellsU64W] using f1) (by simpa [cellsU64W] using f2)
  have := trod_struct2_mk (enc := enc) (w := W) (base := 0) (spare := sp) (held := true) (n := 2) (cs := [.bool n, .int .u64 x, .int .u64 y, .int .i64 k]) Tryd.underlying48 (by simp [cellsFracL]) (by simpa [cellsWideL] using g) (by simpa [cellsIntF] using f3)
  simpa [Value.cells] using this⟩
end Go.Proofs.YtapdocfifgnjgaaDoor
namespace Go.Proofs.YtapdocfifgnjgaaDoor
open Go.RowKit

def ItPost (l : List UInt8) (e : Ending) : Prop :=
  (∃ n, IsNum l n ∧ e = .returned (.tuple #[.int .i64 n, .bool true])) ∨ ((∀ n, ¬ IsNum l n) ∧ e = .returned (.tuple #[.int .i64 0, .bool false]))

theorem startOf_pos {s : ByteArray} (h : 0 < s.size) : startOf s.data.toList = if (s[0].toNat) = 45 then 1 else 0 := by
  unfold startOf
  have e : s.data.toList.head? = some s[0] := by
    rw [List.head?_eq_getElem?, Array.getElem?_toList]
    exact Array.getElem?_eq_getElem h
  rw [e]
  simp
theorem at_byte {s : ByteArray} {k : Nat} (h : k < s.size) : s.data.toList[k]? = some s[k] := by
  rw [Array.getElem?_toList]
  exact Array.getElem?_eq_getElem h

theorem tdiv_min (c : Int) (h0 : 48 ≤ c) (h1 : c ≤ 57) : (-9223372036854775808 + (c - 48)).tdiv 10 = -((9223372036854775808 - (c - 48)) / 10) := by
  rw [show (-9223372036854775808 + (c - 48) : Int) = -(9223372036854775808 - (c - 48)) by omega, Int.neg_tdiv, Int.tdiv_eq_ediv_of_nonneg (by omega)]
theorem ovf_yes {v : Nat} {c : Int} (h0 : 48 ≤ c) (h1 : c ≤ 57) (h : 9223372036854775808 < (v : Int) * 10 + (c - 48)) : -(v : Int) < (-9223372036854775808 + (c - 48)).tdiv 10 := by
  rw [tdiv_min c h0 h1]; omega
theorem ovf_no {v : Nat} {c : Int} (h0 : 48 ≤ c) (h1 : c ≤ 57) (h : ¬ 9223372036854775808 < (v : Int) * 10 + (c - 48)) : ¬ -(v : Int) < (-9223372036854775808 + (c - 48)).tdiv 10 := by
  rw [tdiv_min c h0 h1]; omega
theorem itNo {l : List UInt8} (h : ∀ n, ¬ IsNum l n) : ItPost l (.returned (.tuple #[.int .i64 0, .bool false])) := Or.inr ⟨h, rfl⟩
theorem itYes {l : List UInt8} {n : Int} (h : IsNum l n) : ItPost l (.returned (.tuple #[.int .i64 n, .bool true])) := Or.inl ⟨n, h, rfl⟩

theorem strNe {l : List UInt8} {s : ByteArray} (h : l ≠ s.data.toList) : (!(l == s.toList)) = true := by
  rw [ByteArray.toList_eq]; simpa using h
theorem strEq {l : List UInt8} {s : ByteArray} (h : l = s.data.toList) : (!(l == s.toList)) = false := by
  rw [ByteArray.toList_eq]; simpa using h

theorem itLen {l : List UInt8} (h : l.length < 1 ∨ 20 < l.length) : ∀ n, ¬ IsNum l n := fun n hn => by
  have := (isNum_parts hn).2.2.2.2
  omega

end Go.Proofs.YtapdocfifgnjgaaDoor
namespace Go.Proofs.YtapdocfifgnjgaaDoor
open Go.RowKit

theorem bytesWorld_or {w w' : World} {t : TypeId} (h : w' = w ∨ ∃ n, w' = Lib.bytesWorld w t n) : Below w.heap.size w w' := by
  rcases h with rfl | ⟨n, rfl⟩
  · exact Below.refl _ _
  · exact Lib.bytesWorld_below _ _ _

set_option maxRecDepth 100000 in
set_option maxHeartbeats 1000000 in
theorem mustInt_yes (s : ByteArray) (n : Int) (hn : IsNum s.data.toList n) (w : World) (htab : Lib.TabIs Tryd.prog w "internal/strconv.uint64pow10" .u64 Lib.pow10Tab) (hg : 2 < w.heap.size) :
    Calls Tryd.prog 45 #[.string s] w fun e w' => e = .returned (.int .i64 n) ∧ Below w.heap.size w w' := by
  have hl := (isNum_parts hn).2.2.2.2.2
  have hb0 := hn.1
  have hb1 := hn.2.1
  have hsz : s.size ≤ 20 := by simpa using hl
  have hat := atoi_isNum hn
  have hne := strEq hn.2.2
  have HAT := Lib.hid hat
  clear hat hl hn
  go_enter Tryd.func45, Tryd.ntmps45
  go_wp2_with fail
  refine (Tryd.strconv_Atoi_ok s (by omega) n HAT.out _).mono ?_
  rintro e w1 ⟨rfl, hw1⟩
  have hB := bytesWorld_or hw1
  clear hw1
  go_wp2_with fail
  refine (implDigits n hb0 hb1 _ (tabIs_below htab hB gPow hg)).mono ?_
  rintro e w2 ⟨rfl, hB2⟩
  go_wp2_with fail
  go_ret
  exact ⟨rfl, hB.trans (hB2.mono hB.size)⟩

/-- strconv.Atoi at a string that it refuses. -/
theorem atoi_err (s : ByteArray) (hlim : s.size ≤ 281474976710656) (h : ∀ v, Lib.atoiAll s.data.toList ≠ .ok v) (tp tq : TypeId) (p q : Value) (w : World)
    (hv1 : w.var? Tryd.prog "strconv.ErrSyntax" = some #[.iface tp p]) (hv2 : w.var? Tryd.prog "strconv.ErrRange" = some #[.iface tq q]) :
    Calls Tryd.prog 72 #[.string s] w fun e w' => ∃ (n : Int) (N : Nat), e = .returned (.tuple #[.int .i64 n, .iface 116 (.pointer (some ⟨N, 0, none⟩))]) ∧ Below w.heap.size w w' := by
  cases hx : Lib.atoiAll s.data.toList with
  | ok v => exact absurd hx (h v)
  | range => exact (Tryd.strconv_Atoi_range_var s hlim hx tq q w hv2).mono fun e w' ⟨N, he, _, _, hb⟩ => ⟨_, N, he, hb⟩
  | _ => exact (Any.strconv_Atoi_syntax_var Tryd.laysC172 s hlim hx tp p w hv1).mono fun e w' ⟨N, he, _, _, hb⟩ => ⟨_, N, he, hb⟩

def notDigits : PanicEntry := { v := .iface 9 (.string ⟨#[110, 111, 116, 32, 116, 104, 101, 32, 100, 105, 103, 105, 116, 115, 32, 111, 102, 32, 97, 110, 32, 105, 110, 116, 101, 103, 101, 114]⟩), recovered := false }

set_option maxRecDepth 100000 in
set_option maxHeartbeats 1000000 in
theorem mustInt_no_err (s : ByteArray) (hsz : s.size ≤ 1048576) (h : ∀ v, Lib.atoiAll s.data.toList ≠ .ok v) (tp tq : TypeId) (p q : Value) (w : World)
    (hv1 : w.var? Tryd.prog "strconv.ErrSyntax" = some #[.iface tp p]) (hv2 : w.var? Tryd.prog "strconv.ErrRange" = some #[.iface tq q]) :
    Calls Tryd.prog 45 #[.string s] w fun e w' => e = .panicked [notDigits] ∧ Below w.heap.size w w' := by
  have H := Lib.hid h
  have V1 := Lib.hid hv1
  have V2 := Lib.hid hv2
  clear h hv1 hv2
  go_enter Tryd.func45, Tryd.ntmps45
  go_wp2_with fail
  refine (atoi_err s (by omega) H.out tp tq p q _ V1.out V2.out).mono ?_
  rintro e w1 ⟨n, N, rfl, hB⟩
  go_wp2_with fail
  exact ⟨rfl, rfl, hB⟩

set_option maxRecDepth 100000 in
set_option maxHeartbeats 1000000 in
theorem mustInt_no_text (s : ByteArray) (hsz : s.size ≤ 1048576) (n : Int) (h : Lib.atoiAll s.data.toList = .ok n) (hne : Lib.itoa n ≠ s.data.toList) (hb0 : -9223372036854775808 ≤ n) (hb1 : n ≤ 9223372036854775807) (w : World)
    (htab : Lib.TabIs Tryd.prog w "internal/strconv.uint64pow10" .u64 Lib.pow10Tab) (hg : 2 < w.heap.size) :
    Calls Tryd.prog 45 #[.string s] w fun e w' => e = .panicked [notDigits] ∧ Below w.heap.size w w' := by
  have H := Lib.hid h
  have hn := strNe hne
  clear h hne
  go_enter Tryd.func45, Tryd.ntmps45
  go_wp2_with fail
  refine (Tryd.strconv_Atoi_ok s (by omega) n H.out _).mono ?_
  rintro e w1 ⟨rfl, hw1⟩
  have hB := bytesWorld_or hw1
  clear hw1
  go_wp2_with fail
  refine (implDigits n hb0 hb1 _ (tabIs_below htab hB gPow hg)).mono ?_
  rintro e w2 ⟨rfl, hB2⟩
  go_wp2_with fail
  exact ⟨rfl, rfl, hB.trans (hB2.mono hB.size)⟩

theorem mustInt_no (s : ByteArray) (hsz : s.size ≤ 1048576) (h : ∀ n, ¬ IsNum s.data.toList n) (tp tq : TypeId) (p q : Value) (w : World)
    (htab : Lib.TabIs Tryd.prog w "internal/strconv.uint64pow10" .u64 Lib.pow10Tab) (hg : 2 < w.heap.size)
    (hv1 : w.var? Tryd.prog "strconv.ErrSyntax" = some #[.iface tp p]) (hv2 : w.var? Tryd.prog "strconv.ErrRange" = some #[.iface tq q]) :
    Calls Tryd.prog 45 #[.string s] w fun e w' => e = .panicked [notDigits] ∧ Below w.heap.size w w' := by
  by_cases hx : ∀ v, Lib.atoiAll s.data.toList ≠ .ok v
  · exact mustInt_no_err s hsz hx tp tq p q w hv1 hv2
  · obtain ⟨n, hn⟩ : ∃ n, Lib.atoiAll s.data.toList = .ok n := by
      cases hy : Lib.atoiAll s.data.toList with
      | ok v => exact ⟨v, rfl⟩
      | _ => exact absurd (fun v hv => by rw [hy] at hv; cases hv) hx
    have hb := Lib.atoiAll_bounds hn
    exact mustInt_no_text s hsz n hn (fun he => h n ⟨hb.1, hb.2, he⟩) hb.1 hb.2 w htab hg
end Go.Proofs.YtapdocfifgnjgaaDoor
namespace Go.Proofs.YtapdocfifgnjgaaDoor
open Go.RowKit
namespace Go.Proofs.YtapdocfifgnjgaaDoor
open Go.RowKit

theorem recNumber_panicking (u : TypeId) (pv : Value) (older : List PanicEntry) (w : World) :
    CallsD Tryd.prog 43 #[] (.panicking ({ v := .iface u pv, recovered := false } :: older)) w fun e u' w' =>
      e = .returned (.tuple #[]) ∧ u' = .panicking ({ v := .iface u pv, recovered := true } :: older) ∧ w' = w := by
  refine callsD_of_wpS Tryd.func43 rfl fun c₀ cs hu => ?_
  apply wpS_region
  simp [wpOpsS, go_sem, recoverD, hu, Tryd.ntmps43, bodyPostS, results, Tryd.results43]

theorem recNumber_idle (w : World) :
    CallsD Tryd.prog 43 #[] .returning w fun e u' w' => e = .returned (.tuple #[]) ∧ u' = .returning ∧ w' = w := by
  refine callsD_of_wpS Tryd.func43 rfl fun c₀ cs hu => ?_
  apply wpS_region
  simp [wpOpsS, go_sem, recoverD, hu, Tryd.ntmps43, bodyPostS, results, Tryd.results43]
  cases c₀
  simp_all

def outOfRange : PanicEntry := { v := .iface 9 (.string ⟨#[110, 117, 109, 98, 101, 114, 32, 111, 117, 116, 32, 111, 102, 32, 114, 97, 110, 103, 101]⟩), recovered := false }

theorem mustRange_yes (n lo hi : Int) (h0 : lo ≤ n) (h1 : n ≤ hi) (w : World) :
    Calls Tryd.prog 44 #[.int .i64 n, .int .i64 lo, .int .i64 hi] w fun e w' => e = .returned (.int .i64 n) ∧ w = w' := by
  have a0 : ¬ n < lo := by omega
  have a1 : ¬ hi < n := by omega
  go_enter Tryd.func44, Tryd.ntmps44
  go_wp2
  go_ret
  exact ⟨rfl, rfl⟩
theorem mustRange_no (n lo hi : Int) (h : n < lo ∨ hi < n) (w : World) :
    Calls Tryd.prog 44 #[.int .i64 n, .int .i64 lo, .int .i64 hi] w fun e w' => e = .panicked [outOfRange] ∧ w = w' := by
  by_cases a0 : n < lo
  · clear h
    go_enter Tryd.func44, Tryd.ntmps44
    go_wp2
    exact ⟨rfl, rfl, rfl⟩
  · have a1 : hi < n := by omega
    clear h
    go_enter Tryd.func44, Tryd.ntmps44
    go_wp2
    exact ⟨rfl, rfl, rfl⟩

set_option maxRecDepth 100000 in
theorem implNumber_yes (s : ByteArray) (n : Int) (hn : IsNum s.data.toList n) (h0 : 0 ≤ n) (h1 : n ≤ 999999999) (w : World) (htab : Lib.TabIs Tryd.prog w "internal/strconv.uint64pow10" .u64 Lib.pow10Tab) (hg : 2 < w.heap.size) :
    Calls Tryd.prog 19 #[.string s] w fun e w' => e = .returned (.tuple #[.int .i64 n, .bool true]) ∧ Below w.heap.size w w' := by
  go_enter_defers Tryd.func19, Tryd.ntmps19
  go_wp2_with fail
  refine (mustInt_yes s n hn _ htab hg).mono ?_
  rintro e w1 ⟨rfl, hB⟩
  go_wp2_with fail
  refine (mustRange_yes n 0 999999999 h0 h1 _).mono ?_
  rintro e w2 ⟨rfl, rfl⟩
  go_wp2_with fail
  refine leaves_cons (f := 43) (args := #[]) (by simp) (by simp [go_sem]) ?_
  refine (recNumber_idle _).mono ?_
  rintro e u' w2 ⟨rfl, rfl, rfl⟩
  simp [Leaves, settle, results, Tryd.results19, go_sem, hB]

set_option maxRecDepth 100000 in
theorem implNumber_out (s : ByteArray) (n : Int) (hn : IsNum s.data.toList n) (h : n < 0 ∨ 999999999 < n) (w : World) (htab : Lib.TabIs Tryd.prog w "internal/strconv.uint64pow10" .u64 Lib.pow10Tab) (hg : 2 < w.heap.size) :
    Calls Tryd.prog 19 #[.string s] w fun e w' => e = .returned (.tuple #[.int .i64 0, .bool false]) ∧ Below w.heap.size w w' := by
  go_enter_defers Tryd.func19, Tryd.ntmps19
  go_wp2_with fail
  refine (mustInt_yes s n hn _ htab hg).mono ?_
  rintro e w1 ⟨rfl, hB⟩
  go_wp2_with fail
  refine (mustRange_no n 0 999999999 h _).mono ?_
  rintro e w2 ⟨rfl, rfl⟩
  go_wp2_with fail
  refine leaves_cons (f := 43) (args := #[]) (by simp) (by simp [go_sem]) ?_
  refine (recNumber_panicking _ _ [] _).mono ?_
  rintro e u' w2 ⟨rfl, rfl, rfl⟩
  simp [Leaves, settle, results, Tryd.results19, go_sem, hB]

set_option maxRecDepth 100000 in
theorem implNumber_no (s : ByteArray) (hsz : s.size ≤ 1048576) (h : ∀ n, ¬ IsNum s.data.toList n) (tp tq : TypeId) (p q : Value) (w : World)
    (htab : Lib.TabIs Tryd.prog w "internal/strconv.uint64pow10" .u64 Lib.pow10Tab) (hg : 2 < w.heap.size)
    (hv1 : w.var? Tryd.prog "strconv.ErrSyntax" = some #[.iface tp p]) (hv2 : w.var? Tryd.prog "strconv.ErrRange" = some #[.iface tq q]) :
    Calls Tryd.prog 19 #[.string s] w fun e w' => e = .returned (.tuple #[.int .i64 0, .bool false]) ∧ Below w.heap.size w w' := by
  go_enter_defers Tryd.func19, Tryd.ntmps19
  go_wp2_with fail
  refine (mustInt_no s hsz h tp tq p q _ htab hg hv1 hv2).mono ?_
  rintro e w1 ⟨rfl, hB⟩
  go_wp2_with fail
  refine leaves_cons (f := 43) (args := #[]) (by simp) (by simp [go_sem]) ?_
  refine (recNumber_panicking _ _ [] _).mono ?_
  rintro e u' w2 ⟨rfl, rfl, rfl⟩
  simp [Leaves, settle, results, Tryd.results19, go_sem, hB]

/-- What Number answers. -/
def NrPost (l : List UInt8) (e : Ending) : Prop :=
  (∃ n, IsNum l n ∧ 0 ≤ n ∧ n ≤ 999999999 ∧ e = .returned (.tuple #[.int .i64 n, .bool true])) ∨ ((∀ n, IsNum l n → n < 0 ∨ 999999999 < n) ∧ e = .returned (.tuple #[.int .i64 0, .bool false]))

theorem isNum_one {l : List UInt8} {n m : Int} (h : IsNum l n) (k : IsNum l m) : n = m := by
  have a := atoi_isNum h
  have b := atoi_isNum k
  rw [a] at b
  injection b

theorem specIn_yes (x lo hi : Int) (a0 : lo ≤ x) (a1 : x ≤ hi) (w : World) :
    Calls Tryd.prog 58 #[.int .i64 x, .int .i64 lo, .int .i64 hi] w fun e w' => e = .returned (.bool true) ∧ w = w' := by
  go_enter Tryd.func58, Tryd.ntmps58
  go_wp2
  go_ret
  exact ⟨by first | (simp; done) | (simp; omega), rfl⟩
theorem specIn_no (x lo hi : Int) (h : x < lo ∨ hi < x) (w : World) :
    Calls Tryd.prog 58 #[.int .i64 x, .int .i64 lo, .int .i64 hi] w fun e w' => e = .returned (.bool false) ∧ w = w' := by
  have H := Lib.hid h
  clear h
  go_enter Tryd.func58, Tryd.ntmps58
  go_wp2
  all_goals
    go_ret
    have h := H.out
    exact ⟨by first | (simp; done) | (simp; omega), rfl⟩

end Go.Proofs.YtapdocfifgnjgaaDoor
namespace Go.Proofs.YtapdocfifgnjgaaDoor
open Go.RowKit

theorem powTable5 {r : List (String × DataW Unit)} {d1 d2 : String × DataW Unit} {W : World} (h : laidMet Tryd.prog (d1 :: d2 :: ("internal/strconv.uint64pow10", Rows.laid_internal_strconv_uint64pow10) :: r) W) : Lib.TabIs Tryd.prog W "internal/strconv.uint64pow10" .u64 Lib.pow10Tab := by
  have h2 : laidMet Tryd.prog (("internal/strconv.uint64pow10", Lib.tabData .u64 Lib.pow10Tab) :: r) W := by rw [← powData]; exact h.tail.tail
  exact Lib.tabIs_of_head gPow gPowType Tryd.underlying132 Tryd.underlying24 cellsU64 cellsPow h2

theorem implNumber (s : ByteArray) (hsz : s.size ≤ 1048576) (tp tq : TypeId) (p q : Value) (w : World)
    (htab : Lib.TabIs Tryd.prog w "internal/strconv.uint64pow10" .u64 Lib.pow10Tab) (hg : 2 < w.heap.size)
    (hv1 : w.var? Tryd.prog "strconv.ErrSyntax" = some #[.iface tp p]) (hv2 : w.var? Tryd.prog "strconv.ErrRange" = some #[.iface tq q]) :
    Calls Tryd.prog 19 #[.string s] w fun e w' => NrPost s.data.toList e ∧ Below w.heap.size w w' := by
  by_cases hx : ∃ n, IsNum s.data.toList n
  · obtain ⟨n, hn⟩ := hx
    by_cases hr : 0 ≤ n ∧ n ≤ 999999999
    · exact (implNumber_yes s n hn hr.1 hr.2 w htab hg).mono fun e w' ⟨he, hb⟩ => ⟨Or.inl ⟨n, hn, hr.1, hr.2, he⟩, hb⟩
    · have ho : n < 0 ∨ 999999999 < n := by omega
      exact (implNumber_out s n hn ho w htab hg).mono fun e w' ⟨he, hb⟩ => ⟨Or.inr ⟨fun m hm => isNum_one hn hm ▸ ho, he⟩, hb⟩
  · have hno : ∀ n, ¬ IsNum s.data.toList n := fun n hn => hx ⟨n, hn⟩
    exact (implNumber_no s hsz hno tp tq p q w htab hg hv1 hv2).mono fun e w' ⟨he, hb⟩ => ⟨Or.inr ⟨fun n hn => absurd hn (hno n), he⟩, hb⟩

/-- What IntText answers is one value. -/
theorem itPost_val {l : List UInt8} : ∃ (n : Int) (b : Bool), ∀ e, ItPost l e → e = .returned (.tuple #[.int .i64 n, .bool b]) := by
  by_cases hx : ∃ n, IsNum l n
  · obtain ⟨n, hn⟩ := hx
    refine ⟨n, true, fun e he => ?_⟩
    rcases he with ⟨m, hm, he⟩ | ⟨hno, _⟩
    · rw [he, isNum_one hn hm]
    · exact absurd hn (hno n)
  · refine ⟨0, false, fun e he => ?_⟩
    rcases he with ⟨m, hm, _⟩ | ⟨_, he⟩
    · exact absurd ⟨m, hm⟩ hx
    · exact he
theorem nrPost_val {l : List UInt8} : ∃ (n : Int) (b : Bool), ∀ e, NrPost l e → e = .returned (.tuple #[.int .i64 n, .bool b]) := by
  by_cases hx : ∃ n, IsNum l n ∧ 0 ≤ n ∧ n ≤ 999999999
  · obtain ⟨n, hn, h0, h1⟩ := hx
    refine ⟨n, true, fun e he => ?_⟩
    rcases he with ⟨m, hm, _, _, he⟩ | ⟨hno, _⟩
    · rw [he, isNum_one hn hm]
    · have := hno n hn; omega
  · refine ⟨0, false, fun e he => ?_⟩
    rcases he with ⟨m, hm, a, b, _⟩ | ⟨_, he⟩
    · exact absurd ⟨m, hm, a, b⟩ hx
    · exact he

end Go.Proofs.YtapdocfifgnjgaaDoor
namespace Go.Proofs.YtapdocfifgnjgaaDoor
open Go.RowKit

theorem numberB (w : World) (htab : Lib.TabIs Tryd.prog w "internal/strconv.uint64pow10" .u64 Lib.pow10Tab) (hg : 2 < w.heap.size) (wz : World) (hB : Below w.heap.size w wz) (s : ByteArray) (d : Int) (h : IsNum s.data.toList d) (d0 : 0 ≤ d) (d1 : d ≤ 999999999) :
    Calls Tryd.prog 19 #[.string s] wz fun e w' => e = .returned (.tuple #[.int .i64 d, .bool true]) ∧ Below wz.heap.size wz w' :=
  implNumber_yes s d h d0 d1 wz (tabIs_below htab hB gPow hg) (Nat.lt_of_lt_of_le hg hB.size)
end Go.Proofs.YtapdocfifgnjgaaDoor
