/-
  Bytes that a call gathers in a slice of its own.
  A whole draw: every draw answers an int.
  The digits of an int by the reference, and their draw (where the program's own digits are not asked).
  What impl.Digits answers, at every integer: the decimal numeral.
-/
import Derived.Test.YticeagjonfifbaaGreatDoorPk2
import Derived.Test.YticeagjonfifbaaGreatDoorPk11
import Derived.Lib.UnsafeStr
import Derived.Test.YticeagjonfifbaaGreatDoorPk9
import Derived.Test.YticeagjonfifbaaGreatDoorPk10
import Derived.Test.YticeagjonfifbaaGreatDoorShItoa
import Derived.Lib.AppendIntMem
import Derived.WalkSmall
namespace Go.Proofs.YticeagjonfifbaaGreatDoor
open Go.RowKit

/-- v is a row of the call's own, not nil, that holds the bytes l. -/
def ByRow (wr : World) (base : Nat) (v : Value) (l : List UInt8) : Prop := wr.ownsRow base 5 1 v l.length (Lib.byteCells l) ∧ ∃ g cap, v = .slice (some ⟨g, 0, none⟩) l.length cap

theorem byRow_conv {P : Program} {src dst e : TypeId} (hs : P.underlying src = some (.slice e)) (he : P.underlying e = some (.int .u8)) (hd : P.underlying dst = some .string) {wr : World} {base g n cap : Nat} {l : List UInt8}
    (h : ByRow wr base (.slice (some ⟨g, 0, none⟩) n cap) l) :
    (convert src dst (.slice (some ⟨g, 0, none⟩) n cap)).run P wr = .ok (.string ⟨l.toArray⟩) wr := by
  obtain ⟨ho, g', cap', he'⟩ := h
  injection he' with h1 h2 h3
  subst h2
  refine run_convert_bytes_back wr src dst e ⟨g, 0, none⟩ cap l hs he hd fun j hj => ?_
  have hc := ho.cells (g := g) rfl j (.int .u8 (l[j].toNat : Int)) (by unfold Lib.byteCells; rw [List.getElem?_map, List.getElem?_eq_getElem hj]; rfl)
  exact hc

theorem byRow_one {w1 : World} {base : Nat} {v1 : Value} {l : List UInt8} {c : UInt8} {z : Int} (hz : z = (c.toNat : Int)) (ho : w1.ownsRow base 5 1 v1 (l.length + 1) (Lib.byteCells l ++ [.int .u8 z])) : ByRow w1 base v1 (l ++ [c]) := by
  have e1 : (l ++ [c]).length = l.length + 1 := by simp
  have e2 : Lib.byteCells (l ++ [c]) = Lib.byteCells l ++ [.int .u8 z] := by simp [Lib.byteCells, hz]
  obtain ⟨g, cap, rfl⟩ := Joins.ownsRow_form ho (by omega)
  exact ⟨by rw [e1, e2]; exact ho, g, cap, by rw [e1]⟩
theorem byRow_str {wr w1 : World} {base : Nat} {v v1 : Value} {l : List UInt8} {s : ByteArray} (h : ByRow wr base v l) (ho : w1.ownsRow base 5 1 v1 (l.length + s.size) (Lib.byteCells l ++ Lib.strCells s)) (hn : v1 = .slice none 0 0 ↔ v = .slice none 0 0 ∧ s.size = 0) :
    ByRow w1 base v1 (l ++ s.data.toList) := by
  obtain ⟨_, g, cap, rfl⟩ := h
  have e1 : (l ++ s.data.toList).length = l.length + s.size := by rw [List.length_append, Lib.size_eq]
  have e2 : Lib.byteCells (l ++ s.data.toList) = Lib.byteCells l ++ Lib.strCells s := by rw [Lib.strCells_eq]; simp [Lib.byteCells]
  refine ⟨by rw [e1, e2]; exact ho, ?_⟩
  rw [e1]
  rcases ho.2 with ⟨h0, _⟩ | ⟨g', cap', cur, h0, _⟩
  · have := hn.1 h0
    cases this.1
  · exact ⟨g', cap', h0⟩
theorem byRow_strN {w1 : World} {base : Nat} {v1 : Value} {l : List UInt8} {s : ByteArray} (ho : w1.ownsRow base 5 1 v1 (l.length + s.size) (Lib.byteCells l ++ Lib.strCells s)) (hn : ¬ v1 = .slice none 0 0) :
    ByRow w1 base v1 (l ++ s.data.toList) := by
  have e1 : (l ++ s.data.toList).length = l.length + s.size := by rw [List.length_append, Lib.size_eq]
  have e2 : Lib.byteCells (l ++ s.data.toList) = Lib.byteCells l ++ Lib.strCells s := by rw [Lib.strCells_eq]; simp [Lib.byteCells]
  refine ⟨by rw [e1, e2]; exact ho, ?_⟩
  rw [e1]
  rcases ho.2 with ⟨h0, _⟩ | ⟨g', cap', cur, h0, _⟩
  · exact absurd h0 hn
  · exact ⟨g', cap', h0⟩
theorem byRow_made (w : World) : ByRow (w.alloc (.cells #[] 5)) w.heap.size (.slice (some ⟨w.heap.size, 0, none⟩) 0 0) [] :=
  ⟨World.ownsRow_made w #[] 0 (Nat.le_refl _) (by unfold maxLen; omega) (by simp), w.heap.size, 0, rfl⟩
theorem byRow_lit (w : World) (c : UInt8) (z : Int) (hz : z = (c.toNat : Int)) : ByRow (w.alloc (.cells #[.int .u8 z] 5)) w.heap.size (.slice (some ⟨w.heap.size, 0, none⟩) 1 1) [c] := by
  subst hz
  exact ⟨World.ownsRow_lit (size := 1) w #[.int .u8 (c.toNat : Int)] 1 (Nat.le_refl _) (by unfold maxLen; omega) (by simp), w.heap.size, 1, rfl⟩
theorem ByRow.below {w w' : World} {base : Nat} {v : Value} {l : List UInt8} (h : ByRow w base v l) (hB : Below w.heap.size w w') : ByRow w' base v l :=
  ⟨h.1.kept (grown_of_below hB none) (by cases hv : v.ownBlock <;> simp), h.2⟩
/-- Below is kept by an append of one byte. -/
theorem below_one {W wr w1 : World} {base : Nat} {T : TypeId} {v x : Value} {l : List UInt8} (hb : base ≤ wr.heap.size) (hB : Below base W wr) (ho : ByRow wr base v l) (hg : (wr.alloc (.cells #[x] T)).grownBy w1 v.ownBlock) : Below base W w1 :=
  (hB.alloc hb (.cells #[x] T)).grown hg (by simp; omega) (fun j hj => (ho.1.lt j hj).1)
theorem below_str {W wr w1 : World} {base : Nat} {v : Value} {l : List UInt8} (hb : base ≤ wr.heap.size) (hB : Below base W wr) (ho : ByRow wr base v l) (hg : wr.grownBy w1 v.ownBlock) : Below base W w1 :=
  hB.grown hg hb (fun j hj => (ho.1.lt j hj).1)
theorem byte_ne {a c : UInt8} (h : ¬ a = c) : ((a.toNat : Int) == (c.toNat : Int)) = false := by
  rw [beq_eq_false_iff_ne]
  intro e
  exact h (UInt8.toNat_inj.1 (by omega))
theorem byte_eq {a c : UInt8} (h : a = c) : ((a.toNat : Int) == (c.toNat : Int)) = true := by rw [h]; simp
theorem at_list {s : ByteArray} {k : Nat} (h : k < s.size) : s.data.toList[k]? = some s[k] := by
  rw [List.getElem?_eq_getElem (by rw [← Lib.size_eq]; exact h)]
  simp
  rfl
theorem take_at {s : ByteArray} {k : Nat} (h : k < s.size) : s.data.toList.take (k + 1) = s.data.toList.take k ++ [s[k]] := by
  rw [List.take_add_one, at_list h]
  rfl
theorem take_all (s : ByteArray) : s.data.toList.take s.size = s.data.toList := List.take_of_length_le (by rw [← Lib.size_eq]; exact Nat.le_refl _)
end Go.Proofs.YticeagjonfifbaaGreatDoor
namespace Go.Proofs.YticeagjonfifbaaGreatDoor
open Go.RowKit

/-- A literal list of ints. -/
theorem intList {w : World} {cs : Array Value} {T : TypeId} {n : Nat} (hn : n = cs.size) (h : cs.toList.all (fun v => match v with | .int .i64 z => decide (-9223372036854775808 ≤ z) && decide (z ≤ 9223372036854775807) | _ => false) = true) :
    ∀ j, j < n → ∃ z : Int, -9223372036854775808 ≤ z ∧ z ≤ 9223372036854775807 ∧ (w.alloc (.cells cs T)).cell? ⟨w.heap.size, j, none⟩ = some (.int .i64 z) := by
  subst hn
  intro j hj
  have hb : (w.alloc (.cells cs T)).heap[w.heap.size]? = some (.cells cs T (0, 0)) := by
    show (w.heap.push _)[w.heap.size]? = _
    simp
  rw [cell_blk hb]
  have hm : cs[j] ∈ cs.toList := by simp
  have h1 := List.all_eq_true.1 h _ hm
  rw [Array.getElem?_eq_getElem hj]
  split at h1
  · rename_i z hz
    simp only [Bool.and_eq_true, decide_eq_true_eq] at h1
    exact ⟨z, h1.1, h1.2, by rw [hz]⟩
  · cases h1
theorem strList {w : World} {cs : Array Value} {T : TypeId} {n : Nat} (M : Nat) (hn : n = cs.size) (h : cs.toList.all (fun v => match v with | .string s => decide (s.size ≤ M) | _ => false) = true) :
    ∀ j, j < n → ∃ s : ByteArray, s.size ≤ M ∧ (w.alloc (.cells cs T)).cell? ⟨w.heap.size, j, none⟩ = some (.string s) := by
  subst hn
  intro j hj
  have hb : (w.alloc (.cells cs T)).heap[w.heap.size]? = some (.cells cs T (0, 0)) := by
    show (w.heap.push _)[w.heap.size]? = _
    simp
  rw [cell_blk hb]
  have hm : cs[j] ∈ cs.toList := by simp
  have h1 := List.all_eq_true.1 h _ hm
  rw [Array.getElem?_eq_getElem hj]
  split at h1
  · rename_i z hz
    exact ⟨z, of_decide_eq_true h1, by rw [hz]⟩
  · cases h1

/-- The cursor stands while a new block is laid. -/
theorem Cur.alloc {W w : World} {p : Nat} (h : Cur W w p) (o : Obj) : Cur W (w.alloc o) p := by
  obtain ⟨hp, hB, v, n, i, x, hb, hi, h0, h1, hblk⟩ := h
  have hlt : p < w.heap.size := by
    rcases Nat.lt_or_ge p w.heap.size with hl | hl
    · exact hl
    · rw [Array.getElem?_eq_none hl] at hblk; cases hblk
  exact ⟨hp, hB.alloc hB.size o, v, n, i, x, hb, hi, h0, h1, (Below.heap_alloc w o p hlt).trans hblk⟩
theorem Cur.lt {W w : World} {p : Nat} (h : Cur W w p) : p < w.heap.size := by
  obtain ⟨hp, hB, v, n, i, x, hb, hi, h0, h1, hblk⟩ := h
  rcases Nat.lt_or_ge p w.heap.size with hl | hl
  · exact hl
  · rw [Array.getElem?_eq_none hl] at hblk; cases hblk

theorem grownBy_alloc (w : World) (o : Obj) (r : Option Nat) : w.grownBy (w.alloc o) r :=
  ⟨rfl, rfl, rfl, by simp, fun i hi _ => Below.heap_alloc w o i hi⟩

set_option maxRecDepth 100000 in
set_option maxHeartbeats 2000000 in
theorem l1WholeG (W w : World) (p : Nat) (hc : Cur W w p) :
    Calls Tryz.prog 72 #[.pointer (some ⟨p, 0, none⟩)] w fun e w' => IntOut e ∧ Cur W w' p ∧ w.grownBy w' (some p) := by
  go_enter Tryz.func72, Tryz.ntmps72
  go_wp2_with fail
  refine (l1Below W _ p 4 (by omega) (by omega) hc).mono ?_
  rintro e w1 ⟨⟨m, hm, rfl⟩, hc1, hg1⟩
  have HG1 := Lib.hid hg1
  clear hg1
  have hm4 : m = 0 ∨ m = 1 ∨ m = 2 ∨ m = 3 := by omega
  rcases hm4 with rfl | rfl | rfl | rfl
  · have hne : w1.heap.size ≠ p := by have := hc1.lt; omega
    go_wp2_with fail
    refine (l1PickInt W _ p w1.heap.size 14 (by omega) (by omega) hne ?_ (hc1.alloc _)).mono ?_
    · refine intList ?_ ?_
      · rfl
      · decide
    rintro e w2 ⟨⟨z, z0, z1, rfl⟩, hc2, hg2⟩
    have HG2 := Lib.hid (grownBy_trans HG1.out (grownBy_trans (grownBy_alloc _ _ _) hg2))
    clear hg2
    go_wp2_with fail
    go_ret
    exact ⟨⟨_, z0, z1, rfl⟩, hc2, HG2.out⟩
  · go_wp2_with fail
    go_loopw [3, 4] (fun n i wr => ∃ (k : Nat) (z : Int), k ≤ 8 ∧ i = .int .i64 k ∧ -9223372036854775808 ≤ z ∧ z ≤ 9223372036854775807 ∧ n = .int .i64 z ∧ Cur W wr p ∧ w.grownBy wr (some p)) (fun _ i _ => 8 - (intOf i).toNat)
    case atStart => exact ⟨0, 0, by omega, rfl, by omega, by omega, rfl, hc1, HG1.out⟩
    case round =>
      obtain ⟨k, z, hk, rfl, hz0, hz1, rfl, hcr, hgr⟩ := hrel
      have HGR := Lib.hid hgr
      clear hgr
      by_cases hlt : k < 8
      · have hk8 : (k : Int) < 8 := by omega
        go_wp2_with fail
        refine (l1Byte W _ p hcr).mono ?_
        rintro e w2 ⟨⟨b, hb, rfl⟩, hc2, hg2⟩
        have HG2 := Lib.hid (grownBy_trans HGR.out hg2)
        clear hg2
        go_wp2_with fail
        go_roundw
        case rel => exact ⟨k + 1, _, by omega, by go_num, (wrap64_bounds _).1, (wrap64_bounds _).2, rfl, hc2, HG2.out⟩
        case measure => simp [intOf]; omega
      · have hk8 : ¬ (k : Int) < 8 := by omega
        go_wp2_with fail
        go_ret
        exact ⟨⟨_, hz0, hz1, rfl⟩, hcr, HGR.out⟩
  · go_wp2_with fail
    refine (l1Below W _ p 1000000 (by omega) (by omega) hc1).mono ?_
    rintro e w2 ⟨⟨m, hm, rfl⟩, hc2, hg2⟩
    have HG2 := Lib.hid (grownBy_trans HG1.out hg2)
    clear hg2
    go_wp2_with fail
    go_ret
    exact ⟨⟨_, by omega, by omega, rfl⟩, hc2, HG2.out⟩
  · go_wp2_with fail
    refine (l1Below W _ p 41 (by omega) (by omega) hc1).mono ?_
    rintro e w2 ⟨⟨m, hm, rfl⟩, hc2, hg2⟩
    have HG2 := Lib.hid (grownBy_trans HG1.out hg2)
    clear hg2
    go_wp2_with fail
    go_ret
    exact ⟨⟨_, by omega, by omega, rfl⟩, hc2, HG2.out⟩
theorem l1Whole (W w : World) (p : Nat) (hc : Cur W w p) :
    Calls Tryz.prog 72 #[.pointer (some ⟨p, 0, none⟩)] w fun e w' => IntOut e ∧ Cur W w' p :=
  (l1WholeG W w p hc).mono fun _ _ h => ⟨h.1, h.2.1⟩

/-- What a whole draw does: it answers, and nothing that was there has turned. -/
theorem cur_below {W w : World} {p : Nat} (h : Cur W w p) : Below W.heap.size W w := h.2.1

end Go.Proofs.YticeagjonfifbaaGreatDoor
namespace Go.Proofs.YticeagjonfifbaaGreatDoor
open Go.RowKit

theorem specDigits_zero (w : World) :
    Calls Tryz.prog 81 #[.int .i64 0] w fun e w' => e = .returned (.string ⟨#[48]⟩) ∧ w = w' := by
  go_enter Tryz.func81, Tryz.ntmps81
  go_wp2
  go_ret
  exact ⟨rfl, rfl⟩

theorem specDigits (n : Int) (h0 : -9223372036854775808 ≤ n) (h1 : n ≤ 9223372036854775807) (w : World) :
    Calls Tryz.prog 81 #[.int .i64 n] w fun e w' => e = .returned (.string ⟨(Lib.itoa n).toArray⟩) ∧ Below w.heap.size w w' := by
  by_cases hz : n = 0
  · subst hz
    refine (specDigits_zero w).mono fun e w' ⟨he, hw⟩ => ⟨?_, hw ▸ Below.refl _ _⟩
    rw [he]
    have : Lib.itoa 0 = [48] := by
      have := Lib.itoa_nonneg 0
      rw [Lib.decDigits_one (by omega)] at this
      exact this
    rw [this]
  · by_cases hp : 0 ≤ n
    · obtain ⟨u, rfl⟩ := Int.eq_ofNat_of_zero_le hp
      rw [Lib.itoa_nonneg]
      exact specDigits_pos u (by omega) (by omega) w
    · obtain ⟨u, hu⟩ : ∃ u : Nat, n = -(u : Int) := ⟨n.natAbs, by omega⟩
      subst hu
      rw [Lib.itoa_neg u (by omega)]
      exact specDigits_neg u (by omega) (by omega) w

end Go.Proofs.YticeagjonfifbaaGreatDoor
namespace Go.Proofs.YticeagjonfifbaaGreatDoor
open Go.RowKit

theorem tabIs_below {P : Program} {B g : Nat} {w w' : World} {n : String} {k : IntKind} {zs : List Int} (h : Lib.TabIs P w n k zs) (hb : Below B w w') (hg : P.globalNamed n = some g) (hgB : g < B) : Lib.TabIs P w' n k zs :=
  var?_below hb hg hgB h

theorem implDigits (n : Int) (h0 : -9223372036854775808 ≤ n) (h1 : n ≤ 9223372036854775807) (w : World) (htab : Lib.TabIs Tryz.prog w "internal/strconv.uint64pow10" .u64 Lib.pow10Tab) :
    Calls Tryz.prog 75 #[.int .i64 n] w fun e w' => e = .returned (.string ⟨(Lib.itoa n).toArray⟩) ∧ Below w.heap.size w w' := by
  go_enter Tryz.func75, Tryz.ntmps75
  go_wp2_with (go_at_call 99; refine (Tryz.strconv_Itoa n h0 h1 _ htab).mono ?_; rintro e w1 ⟨rfl, k, os, rfl⟩)
  go_ret
  exact ⟨rfl, Lib.below_grow _ _ (Nat.le_refl _) _ _⟩
end Go.Proofs.YticeagjonfifbaaGreatDoor
