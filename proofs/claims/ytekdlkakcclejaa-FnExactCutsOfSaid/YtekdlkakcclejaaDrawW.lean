/-
  A whole draw: every draw answers an int.
-/
import Derived.Test.YtekdlkakcclejaaDraw
namespace Go.Proofs.Ytekdlkakcclejaa
open Go.RowKit

/-- A literal list of ints. -/
theorem intList {w : World} {cs : Array Value} {T : TypeId} {n : Nat} (hn : n = cs.size) (h : cs.toList.all (fun v => match v with | .int .i64 z => decide (-9223372036854775808 ≤ z) && decide (z ≤ 9223372036854775807) | _ => false) = true) :
    ∀ j, j < n → ∃ z : Int, -9223372036854775808 ≤ z ∧ z ≤ 9223372036854775807 ∧ (w.alloc (.cells cs T)).cell? ⟨w.heap.size, j, none⟩ = some (.int .i64 z) := by
  subst hn
  intro j hj
  have hb : (w.alloc (.cells cs T)).heap[w.heap.size]? = some (.cells cs T (0, 0)) := by
    show (w.heap.push _)[w.heap.size]? = _
    simp
  rw [cell_blk hb]
  have hm : cs[j] ∈ cs.toList := by simp
  have h1 := List.all_eq_true.1 h _ hm
  rw [Array.getElem?_eq_getElem hj]
  split at h1
  · rename_i z hz
    simp only [Bool.and_eq_true, decide_eq_true_eq] at h1
    exact ⟨z, h1.1, h1.2, by rw [hz]⟩
  · cases h1
theorem strList {w : World} {cs : Array Value} {T : TypeId} {n : Nat} (M : Nat) (hn : n = cs.size) (h : cs.toList.all (fun v => match v with | .string s => decide (s.size ≤ M) | _ => false) = true) :
    ∀ j, j < n → ∃ s : ByteArray, s.size ≤ M ∧ (w.alloc (.cells cs T)).cell? ⟨w.heap.size, j, none⟩ = some (.string s) := by
  subst hn
  intro j hj
  have hb : (w.alloc (.cells cs T)).heap[w.heap.size]? = some (.cells cs T (0, 0)) := by
    show (w.heap.push _)[w.heap.size]? = _
    simp
  rw [cell_blk hb]
  have hm : cs[j] ∈ cs.toList := by simp
  have h1 := List.all_eq_true.1 h _ hm
  rw [Array.getElem?_eq_getElem hj]
  split at h1
  · rename_i z hz
    exact ⟨z, of_decide_eq_true h1, by rw [hz]⟩
  · cases h1

/-- The cursor stands while a new block is laid. -/
theorem Cur.alloc {W w : World} {p : Nat} (h : Cur W w p) (o : Obj) : Cur W (w.alloc o) p := by
  obtain ⟨hp, hB, v, n, i, x, hb, hi, h0, h1, hblk⟩ := h
  have hlt : p < w.heap.size := by
    rcases Nat.lt_or_ge p w.heap.size with hl | hl
    · exact hl
    · rw [Array.getElem?_eq_none hl] at hblk; cases hblk
  exact ⟨hp, hB.alloc hB.size o, v, n, i, x, hb, hi, h0, h1, (Below.heap_alloc w o p hlt).trans hblk⟩
theorem Cur.lt {W w : World} {p : Nat} (h : Cur W w p) : p < w.heap.size := by
  obtain ⟨hp, hB, v, n, i, x, hb, hi, h0, h1, hblk⟩ := h
  rcases Nat.lt_or_ge p w.heap.size with hl | hl
  · exact hl
  · rw [Array.getElem?_eq_none hl] at hblk; cases hblk

theorem grownBy_alloc (w : World) (o : Obj) (r : Option Nat) : w.grownBy (w.alloc o) r :=
  ⟨rfl, rfl, rfl, by simp, fun i hi _ => Below.heap_alloc w o i hi⟩

set_option maxRecDepth 100000 in
set_option maxHeartbeats 2000000 in
theorem l1WholeG (W w : World) (p : Nat) (hc : Cur W w p) :
    Calls Try.prog 40 #[.pointer (some ⟨p, 0, none⟩)] w fun e w' => IntOut e ∧ Cur W w' p ∧ w.grownBy w' (some p) := by
  go_enter Try.func40, Try.ntmps40
  go_wp2_with fail
  refine (l1Below W _ p 4 (by omega) (by omega) hc).mono ?_
  rintro e w1 ⟨⟨m, hm, rfl⟩, hc1, hg1⟩
  have HG1 := Lib.hid hg1
  clear hg1
  have hm4 : m = 0 ∨ m = 1 ∨ m = 2 ∨ m = 3 := by omega
  rcases hm4 with rfl | rfl | rfl | rfl
  · have hne : w1.heap.size ≠ p := by have := hc1.lt; omega
    go_wp2_with fail
    refine (l1PickInt W _ p w1.heap.size 14 (by omega) (by omega) hne ?_ (hc1.alloc _)).mono ?_
    · refine intList ?_ ?_
      · rfl
      · decide
    rintro e w2 ⟨⟨z, z0, z1, rfl⟩, hc2, hg2⟩
    have HG2 := Lib.hid (grownBy_trans HG1.out (grownBy_trans (grownBy_alloc _ _ _) hg2))
    clear hg2
    go_wp2_with fail
    go_ret
    exact ⟨⟨_, z0, z1, rfl⟩, hc2, HG2.out⟩
  · go_wp2_with fail
    go_loopw [3, 4] (fun n i wr => ∃ (k : Nat) (z : Int), k ≤ 8 ∧ i = .int .i64 k ∧ -9223372036854775808 ≤ z ∧ z ≤ 9223372036854775807 ∧ n = .int .i64 z ∧ Cur W wr p ∧ w.grownBy wr (some p)) (fun _ i _ => 8 - (intOf i).toNat)
    case atStart => exact ⟨0, 0, by omega, rfl, by omega, by omega, rfl, hc1, HG1.out⟩
    case round =>
      obtain ⟨k, z, hk, rfl, hz0, hz1, rfl, hcr, hgr⟩ := hrel
      have HGR := Lib.hid hgr
      clear hgr
      by_cases hlt : k < 8
      · have hk8 : (k : Int) < 8 := by omega
        go_wp2_with fail
        refine (l1Byte W _ p hcr).mono ?_
        rintro e w2 ⟨⟨b, hb, rfl⟩, hc2, hg2⟩
        have HG2 := Lib.hid (grownBy_trans HGR.out hg2)
        clear hg2
        go_wp2_with fail
        go_roundw
        case rel => exact ⟨k + 1, _, by omega, by go_num, (wrap64_bounds _).1, (wrap64_bounds _).2, rfl, hc2, HG2.out⟩
        case measure => simp [intOf]; omega
      · have hk8 : ¬ (k : Int) < 8 := by omega
        go_wp2_with fail
        go_ret
        exact ⟨⟨_, hz0, hz1, rfl⟩, hcr, HGR.out⟩
  · go_wp2_with fail
    refine (l1Below W _ p 1000000 (by omega) (by omega) hc1).mono ?_
    rintro e w2 ⟨⟨m, hm, rfl⟩, hc2, hg2⟩
    have HG2 := Lib.hid (grownBy_trans HG1.out hg2)
    clear hg2
    go_wp2_with fail
    go_ret
    exact ⟨⟨_, by omega, by omega, rfl⟩, hc2, HG2.out⟩
  · go_wp2_with fail
    refine (l1Below W _ p 41 (by omega) (by omega) hc1).mono ?_
    rintro e w2 ⟨⟨m, hm, rfl⟩, hc2, hg2⟩
    have HG2 := Lib.hid (grownBy_trans HG1.out hg2)
    clear hg2
    go_wp2_with fail
    go_ret
    exact ⟨⟨_, by omega, by omega, rfl⟩, hc2, HG2.out⟩
theorem l1Whole (W w : World) (p : Nat) (hc : Cur W w p) :
    Calls Try.prog 40 #[.pointer (some ⟨p, 0, none⟩)] w fun e w' => IntOut e ∧ Cur W w' p :=
  (l1WholeG W w p hc).mono fun _ _ h => ⟨h.1, h.2.1⟩

/-- What a whole draw does: it answers, and nothing that was there has turned. -/
theorem cur_below {W w : World} {p : Nat} (h : Cur W w p) : Below W.heap.size W w := h.2.1

end Go.Proofs.Ytekdlkakcclejaa
