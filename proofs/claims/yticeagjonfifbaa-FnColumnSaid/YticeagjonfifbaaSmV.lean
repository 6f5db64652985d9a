/-
  The draw of a small decimal: what it is, and what it leaves alone.
-/
import Derived.Test.YticeagjonfifbaaDrawW
import Derived.Test.YticeagjonfifbaaNameS
import Derived.Test.YticeagjonfifbaaTabO
namespace Go.Proofs.Yticeagjonfifbaa
open Go.RowKit

theorem valI {n : Int} (h0 : -2147483647 ≤ n) (h1 : n ≤ 2147483647) : valB n = true := inZ_iff.2 ⟨h0, h1⟩
/-- A literal list of right decimals. -/
theorem valList {w : World} {cs : Array Value} {T : TypeId} {n : Nat} (hn : n = cs.size) (h : cs.toList.all (fun v => match v with | .int .i64 z => decide (-2147483647 ≤ z) && decide (z ≤ 2147483647) | _ => false) = true) :
    ∀ j, j < n → ∃ z : Int, -2147483647 ≤ z ∧ z ≤ 2147483647 ∧ (w.alloc (.cells cs T)).cell? ⟨w.heap.size, j, none⟩ = some (.int .i64 z) := by
  subst hn
  intro j hj
  have hb : (w.alloc (.cells cs T)).heap[w.heap.size]? = some (.cells cs T (0, 0)) := by
    show (w.heap.push _)[w.heap.size]? = _
    simp
  rw [cell_blk hb]
  have hm : cs[j] ∈ cs.toList := by simp
  have h1 := List.all_eq_true.1 h _ hm
  rw [Array.getElem?_eq_getElem hj]
  split at h1
  · rename_i z hz
    simp only [Bool.and_eq_true, decide_eq_true_eq] at h1
    exact ⟨z, h1.1, h1.2, by rw [hz]⟩
  · cases h1
set_option maxRecDepth 100000 in
theorem l1PickV (W w : World) (p lb k : Nat) (h1 : 1 ≤ k) (h2 : k ≤ 4294967296) (hne : lb ≠ p) (hcell : ∀ j, j < k → ∃ z : Int, -2147483647 ≤ z ∧ z ≤ 2147483647 ∧ w.cell? ⟨lb, j, none⟩ = some (.int .i64 z)) (hc : Cur W w p) :
    Calls Try.prog 28 #[.pointer (some ⟨p, 0, none⟩), .slice (some ⟨lb, 0, none⟩) k k] w fun e w' => (∃ z : Int, e = .returned (.int .i64 z) ∧ valB z = true) ∧ Cur W w' p ∧ w.grownBy w' (some p) := by
  have HC := Lib.hid hcell
  clear hcell
  go_enter Try.func28, Try.ntmps28
  go_wp2_with fail
  refine (l1Below W _ p k h1 h2 hc).mono ?_
  rintro e w1 ⟨⟨m, hm, rfl⟩, hc1, hg1⟩
  obtain ⟨z, z0, z1, hcs⟩ := HC.out m hm
  have hcs1 := grown_cell hg1 hne hcs
  have hm1 : (m : Int) < k := by omega
  clear hcs
  go_wp2_with fail
  go_ret
  exact ⟨⟨z, rfl, valI z0 z1⟩, hc1, hg1⟩
set_option maxRecDepth 100000 in
set_option maxHeartbeats 1000000 in
theorem l6SmallV (W w : World) (p : Nat) (hc : Cur W w p) :
    Calls Try.prog 71 #[.pointer (some ⟨p, 0, none⟩)] w fun e w' => (∃ z : Int, e = .returned (.int .i64 z) ∧ valB z = true) ∧ Cur W w' p ∧ w.grownBy w' (some p) := by
  go_enter Try.func71, Try.ntmps71
  go_wp2_with fail
  refine (l1Once W w p 20 (by omega) (by omega) hc).mono ?_
  rintro e w2 ⟨⟨b, rfl⟩, hc2, hg2⟩
  cases b with
  | true =>
    have hl := hc2.lt
    go_wp2_with fail
    refine (l1PickV W _ p w2.heap.size 5 (by omega) (by omega) (by omega) ?_ (hc2.alloc _)).mono ?_
    · refine valList ?_ ?_
      · rfl
      · decide
    rintro e w3 ⟨⟨z, rfl, hz⟩, hc3, hg3⟩
    go_wp2_with fail
    go_ret
    exact ⟨⟨z, rfl, hz⟩, hc3, grownBy_trans (grownBy_trans hg2 (grow_al _ _ _)) hg3⟩
  | false =>
    go_wp2_with fail
    refine (l1Once W _ p 2 (by omega) (by omega) hc2).mono ?_
    rintro e w3 ⟨⟨b, rfl⟩, hc3, hg3⟩
    cases b with
    | true =>
      go_wp2_with fail
      refine (l1Below W _ p 9 (by omega) (by omega) hc3).mono ?_
      rintro e w4 ⟨⟨m, hm, rfl⟩, hc4, hg4⟩
      go_wp2_with fail
      go_ret
      exact ⟨⟨_, rfl, valI (by omega) (by omega)⟩, hc4, grownBy_trans (grownBy_trans hg2 hg3) hg4⟩
    | false =>
      go_wp2_with fail
      refine (l1Below W _ p 41 (by omega) (by omega) hc3).mono ?_
      rintro e w4 ⟨⟨m, hm, rfl⟩, hc4, hg4⟩
      go_wp2_with fail
      go_ret
      exact ⟨⟨_, rfl, valI (by omega) (by omega)⟩, hc4, grownBy_trans (grownBy_trans hg2 hg3) hg4⟩
end Go.Proofs.Yticeagjonfifbaa
