
/-
  Wide numbers of the reference: what their operations answer.
-/
import Derived.Test.YtapdocfifgnjgaaDoorPk2
import Derived.Laws.ResultCell
namespace Go.Proofs.YtapdocfifgnjgaaDoor
open Go.RowKit

/-- Parts that make a wide number. -/
def okV (n : Bool) (h l : Int) : Bool := decide (h < 9223372036854775808) && (!n || decide (0 < h) || decide (0 < l))
/-- Which of two magnitudes is greater. -/
def ordV (h l k m : Int) : Int := if h < k ∨ h = k ∧ l < m then -1 else if k < h ∨ m < l then 1 else 0

/-- A box that was made ahead of a call, behind it. -/
theorem box_kept {w w1 : World} {cs : Array Value} {T : TypeId} (hB : Below (w.alloc (.cells cs T)).heap.size (w.alloc (.cells cs T)) w1) : w1.heap[w.heap.size]? = some (.cells cs T (0, 0)) := by
  rw [hB.block _ (by simp)]
  show (w.heap.push _)[w.heap.size]? = _
  simp
theorem box_below {w w1 : World} {o : Obj} (hB : Below (w.alloc o).heap.size (w.alloc o) w1) : Below w.heap.size w w1 :=
  ((Below.refl _ _).alloc (Nat.le_refl _) _).trans (hB.mono (by simp))
theorem results_cell {fn : Func} {p : Tmp} {ty : TypeId} (h : fn.results = #[.cell p ty]) (tmps : Array Value) (P : Program) (w : World) :
    (results fn tmps).run P w = ((asAddr (tmps.getD p undef)).run P w).andThen fun a w1 => (loadVar ty a).run P w1 := by
  simp only [results, h]
  simp [Sem.run_bind, Result.andThen]
theorem box_still {w w1 : World} {b : Nat} {cs : Array Value} {T : TypeId} (h : w.heap[b]? = some (.cells cs T (0, 0))) (hB : Below w.heap.size w w1) : w1.heap[b]? = some (.cells cs T (0, 0)) := by
  rw [hB.block _ ?_]
  · exact h
  · rcases Nat.lt_or_ge b w.heap.size with hl | hl
    · exact hl
    · rw [Array.getElem?_eq_none hl] at h; cases h
theorem box_over {w w1 : World} {b k : Nat} {x : Value} (h : Below w.heap.size w w1) (hb : w.heap.size ≤ b) : Below w.heap.size w (w1.setCell ⟨b, k, none⟩ x) := h.setCell hb x

set_option maxRecDepth 100000 in
theorem specWideOk (n0 : Bool) (h0 l0 : Int) (w : World) :
    Calls Tryd.prog 57 #[.agg #[.bool n0, .int .u64 h0, .int .u64 l0]] w fun e w' => e = .returned (.bool (okV n0 h0 l0)) ∧ Below w.heap.size w w' := by
  unfold okV
  go_enter Tryd.func57, Tryd.ntmps57
  go_wp2_with fail
  · rename_i a b c
    go_ret
    exact ⟨by subst b; simp [a], (Below.refl _ _).alloc (Nat.le_refl _) _⟩
  · rename_i a b c
    go_ret
    exact ⟨by subst b; simp, (Below.refl _ _).alloc (Nat.le_refl _) _⟩
  · rename_i a b
    go_ret
    exact ⟨by simp [a, b], (Below.refl _ _).alloc (Nat.le_refl _) _⟩
  · rename_i a
    go_ret
    exact ⟨by simp; omega, (Below.refl _ _).alloc (Nat.le_refl _) _⟩
set_option maxRecDepth 100000 in
theorem specAbs (x : Int) (x0 : -9223372036854775808 ≤ x) (x1 : x ≤ 9223372036854775807) (w : World) :
    Calls Tryd.prog 73 #[.int .i64 x] w fun e w' => e = .returned (.int .u64 x.natAbs) ∧ Below w.heap.size w w' := by
  by_cases h : x < 0
  · rw [show (x.natAbs : Int) = -(x + 1) + 1 by omega]
    go_enter Tryd.func73, Tryd.ntmps73
    go_wp2_with fail
    go_ret
    exact ⟨rfl, Below.refl _ _⟩
  · rw [show (x.natAbs : Int) = x by omega]
    go_enter Tryd.func73, Tryd.ntmps73
    go_wp2_with fail
    go_ret
    exact ⟨rfl, Below.refl _ _⟩
set_option maxRecDepth 100000 in
theorem specWideOf (x : Int) (x0 : -9223372036854775808 ≤ x) (x1 : x ≤ 9223372036854775807) (w : World) :
    Calls Tryd.prog 49 #[.int .i64 x] w fun e w' => e = .returned (.agg #[.bool (decide (x < 0)), .int .u64 0, .int .u64 x.natAbs]) ∧ Below w.heap.size w w' := by
  go_enter Tryd.func49, Tryd.ntmps49
  go_wp2_with fail
  refine (specAbs x x0 x1 _).mono ?_
  rintro e w1 ⟨rfl, hB⟩
  have hk := box_kept hB
  have HB := Lib.hid (box_below hB)
  have hca0 := cell_blk hk 0
  have hfa0 := free_blk hk 0
  have hca1 := cell_blk hk 1
  have hfa1 := free_blk hk 1
  have hca2 := cell_blk hk 2
  have hfa2 := free_blk hk 2
  clear hk hB
  simp only [List.getElem?_toArray, List.getElem?_cons_zero, List.getElem?_cons_succ] at hca0 hca1 hca2
  go_wp2_with fail
  (try simp only [Exit.inBlock, Exit.then])
  refine bodyPost_ret (v := .agg #[.bool (decide (x < 0)), .int .u64 0, .int .u64 x.natAbs]) ?_ rfl ⟨rfl, ?_⟩
  · rw [results_cell rfl]
    go_simp
  · repeat' (first | exact HB.out | refine box_over ?_ (Nat.le_refl _))
set_option maxRecDepth 100000 in
theorem specZero (n0 : Bool) (h0 l0 : Int) (w : World) :
    Calls Tryd.prog 33 #[.agg #[.bool n0, .int .u64 h0, .int .u64 l0]] w fun e w' => e = .returned (.bool (decide (h0 = 0 ∧ l0 = 0))) ∧ Below w.heap.size w w' := by
  go_enter Tryd.func33, Tryd.ntmps33
  go_wp2_with fail
  · rename_i a
    go_ret
    exact ⟨by simp [a]; rfl, (Below.refl _ _).alloc (Nat.le_refl _) _⟩
  · rename_i a
    go_ret
    exact ⟨by simp [a], (Below.refl _ _).alloc (Nat.le_refl _) _⟩
set_option maxRecDepth 100000 in
theorem specOrder (n0 : Bool) (h0 l0 : Int) (n1 : Bool) (h1 l1 : Int) (w : World) :
    Calls Tryd.prog 34 #[.agg #[.bool n0, .int .u64 h0, .int .u64 l0], .agg #[.bool n1, .int .u64 h1, .int .u64 l1]] w fun e w' => e = .returned (.int .i64 (ordV h0 l0 h1 l1)) ∧ Below w.heap.size w w' := by
  unfold ordV
  go_enter Tryd.func34, Tryd.ntmps34
  go_wp2_with fail
  all_goals go_ret
  all_goals exact ⟨rfl, (by repeat' (first | assumption | exact Below.refl _ _ | refine Below.alloc ?_ (by simp <;> omega) _ | refine Below.setCell ?_ (by simp <;> omega) _))⟩
/-- The sign of a negated wide number. -/
def negV (n : Bool) (h l : Int) : Bool := if okV n h l = true ∧ ¬ (h = 0 ∧ l = 0) then !n else n
/-- What a wide number turned to an int ends in. -/
def intOfE (n : Bool) (h l : Int) : Ending :=
  if 0 < h ∨ 9223372036854775808 < l ∨ (l = 9223372036854775808 ∧ n = false) ∨ (n = true ∧ l = 0) then .returned (.tuple #[.int .i64 0, .bool false]) else .returned (.tuple #[.int .i64 (if n = true then -l else l), .bool true])
theorem intOf_no {n : Bool} {h l : Int} (hc : 0 < h ∨ 9223372036854775808 < l ∨ (l = 9223372036854775808 ∧ n = false) ∨ (n = true ∧ l = 0)) : Ending.returned (.tuple #[.int .i64 0, .bool false]) = intOfE n h l := by rw [intOfE, if_pos hc]
theorem intOf_yes {n : Bool} {h l x : Int} (hc : ¬ (0 < h ∨ 9223372036854775808 < l ∨ (l = 9223372036854775808 ∧ n = false) ∨ (n = true ∧ l = 0))) (hx : x = if n = true then -l else l) : Ending.returned (.tuple #[.int .i64 x, .bool true]) = intOfE n h l := by rw [intOfE, if_neg hc, hx]
end Go.Proofs.YtapdocfifgnjgaaDoor
