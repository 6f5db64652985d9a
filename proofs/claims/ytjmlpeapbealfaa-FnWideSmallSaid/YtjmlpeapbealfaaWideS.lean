
/-
  Wide numbers of the reference: what their operations answer.
-/
import Derived.Test.YtjmlpeapbealfaaLawE2
import Derived.Laws.ResultCell
namespace Go.Proofs.Ytjmlpeapbealfaa
open Go.RowKit

/-- Parts that make a wide number. -/
def okV (n : Bool) (h l : Int) : Bool := decide (h < 9223372036854775808) && (!n || decide (0 < h) || decide (0 < l))
/-- Which of two magnitudes is greater. -/
def ordV (h l k m : Int) : Int := if h < k ∨ h = k ∧ l < m then -1 else if k < h ∨ m < l then 1 else 0

/-- A box that was made ahead of a call, behind it. -/
theorem box_kept {w w1 : World} {cs : Array Value} {T : TypeId} (hB : Below (w.alloc (.cells cs T)).heap.size (w.alloc (.cells cs T)) w1) : w1.heap[w.heap.size]? = some (.cells cs T (0, 0)) := by
  rw [hB.block _ (by simp)]
  show (w.heap.push _)[w.heap.size]? = _
  simp
theorem box_below {w w1 : World} {o : Obj} (hB : Below (w.alloc o).heap.size (w.alloc o) w1) : Below w.heap.size w w1 :=
  ((Below.refl _ _).alloc (Nat.le_refl _) _).trans (hB.mono (by simp))
theorem results_cell {fn : Func} {p : Tmp} {ty : TypeId} (h : fn.results = #[.cell p ty]) (tmps : Array Value) (P : Program) (w : World) :
    (results fn tmps).run P w = ((asAddr (tmps.getD p undef)).run P w).andThen fun a w1 => (loadVar ty a).run P w1 := by
  simp only [results, h]
  simp [Sem.run_bind, Result.andThen]
theorem box_still {w w1 : World} {b : Nat} {cs : Array Value} {T : TypeId} (h : w.heap[b]? = some (.cells cs T (0, 0))) (hB : Below w.heap.size w w1) : w1.heap[b]? = some (.cells cs T (0, 0)) := by
  rw [hB.block _ ?_]
  · exact h
  · rcases Nat.lt_or_ge b w.heap.size with hl | hl
    · exact hl
    · rw [Array.getElem?_eq_none hl] at h; cases h
theorem box_over {w w1 : World} {b k : Nat} {x : Value} (h : Below w.heap.size w w1) (hb : w.heap.size ≤ b) : Below w.heap.size w (w1.setCell ⟨b, k, none⟩ x) := h.setCell hb x

set_option maxRecDepth 100000 in
theorem specWideOk (n0 : Bool) (h0 l0 : Int) (w : World) :
    Calls Try.prog 24 #[.agg #[.bool n0, .int .u64 h0, .int .u64 l0]] w fun e w' => e = .returned (.bool (okV n0 h0 l0)) ∧ Below w.heap.size w w' := by
  unfold okV
  go_enter Try.func24, Try.ntmps24
  go_wp2_with fail
  · rename_i a b c
    go_ret
    exact ⟨by subst b; simp [a], (Below.refl _ _).alloc (Nat.le_refl _) _⟩
  · rename_i a b c
    go_ret
    exact ⟨by subst b; simp, (Below.refl _ _).alloc (Nat.le_refl _) _⟩
  · rename_i a b
    go_ret
    exact ⟨by simp [a, b], (Below.refl _ _).alloc (Nat.le_refl _) _⟩
  · rename_i a
    go_ret
    exact ⟨by simp; omega, (Below.refl _ _).alloc (Nat.le_refl _) _⟩
set_option maxRecDepth 100000 in
theorem specAbs (x : Int) (x0 : -9223372036854775808 ≤ x) (x1 : x ≤ 9223372036854775807) (w : World) :
    Calls Try.prog 45 #[.int .i64 x] w fun e w' => e = .returned (.int .u64 x.natAbs) ∧ Below w.heap.size w w' := by
  by_cases h : x < 0
  · rw [show (x.natAbs : Int) = -(x + 1) + 1 by omega]
    go_enter Try.func45, Try.ntmps45
    go_wp2_with fail
    go_ret
    exact ⟨rfl, Below.refl _ _⟩
  · rw [show (x.natAbs : Int) = x by omega]
    go_enter Try.func45, Try.ntmps45
    go_wp2_with fail
    go_ret
    exact ⟨rfl, Below.refl _ _⟩
set_option maxRecDepth 100000 in
theorem specWideOf (x : Int) (x0 : -9223372036854775808 ≤ x) (x1 : x ≤ 9223372036854775807) (w : World) :
    Calls Try.prog 17 #[.int .i64 x] w fun e w' => e = .returned (.agg #[.bool (decide (x < 0)), .int .u64 0, .int .u64 x.natAbs]) ∧ Below w.heap.size w w' := by
  go_enter Try.func17, Try.ntmps17
  go_wp2_with fail
  refine (specAbs x x0 x1 _).mono ?_
  rintro e w1 ⟨rfl, hB⟩
  have hk := box_kept hB
  have HB := Lib.hid (box_below hB)
  have hca0 := cell_blk hk 0
  have hfa0 := free_blk hk 0
  have hca1 := cell_blk hk 1
  have hfa1 := free_blk hk 1
  have hca2 := cell_blk hk 2
  have hfa2 := free_blk hk 2
  clear hk hB
  simp only [List.getElem?_toArray, List.getElem?_cons_zero, List.getElem?_cons_succ] at hca0 hca1 hca2
  go_wp2_with fail
  (try simp only [Exit.inBlock, Exit.then])
  refine bodyPost_ret (v := .agg #[.bool (decide (x < 0)), .int .u64 0, .int .u64 x.natAbs]) ?_ rfl ⟨rfl, ?_⟩
  · rw [results_cell rfl]
    go_simp
  · repeat' (first | exact HB.out | refine box_over ?_ (Nat.le_refl _))
set_option maxRecDepth 100000 in
theorem specZero (n0 : Bool) (h0 l0 : Int) (w : World) :
    Calls Try.prog 47 #[.agg #[.bool n0, .int .u64 h0, .int .u64 l0]] w fun e w' => e = .returned (.bool (decide (h0 = 0 ∧ l0 = 0))) ∧ Below w.heap.size w w' := by
  go_enter Try.func47, Try.ntmps47
  go_wp2_with fail
  · rename_i a
    go_ret
    exact ⟨by simp [a]; rfl, (Below.refl _ _).alloc (Nat.le_refl _) _⟩
  · rename_i a
    go_ret
    exact ⟨by simp [a], (Below.refl _ _).alloc (Nat.le_refl _) _⟩
set_option maxRecDepth 100000 in
theorem specOrder (n0 : Bool) (h0 l0 : Int) (n1 : Bool) (h1 l1 : Int) (w : World) :
    Calls Try.prog 55 #[.agg #[.bool n0, .int .u64 h0, .int .u64 l0], .agg #[.bool n1, .int .u64 h1, .int .u64 l1]] w fun e w' => e = .returned (.int .i64 (ordV h0 l0 h1 l1)) ∧ Below w.heap.size w w' := by
  unfold ordV
  go_enter Try.func55, Try.ntmps55
  go_wp2_with fail
  all_goals go_ret
  all_goals exact ⟨rfl, (by repeat' (first | assumption | exact Below.refl _ _ | refine Below.alloc ?_ (by simp <;> omega) _ | refine Below.setCell ?_ (by simp <;> omega) _))⟩
/-- The sign of a negated wide number. -/
def negV (n : Bool) (h l : Int) : Bool := if okV n h l = true ∧ ¬ (h = 0 ∧ l = 0) then !n else n
set_option maxRecDepth 100000 in
theorem specNegWide_zero (n0 : Bool) (w : World) (hk : okV n0 0 0 = true) (hv : Hid (negV n0 0 0 = n0)) :
    Calls Try.prog 65 #[.agg #[.bool n0, .int .u64 0, .int .u64 0]] w fun e w' => e = .returned (.agg #[.bool (negV n0 0 0), .int .u64 0, .int .u64 0]) ∧ Below w.heap.size w w' := by
  go_enter Try.func65, Try.ntmps65
  go_wp2_with fail
  refine (specWideOk n0 0 0 _).mono ?_
  rintro e w1 ⟨rfl, hB⟩
  rw [hk]
  have hca0 : w1.cell? ⟨w.heap.size, 0, none⟩ = some (.bool n0) := by rw [hB.cell (by simp <;> omega)]; go_simp
  have hfa0 : w1.frozen? ⟨w.heap.size, 0, none⟩ = false := by rw [hB.frozen (by simp <;> omega)]; go_simp
  have hca1 : w1.cell? ⟨w.heap.size, 1, none⟩ = some (.int .u64 0) := by rw [hB.cell (by simp <;> omega)]; go_simp
  have hfa1 : w1.frozen? ⟨w.heap.size, 1, none⟩ = false := by rw [hB.frozen (by simp <;> omega)]; go_simp
  have hca2 : w1.cell? ⟨w.heap.size, 2, none⟩ = some (.int .u64 0) := by rw [hB.cell (by simp <;> omega)]; go_simp
  have hfa2 : w1.frozen? ⟨w.heap.size, 2, none⟩ = false := by rw [hB.frozen (by simp <;> omega)]; go_simp
  have hcb0 : w1.cell? ⟨w.heap.size + 1, 0, none⟩ = some (.bool false) := by rw [hB.cell (by simp <;> omega)]; go_simp
  have hfb0 : w1.frozen? ⟨w.heap.size + 1, 0, none⟩ = false := by rw [hB.frozen (by simp <;> omega)]; go_simp
  have hcb1 : w1.cell? ⟨w.heap.size + 1, 1, none⟩ = some (.int .u64 0) := by rw [hB.cell (by simp <;> omega)]; go_simp
  have hfb1 : w1.frozen? ⟨w.heap.size + 1, 1, none⟩ = false := by rw [hB.frozen (by simp <;> omega)]; go_simp
  have hcb2 : w1.cell? ⟨w.heap.size + 1, 2, none⟩ = some (.int .u64 0) := by rw [hB.cell (by simp <;> omega)]; go_simp
  have hfb2 : w1.frozen? ⟨w.heap.size + 1, 2, none⟩ = false := by rw [hB.frozen (by simp <;> omega)]; go_simp
  have HB : Hid (Below w.heap.size w w1) := (((Below.refl _ _).alloc (Nat.le_refl _) _).alloc (by simp) _).trans (hB.mono (by simp <;> omega))
  clear hB
  go_wp2_with fail
  (try simp only [Exit.inBlock, Exit.then])
  refine bodyPost_ret (v := .agg #[.bool n0, .int .u64 0, .int .u64 0]) ?_ rfl ⟨?_, ?_⟩
  · rw [results_cell rfl]
    go_simp
  · rw [hv.out]
  · repeat' (first | assumption | exact Below.refl _ _ | exact HB.out | refine Below.alloc ?_ (by simp <;> omega) _ | refine Below.setCell ?_ (by simp <;> omega) _)
set_option maxRecDepth 100000 in
theorem specNegWide_low (n0 : Bool) (l0 : Int) (w : World) (hk : okV n0 0 l0 = true) (hl : ¬ l0 = 0) (hv : Hid (negV n0 0 l0 = !n0)) :
    Calls Try.prog 65 #[.agg #[.bool n0, .int .u64 0, .int .u64 l0]] w fun e w' => e = .returned (.agg #[.bool (negV n0 0 l0), .int .u64 0, .int .u64 l0]) ∧ Below w.heap.size w w' := by
  go_enter Try.func65, Try.ntmps65
  go_wp2_with fail
  refine (specWideOk n0 0 l0 _).mono ?_
  rintro e w1 ⟨rfl, hB⟩
  rw [hk]
  have hca0 : w1.cell? ⟨w.heap.size, 0, none⟩ = some (.bool n0) := by rw [hB.cell (by simp <;> omega)]; go_simp
  have hfa0 : w1.frozen? ⟨w.heap.size, 0, none⟩ = false := by rw [hB.frozen (by simp <;> omega)]; go_simp
  have hca1 : w1.cell? ⟨w.heap.size, 1, none⟩ = some (.int .u64 0) := by rw [hB.cell (by simp <;> omega)]; go_simp
  have hfa1 : w1.frozen? ⟨w.heap.size, 1, none⟩ = false := by rw [hB.frozen (by simp <;> omega)]; go_simp
  have hca2 : w1.cell? ⟨w.heap.size, 2, none⟩ = some (.int .u64 l0) := by rw [hB.cell (by simp <;> omega)]; go_simp
  have hfa2 : w1.frozen? ⟨w.heap.size, 2, none⟩ = false := by rw [hB.frozen (by simp <;> omega)]; go_simp
  have hcb0 : w1.cell? ⟨w.heap.size + 1, 0, none⟩ = some (.bool false) := by rw [hB.cell (by simp <;> omega)]; go_simp
  have hfb0 : w1.frozen? ⟨w.heap.size + 1, 0, none⟩ = false := by rw [hB.frozen (by simp <;> omega)]; go_simp
  have hcb1 : w1.cell? ⟨w.heap.size + 1, 1, none⟩ = some (.int .u64 0) := by rw [hB.cell (by simp <;> omega)]; go_simp
  have hfb1 : w1.frozen? ⟨w.heap.size + 1, 1, none⟩ = false := by rw [hB.frozen (by simp <;> omega)]; go_simp
  have hcb2 : w1.cell? ⟨w.heap.size + 1, 2, none⟩ = some (.int .u64 0) := by rw [hB.cell (by simp <;> omega)]; go_simp
  have hfb2 : w1.frozen? ⟨w.heap.size + 1, 2, none⟩ = false := by rw [hB.frozen (by simp <;> omega)]; go_simp
  have HB : Hid (Below w.heap.size w w1) := (((Below.refl _ _).alloc (Nat.le_refl _) _).alloc (by simp) _).trans (hB.mono (by simp <;> omega))
  clear hB
  go_wp2_with fail
  (try simp only [Exit.inBlock, Exit.then])
  refine bodyPost_ret (v := .agg #[.bool !n0, .int .u64 0, .int .u64 l0]) ?_ rfl ⟨?_, ?_⟩
  · rw [results_cell rfl]
    go_simp
  · rw [hv.out]
  · repeat' (first | assumption | exact Below.refl _ _ | exact HB.out | refine Below.alloc ?_ (by simp <;> omega) _ | refine Below.setCell ?_ (by simp <;> omega) _)
set_option maxRecDepth 100000 in
theorem specNegWide_high (n0 : Bool) (h0 l0 : Int) (w : World) (hk : okV n0 h0 l0 = true) (hh : ¬ h0 = 0) (hv : Hid (negV n0 h0 l0 = !n0)) :
    Calls Try.prog 65 #[.agg #[.bool n0, .int .u64 h0, .int .u64 l0]] w fun e w' => e = .returned (.agg #[.bool (negV n0 h0 l0), .int .u64 h0, .int .u64 l0]) ∧ Below w.heap.size w w' := by
  go_enter Try.func65, Try.ntmps65
  go_wp2_with fail
  refine (specWideOk n0 h0 l0 _).mono ?_
  rintro e w1 ⟨rfl, hB⟩
  rw [hk]
  have hca0 : w1.cell? ⟨w.heap.size, 0, none⟩ = some (.bool n0) := by rw [hB.cell (by simp <;> omega)]; go_simp
  have hfa0 : w1.frozen? ⟨w.heap.size, 0, none⟩ = false := by rw [hB.frozen (by simp <;> omega)]; go_simp
  have hca1 : w1.cell? ⟨w.heap.size, 1, none⟩ = some (.int .u64 h0) := by rw [hB.cell (by simp <;> omega)]; go_simp
  have hfa1 : w1.frozen? ⟨w.heap.size, 1, none⟩ = false := by rw [hB.frozen (by simp <;> omega)]; go_simp
  have hca2 : w1.cell? ⟨w.heap.size, 2, none⟩ = some (.int .u64 l0) := by rw [hB.cell (by simp <;> omega)]; go_simp
  have hfa2 : w1.frozen? ⟨w.heap.size, 2, none⟩ = false := by rw [hB.frozen (by simp <;> omega)]; go_simp
  have hcb0 : w1.cell? ⟨w.heap.size + 1, 0, none⟩ = some (.bool false) := by rw [hB.cell (by simp <;> omega)]; go_simp
  have hfb0 : w1.frozen? ⟨w.heap.size + 1, 0, none⟩ = false := by rw [hB.frozen (by simp <;> omega)]; go_simp
  have hcb1 : w1.cell? ⟨w.heap.size + 1, 1, none⟩ = some (.int .u64 0) := by rw [hB.cell (by simp <;> omega)]; go_simp
  have hfb1 : w1.frozen? ⟨w.heap.size + 1, 1, none⟩ = false := by rw [hB.frozen (by simp <;> omega)]; go_simp
  have hcb2 : w1.cell? ⟨w.heap.size + 1, 2, none⟩ = some (.int .u64 0) := by rw [hB.cell (by simp <;> omega)]; go_simp
  have hfb2 : w1.frozen? ⟨w.heap.size + 1, 2, none⟩ = false := by rw [hB.frozen (by simp <;> omega)]; go_simp
  have HB : Hid (Below w.heap.size w w1) := (((Below.refl _ _).alloc (Nat.le_refl _) _).alloc (by simp) _).trans (hB.mono (by simp <;> omega))
  clear hB
  go_wp2_with fail
  (try simp only [Exit.inBlock, Exit.then])
  refine bodyPost_ret (v := .agg #[.bool !n0, .int .u64 h0, .int .u64 l0]) ?_ rfl ⟨?_, ?_⟩
  · rw [results_cell rfl]
    go_simp
  · rw [hv.out]
  · repeat' (first | assumption | exact Below.refl _ _ | exact HB.out | refine Below.alloc ?_ (by simp <;> omega) _ | refine Below.setCell ?_ (by simp <;> omega) _)
set_option maxRecDepth 100000 in
theorem specNegWide_no (n0 : Bool) (h0 l0 : Int) (w : World) (hk : okV n0 h0 l0 = false) (hv : Hid (negV n0 h0 l0 = n0)) :
    Calls Try.prog 65 #[.agg #[.bool n0, .int .u64 h0, .int .u64 l0]] w fun e w' => e = .returned (.agg #[.bool (negV n0 h0 l0), .int .u64 h0, .int .u64 l0]) ∧ Below w.heap.size w w' := by
  go_enter Try.func65, Try.ntmps65
  go_wp2_with fail
  refine (specWideOk n0 h0 l0 _).mono ?_
  rintro e w1 ⟨rfl, hB⟩
  rw [hk]
  have hca0 : w1.cell? ⟨w.heap.size, 0, none⟩ = some (.bool n0) := by rw [hB.cell (by simp <;> omega)]; go_simp
  have hfa0 : w1.frozen? ⟨w.heap.size, 0, none⟩ = false := by rw [hB.frozen (by simp <;> omega)]; go_simp
  have hca1 : w1.cell? ⟨w.heap.size, 1, none⟩ = some (.int .u64 h0) := by rw [hB.cell (by simp <;> omega)]; go_simp
  have hfa1 : w1.frozen? ⟨w.heap.size, 1, none⟩ = false := by rw [hB.frozen (by simp <;> omega)]; go_simp
  have hca2 : w1.cell? ⟨w.heap.size, 2, none⟩ = some (.int .u64 l0) := by rw [hB.cell (by simp <;> omega)]; go_simp
  have hfa2 : w1.frozen? ⟨w.heap.size, 2, none⟩ = false := by rw [hB.frozen (by simp <;> omega)]; go_simp
  have hcb0 : w1.cell? ⟨w.heap.size + 1, 0, none⟩ = some (.bool false) := by rw [hB.cell (by simp <;> omega)]; go_simp
  have hfb0 : w1.frozen? ⟨w.heap.size + 1, 0, none⟩ = false := by rw [hB.frozen (by simp <;> omega)]; go_simp
  have hcb1 : w1.cell? ⟨w.heap.size + 1, 1, none⟩ = some (.int .u64 0) := by rw [hB.cell (by simp <;> omega)]; go_simp
  have hfb1 : w1.frozen? ⟨w.heap.size + 1, 1, none⟩ = false := by rw [hB.frozen (by simp <;> omega)]; go_simp
  have hcb2 : w1.cell? ⟨w.heap.size + 1, 2, none⟩ = some (.int .u64 0) := by rw [hB.cell (by simp <;> omega)]; go_simp
  have hfb2 : w1.frozen? ⟨w.heap.size + 1, 2, none⟩ = false := by rw [hB.frozen (by simp <;> omega)]; go_simp
  have HB : Hid (Below w.heap.size w w1) := (((Below.refl _ _).alloc (Nat.le_refl _) _).alloc (by simp) _).trans (hB.mono (by simp <;> omega))
  clear hB
  go_wp2_with fail
  (try simp only [Exit.inBlock, Exit.then])
  refine bodyPost_ret (v := .agg #[.bool n0, .int .u64 h0, .int .u64 l0]) ?_ rfl ⟨?_, ?_⟩
  · rw [results_cell rfl]
    go_simp
  · rw [hv.out]
  · repeat' (first | assumption | exact Below.refl _ _ | exact HB.out | refine Below.alloc ?_ (by simp <;> omega) _ | refine Below.setCell ?_ (by simp <;> omega) _)
theorem specNegWide (n0 : Bool) (h0 l0 : Int) (w : World) :
    Calls Try.prog 65 #[.agg #[.bool n0, .int .u64 h0, .int .u64 l0]] w fun e w' => e = .returned (.agg #[.bool (negV n0 h0 l0), .int .u64 h0, .int .u64 l0]) ∧ Below w.heap.size w w' := by
  by_cases hk : okV n0 h0 l0 = true
  · by_cases hh : h0 = 0
    · subst hh
      by_cases hl : l0 = 0
      · subst hl
        exact specNegWide_zero n0 w hk (if_neg (fun h => h.2 ⟨rfl, rfl⟩))
      · exact specNegWide_low n0 l0 w hk hl (if_pos ⟨hk, fun h => hl h.2⟩)
    · exact specNegWide_high n0 h0 l0 w hk hh (if_pos ⟨hk, fun h => hh h.1⟩)
  · exact specNegWide_no n0 h0 l0 w (by simpa using hk) (if_neg (fun h => hk h.1))
/-- What a wide number turned to an int ends in. -/
def intOfE (n : Bool) (h l : Int) : Ending :=
  if 0 < h ∨ 9223372036854775808 < l ∨ (l = 9223372036854775808 ∧ n = false) ∨ (n = true ∧ l = 0) then .returned (.tuple #[.int .i64 0, .bool false]) else .returned (.tuple #[.int .i64 (if n = true then -l else l), .bool true])
theorem intOf_no {n : Bool} {h l : Int} (hc : 0 < h ∨ 9223372036854775808 < l ∨ (l = 9223372036854775808 ∧ n = false) ∨ (n = true ∧ l = 0)) : Ending.returned (.tuple #[.int .i64 0, .bool false]) = intOfE n h l := by rw [intOfE, if_pos hc]
theorem intOf_yes {n : Bool} {h l x : Int} (hc : ¬ (0 < h ∨ 9223372036854775808 < l ∨ (l = 9223372036854775808 ∧ n = false) ∨ (n = true ∧ l = 0))) (hx : x = if n = true then -l else l) : Ending.returned (.tuple #[.int .i64 x, .bool true]) = intOfE n h l := by rw [intOfE, if_neg hc, hx]
end Go.Proofs.Ytjmlpeapbealfaa
