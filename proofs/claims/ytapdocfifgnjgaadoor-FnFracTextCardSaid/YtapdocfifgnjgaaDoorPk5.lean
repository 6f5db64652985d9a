/-
  Chapter 3: the remaining draws, and the laws' own ways from and to wide numbers.
  Wide numbers of the program: the order of magnitudes.
-/
import Derived.Test.YtapdocfifgnjgaaDoorWideD
import Derived.Test.YtapdocfifgnjgaaDoorImpA
import Derived.Deep.RegionHeld3
namespace Go.Proofs.YtapdocfifgnjgaaDoor
open Go.RowKit

set_option maxRecDepth 100000 in
set_option maxHeartbeats 1000000 in
theorem toWide (n0 : Bool) (h0 l0 : Int) (w : World) :
    Calls Tryd.prog 46 #[.agg #[.bool n0, .int .u64 h0, .int .u64 l0]] w fun e w' => e = .returned (.agg #[.bool n0, .int .u64 h0, .int .u64 l0]) ∧ Below w.heap.size w w' := by
  go_enter Tryd.func46, Tryd.ntmps46
  go_wp2_with fail
  (try simp only [Exit.inBlock, Exit.then])
  refine bodyPost_ret (v := .agg #[.bool n0, .int .u64 h0, .int .u64 l0]) ?_ rfl ⟨rfl, ?_⟩
  · rw [results_cell rfl]
    go_simp
  · repeat' (first | assumption | exact Below.refl _ _ | refine Below.alloc ?_ (by simp <;> omega) _ | refine Below.setCell ?_ (by simp <;> omega) _)
def ScaleOut (e : Ending) : Prop := ∃ (n : Bool) (h l k : Int), (0 ≤ h ∧ h < 18446744073709551616) ∧ (0 ≤ l ∧ l < 18446744073709551616) ∧ (-9223372036854775808 ≤ k ∧ k ≤ 9223372036854775807) ∧ e = .returned (.tuple #[.agg #[.bool n, .int .u64 h, .int .u64 l], .int .i64 k])
end Go.Proofs.YtapdocfifgnjgaaDoor
namespace Go.Proofs.YtapdocfifgnjgaaDoor
open Go.RowKit

theorem ordV_or (h0 l0 h1 l1 : Int) : (if ordI h0 h1 = 0 then ordI l0 l1 else ordI h0 h1) = ordV h0 l0 h1 l1 := by
  unfold ordI ordV
  repeat' split
  all_goals omega
theorem below_cell {wr w' : World} {b k : Nat} {x : Value} (h : wr.cell? ⟨b, k, none⟩ = some x) (hB : Below wr.heap.size wr w') : w'.cell? ⟨b, k, none⟩ = some x := by
  rw [hB.cell (World.block_lt_of_cell? wr _ h)]; exact h
theorem kept_alloc {wr : World} {b k : Nat} {x : Value} (h : wr.cell? ⟨b, k, none⟩ = some x) (o : Obj) : (wr.alloc o).cell? ⟨b, k, none⟩ = some x :=
  below_cell h ((Below.refl _ _).alloc (Nat.le_refl _) o)
theorem cmpU64S (W : World) (a b : Nat) (p q r s : Value) (x y : Int) (wr : World)
    (h : wr.cell? ⟨a, 1, none⟩ = some p ∧ wr.cell? ⟨a, 2, none⟩ = some q ∧ wr.cell? ⟨b, 1, none⟩ = some r ∧ wr.cell? ⟨b, 2, none⟩ = some s ∧ Below W.heap.size W wr) :
    Calls Tryd.prog 76 #[.int .u64 x, .int .u64 y] wr fun e w' => e = .returned (.int .i64 (ordI x y)) ∧ w'.cell? ⟨a, 1, none⟩ = some p ∧ w'.cell? ⟨a, 2, none⟩ = some q ∧ w'.cell? ⟨b, 1, none⟩ = some r ∧ w'.cell? ⟨b, 2, none⟩ = some s ∧ Below W.heap.size W w' :=
  (cmpU64 x y wr).mono fun _ _ k => ⟨k.1, below_cell h.1 k.2, below_cell h.2.1 k.2, below_cell h.2.2.1 k.2, below_cell h.2.2.2.1 k.2, bt2 h.2.2.2.2 k.2⟩
set_option maxRecDepth 100000 in
set_option maxHeartbeats 1000000 in
theorem implOrder (n0 : Bool) (h0 l0 : Int) (n1 : Bool) (h1 l1 : Int) (w : World) :
    Calls Tryd.prog 54 #[.agg #[.bool n0, .int .u64 h0, .int .u64 l0], .agg #[.bool n1, .int .u64 h1, .int .u64 l1]] w fun e w' => e = .returned (.int .i64 (ordV h0 l0 h1 l1)) ∧ Below w.heap.size w w' := by
  have HO := Lib.hid (ordV_or h0 l0 h1 l1)
  go_enter Tryd.func54, Tryd.ntmps54
  go_wp2_with fail
  have HB : Below w.heap.size w ((w.alloc (.cells #[.bool n0, .int .u64 h0, .int .u64 l0] 26)).alloc (.cells #[.bool n1, .int .u64 h1, .int .u64 l1] 26)) := ((Below.refl _ _).alloc (Nat.le_refl _) _).alloc (by simp) _
  have g0 : ((w.alloc (.cells #[.bool n0, .int .u64 h0, .int .u64 l0] 26)).alloc (.cells #[.bool n1, .int .u64 h1, .int .u64 l1] 26)).cell? ⟨w.heap.size, 1, none⟩ = some (.int .u64 h0) := by go_simp
  have g1 : ((w.alloc (.cells #[.bool n0, .int .u64 h0, .int .u64 l0] 26)).alloc (.cells #[.bool n1, .int .u64 h1, .int .u64 l1] 26)).cell? ⟨w.heap.size, 2, none⟩ = some (.int .u64 l0) := by go_simp
  have g2 : ((w.alloc (.cells #[.bool n0, .int .u64 h0, .int .u64 l0] 26)).alloc (.cells #[.bool n1, .int .u64 h1, .int .u64 l1] 26)).cell? ⟨w.heap.size + 1, 1, none⟩ = some (.int .u64 h1) := by go_simp
  have g3 : ((w.alloc (.cells #[.bool n0, .int .u64 h0, .int .u64 l0] 26)).alloc (.cells #[.bool n1, .int .u64 h1, .int .u64 l1] 26)).cell? ⟨w.heap.size + 1, 2, none⟩ = some (.int .u64 l1) := by go_simp
  go_region_held3 (fun w' => w'.cell? ⟨w.heap.size, 1, none⟩ = some (.int .u64 h0) ∧ w'.cell? ⟨w.heap.size, 2, none⟩ = some (.int .u64 l0) ∧ w'.cell? ⟨w.heap.size + 1, 1, none⟩ = some (.int .u64 h1) ∧ w'.cell? ⟨w.heap.size + 1, 2, none⟩ = some (.int .u64 l1) ∧ Below w.heap.size w w') (first | exact ⟨‹_›, ‹_›, ‹_›, ‹_›, ‹_›⟩ | exact ⟨g0, g1, g2, g3, HB.drew⟩ | exact ⟨kept_alloc ‹_› _, kept_alloc ‹_› _, kept_alloc ‹_› _, kept_alloc ‹_› _, Below.alloc ‹_› (Below.size ‹_›) _⟩ | go_keep)
    (first | (go_at_call 76; refine (cmpU64S w w.heap.size (w.heap.size + 1) (.int .u64 h0) (.int .u64 l0) (.int .u64 h1) (.int .u64 l1) _ _ _ ?_).mono ?_; (first | exact ⟨‹_›, ‹_›, ‹_›, ‹_›, ‹_›⟩ | exact ⟨g0, g1, g2, g3, HB.drew⟩ | assumption); rintro e w5 ⟨rfl, hk0, hk1, hk2, hk3, hk4⟩) | (go_at_call 75; refine (cmpOr (ordI h0 h1) (ordI l0 l1) _ _ ?_ ?_).mono ?_; (go_simp); (go_simp); rintro e w7 ⟨rfl, rfl⟩; rw [HO.out]))
  go_wp2_with fail
  all_goals (go_ret; exact ⟨rfl, by first | assumption | exact Below.alloc ‹_› (Below.size ‹_›) _⟩)
end Go.Proofs.YtapdocfifgnjgaaDoor
