
/-
  Wide numbers of the reference: the difference, and what all of them answer on numbers that have room.
-/
import Derived.Test.YtapdocfifgnjgaaWideA
import Derived.Deep.RegionWith
namespace Go.Proofs.Ytapdocfifgnjgaa
open Go.RowKit

theorem below_of_drew {w w' : World} (h : Below w.drew.heap.size w.drew w') : Below w.heap.size w w' := ⟨h.os, h.tape, h.output, h.size, h.block⟩
theorem box_new (w : World) (o : Obj) : (w.alloc o).heap[w.heap.size]? = some o := by
  show (w.heap.push _)[w.heap.size]? = _
  simp
theorem box3 {w w1 : World} {a b r : Array Value} {T U V : TypeId} (hB : Below (((w.alloc (.cells a T)).alloc (.cells b U)).alloc (.cells r V)).heap.size (((w.alloc (.cells a T)).alloc (.cells b U)).alloc (.cells r V)) w1) :
    w1.heap[w.heap.size]? = some (.cells a T (0, 0)) ∧ w1.heap[w.heap.size + 1]? = some (.cells b U (0, 0)) ∧ w1.heap[w.heap.size + 1 + 1]? = some (.cells r V (0, 0)) ∧ Below w.heap.size w w1 ∧ w.heap.size + 1 + 1 + 1 ≤ w1.heap.size := by
  have hs : (((w.alloc (.cells a T)).alloc (.cells b U)).alloc (.cells r V)).heap.size = w.heap.size + 1 + 1 + 1 := by simp
  have h := hB.size
  rw [hs] at h hB
  refine ⟨?_, ?_, ?_, ((((Below.refl _ _).alloc (Nat.le_refl _) _).alloc (by simp) _).alloc (by simp <;> omega) _).trans (hB.mono (by omega)), h⟩
  · rw [hB.block _ (by omega), Below.heap_alloc _ _ _ (by simp <;> omega), Below.heap_alloc _ _ _ (by simp)]
    exact box_new _ _
  · rw [hB.block _ (by omega), Below.heap_alloc _ _ _ (by simp)]
    have := box_new (w.alloc (.cells a T)) (.cells b U)
    rwa [show (w.alloc (.cells a T)).heap.size = w.heap.size + 1 by simp] at this
  · rw [hB.block _ (by omega)]
    have := box_new ((w.alloc (.cells a T)).alloc (.cells b U)) (.cells r V)
    rwa [show ((w.alloc (.cells a T)).alloc (.cells b U)).heap.size = w.heap.size + 1 + 1 by simp] at this
theorem fitW_shape (z : Int) : ∃ (n : Bool) (h l : Int) (k : Bool), fitW z = .returned (.tuple #[.agg #[.bool n, .int .u64 h, .int .u64 l], .bool k]) := by
  unfold fitW
  split
  · exact ⟨_, _, _, _, rfl⟩
  · exact ⟨_, _, _, _, rfl⟩
theorem addE_shape (n : Bool) (h l : Int) (m : Bool) (i j : Int) : ∃ (r : Bool) (x y : Int) (k : Bool), addE n h l m i j = .returned (.tuple #[.agg #[.bool r, .int .u64 x, .int .u64 y], .bool k]) := by
  unfold addE
  split
  · exact fitW_shape _
  · exact ⟨_, _, _, _, rfl⟩

theorem wideC_sv (x : Int) : sv (decide (x < 0)) ((x.natAbs : Int) / 18446744073709551616 * 18446744073709551616 + (x.natAbs : Int) % 18446744073709551616) = x := by
  by_cases h : x < 0 <;> simp [sv, h] <;> omega
theorem wideC_ok {x : Int} (hx : RoomW x) : okV (decide (x < 0)) ((x.natAbs : Int) / 18446744073709551616) ((x.natAbs : Int) % 18446744073709551616) = true := by
  have h1 : (x.natAbs : Int) / 18446744073709551616 < 9223372036854775808 := by unfold RoomW at hx; omega
  exact okV_mk h1 (fun h => by have := of_decide_eq_true h; omega)
theorem wideC_neg {x : Int} (hx : RoomW x) : sv (negV (decide (x < 0)) ((x.natAbs : Int) / 18446744073709551616) ((x.natAbs : Int) % 18446744073709551616)) ((x.natAbs : Int) / 18446744073709551616 * 18446744073709551616 + (x.natAbs : Int) % 18446744073709551616) = -x := by
  have hk := wideC_ok hx
  unfold negV
  by_cases h0 : x = 0
  · subst h0
    simp [sv]
  · rw [if_pos ⟨hk, by omega⟩]
    by_cases h : x < 0 <;> simp [sv, h] <;> omega
theorem wideC_negok {x : Int} (hx : RoomW x) : okV (negV (decide (x < 0)) ((x.natAbs : Int) / 18446744073709551616) ((x.natAbs : Int) % 18446744073709551616)) ((x.natAbs : Int) / 18446744073709551616) ((x.natAbs : Int) % 18446744073709551616) = true := by
  have h1 : (x.natAbs : Int) / 18446744073709551616 < 9223372036854775808 := by unfold RoomW at hx; omega
  refine okV_mk h1 (fun h => ?_)
  by_cases h0 : x = 0
  · subst h0
    simp [negV, okV] at h
  · omega
/-- An int as a wide number. -/
theorem specWideOfW (x : Int) (x0 : -9223372036854775808 ≤ x) (x1 : x ≤ 9223372036854775807) (w : World) :
    Calls Try.prog 40 #[.int .i64 x] w fun e w' => e = .returned (wideC x) ∧ Below w.heap.size w w' := by
  refine (specWideOf x x0 x1 w).mono fun e w1 h => ⟨h.1.trans ?_, h.2⟩
  unfold wideC
  rw [show (x.natAbs : Int) / 18446744073709551616 = 0 by omega, show (x.natAbs : Int) % 18446744073709551616 = x.natAbs by omega]
theorem fitW_in {z : Int} (h : RoomW z) : fitW z = .returned (.tuple #[wideC z, .bool true]) := by rw [fitW, if_pos h]
end Go.Proofs.Ytapdocfifgnjgaa
