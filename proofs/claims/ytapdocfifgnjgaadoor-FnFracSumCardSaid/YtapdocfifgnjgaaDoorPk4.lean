/-
  Wide numbers of the reference: the difference, and what all of them answer on numbers that have room.
  The numerals of wide numbers: what is of no program.
-/
import Derived.Test.YtapdocfifgnjgaaDoorWideA
import Derived.Deep.RegionWith
import Derived.Test.YtapdocfifgnjgaaDoorPk1
namespace Go.Proofs.YtapdocfifgnjgaaDoor
open Go.RowKit

theorem below_of_drew {w w' : World} (h : Below w.drew.heap.size w.drew w') : Below w.heap.size w w' := ⟨h.os, h.tape, h.output, h.size, h.block⟩
theorem box_new (w : World) (o : Obj) : (w.alloc o).heap[w.heap.size]? = some o := by
  show (w.heap.push _)[w.heap.size]? = _
  simp
theorem box3 {w w1 : World} {a b r : Array Value} {T U V : TypeId} (hB : Below (((w.alloc (.cells a T)).alloc (.cells b U)).alloc (.cells r V)).heap.size (((w.alloc (.cells a T)).alloc (.cells b U)).alloc (.cells r V)) w1) :
    w1.heap[w.heap.size]? = some (.cells a T (0, 0)) ∧ w1.heap[w.heap.size + 1]? = some (.cells b U (0, 0)) ∧ w1.heap[w.heap.size + 1 + 1]? = some (.cells r V (0, 0)) ∧ Below w.heap.size w w1 ∧ w.heap.size + 1 + 1 + 1 ≤ w1.heap.size := by
  have hs : (((w.alloc (.cells a T)).alloc (.cells b U)).alloc (.cells r V)).heap.size = w.heap.size + 1 + 1 + 1 := by simp
  have h := hB.size
  rw [hs] at h hB
  refine ⟨?_, ?_, ?_, ((((Below.refl _ _).alloc (Nat.le_refl _) _).alloc (by simp) _).alloc (by simp <;> omega) _).trans (hB.mono (by omega)), h⟩
  · rw [hB.block _ (by omega), Below.heap_alloc _ _ _ (by simp <;> omega), Below.heap_alloc _ _ _ (by simp)]
    exact box_new _ _
  · rw [hB.block _ (by omega), Below.heap_alloc _ _ _ (by simp)]
    have := box_new (w.alloc (.cells a T)) (.cells b U)
    rwa [show (w.alloc (.cells a T)).heap.size = w.heap.size + 1 by simp] at this
  · rw [hB.block _ (by omega)]
    have := box_new ((w.alloc (.cells a T)).alloc (.cells b U)) (.cells r V)
    rwa [show ((w.alloc (.cells a T)).alloc (.cells b U)).heap.size = w.heap.size + 1 + 1 by simp] at this
theorem fitW_shape (z : Int) : ∃ (n : Bool) (h l : Int) (k : Bool), fitW z = .returned (.tuple #[.agg #[.bool n, .int .u64 h, .int .u64 l], .bool k]) := by
  unfold fitW
  split
  · exact ⟨_, _, _, _, rfl⟩
  · exact ⟨_, _, _, _, rfl⟩
theorem addE_shape (n : Bool) (h l : Int) (m : Bool) (i j : Int) : ∃ (r : Bool) (x y : Int) (k : Bool), addE n h l m i j = .returned (.tuple #[.agg #[.bool r, .int .u64 x, .int .u64 y], .bool k]) := by
  unfold addE
  split
  · exact fitW_shape _
  · exact ⟨_, _, _, _, rfl⟩

theorem wideC_sv (x : Int) : sv (decide (x < 0)) ((x.natAbs : Int) / 18446744073709551616 * 18446744073709551616 + (x.natAbs : Int) % 18446744073709551616) = x := by
  by_cases h : x < 0 <;> simp [sv, h] <;> omega
theorem wideC_ok {x : Int} (hx : RoomW x) : okV (decide (x < 0)) ((x.natAbs : Int) / 18446744073709551616) ((x.natAbs : Int) % 18446744073709551616) = true := by
  have h1 : (x.natAbs : Int) / 18446744073709551616 < 9223372036854775808 := by unfold RoomW at hx; omega
  exact okV_mk h1 (fun h => by have := of_decide_eq_true h; omega)
theorem wideC_neg {x : Int} (hx : RoomW x) : sv (negV (decide (x < 0)) ((x.natAbs : Int) / 18446744073709551616) ((x.natAbs : Int) % 18446744073709551616)) ((x.natAbs : Int) / 18446744073709551616 * 18446744073709551616 + (x.natAbs : Int) % 18446744073709551616) = -x := by
  have hk := wideC_ok hx
  unfold negV
  by_cases h0 : x = 0
  · subst h0
    simp [sv]
  · rw [if_pos ⟨hk, by omega⟩]
    by_cases h : x < 0 <;> simp [sv, h] <;> omega
theorem wideC_negok {x : Int} (hx : RoomW x) : okV (negV (decide (x < 0)) ((x.natAbs : Int) / 18446744073709551616) ((x.natAbs : Int) % 18446744073709551616)) ((x.natAbs : Int) / 18446744073709551616) ((x.natAbs : Int) % 18446744073709551616) = true := by
  have h1 : (x.natAbs : Int) / 18446744073709551616 < 9223372036854775808 := by unfold RoomW at hx; omega
  refine okV_mk h1 (fun h => ?_)
  by_cases h0 : x = 0
  · subst h0
    simp [negV, okV] at h
  · omega
/-- An int as a wide number. -/
theorem specWideOfW (x : Int) (x0 : -9223372036854775808 ≤ x) (x1 : x ≤ 9223372036854775807) (w : World) :
    Calls Tryd.prog 49 #[.int .i64 x] w fun e w' => e = .returned (wideC x) ∧ Below w.heap.size w w' := by
  refine (specWideOf x x0 x1 w).mono fun e w1 h => ⟨h.1.trans ?_, h.2⟩
  unfold wideC
  rw [show (x.natAbs : Int) / 18446744073709551616 = 0 by omega, show (x.natAbs : Int) % 18446744073709551616 = x.natAbs by omega]
theorem fitW_in {z : Int} (h : RoomW z) : fitW z = .returned (.tuple #[wideC z, .bool true]) := by rw [fitW, if_pos h]
end Go.Proofs.YtapdocfifgnjgaaDoor
namespace Go.Proofs.YtapdocfifgnjgaaDoor

theorem decDigits_len39 {u : Nat} (h : u < 170141183460469231731687303715884105728) : (Lib.decDigits u).length ≤ 39 := by
  rw [Lib.decDigits_length]; exact nDigits_le 38 u (by omega)
/-- l is the numeral of the number z, which has room. -/
def IsW (l : List UInt8) (z : Int) : Prop := RoomW z ∧ Lib.itoa z = l
/-- The text of a wide number. -/
def textV (n : Bool) (h l : Int) : List UInt8 := if okV n h l = true then Lib.itoa (sv n (h * 18446744073709551616 + l)) else []

theorem isW_parts {l : List UInt8} {n : Int} (h : IsW l n) :
    (∀ c ∈ l.drop (startOf l), isDig c) ∧ 1 ≤ (l.drop (startOf l)).length ∧ valFrom 0 (l.drop (startOf l)) = n.natAbs ∧ (startOf l = if n < 0 then 1 else 0) ∧ 1 ≤ l.length ∧ l.length ≤ 40 := by
  obtain ⟨h0, rfl⟩ := h
  unfold RoomW at h0
  by_cases hn : n < 0
  · obtain ⟨u, hu⟩ : ∃ u : Nat, n = -(u : Int) := ⟨n.natAbs, by omega⟩
    subst hu
    rw [Lib.itoa_neg u (by omega)]
    have hs : startOf (45 :: Lib.decDigits u) = 1 := by unfold startOf; simp
    have hl := decDigits_len39 (u := u) (by omega)
    have hp := decDigits_pos u
    rw [hs]
    refine ⟨by simpa using decDigits_dig u, by simpa using hp, ?_, by rw [if_pos hn], by simp, by simp; omega⟩
    simp [valFrom_decDigits]
  · obtain ⟨u, rfl⟩ := Int.eq_ofNat_of_zero_le (by omega : 0 ≤ n)
    rw [Lib.itoa_nonneg, decDigits_start]
    have hl := decDigits_len39 (u := u) (by omega)
    have hp := decDigits_pos u
    refine ⟨by simpa using decDigits_dig u, by simpa using hp, ?_, by rw [if_neg hn], by omega, by omega⟩
    simp [valFrom_decDigits]
/-- A byte that is no digit. -/
theorem notW_byte {l : List UInt8} {k v : Nat} {c : UInt8} (h : ReadTo l k v) (hc : l[k]? = some c) (hd : ¬ isDig c) : ∀ n, ¬ IsW l n :=
  fun _ hn => hd ((isW_parts hn).1 c (mem_drop_at h.1 hc))
/-- Too great. -/
theorem notW_big {l : List UInt8} {k v : Nat} (h : ReadTo l k v) (hv : 170141183460469231731687303715884105728 ≤ v) : ∀ n, ¬ IsW l n := by
  intro n hn
  have hp := (isW_parts hn).2.2.1
  have e : l.drop (startOf l) = (l.take k).drop (startOf l) ++ l.drop k := by
    have hf := h.1
    generalize startOf l = f at hf
    by_cases hk : k ≤ l.length
    · have := List.drop_append_of_le_length (l₂ := l.drop k) (show f ≤ (l.take k).length by simp; omega)
      rwa [List.take_append_drop] at this
    · rw [List.drop_eq_nil_of_le (by omega : l.length ≤ k), List.take_of_length_le (by omega)]; simp
  rw [e, valFrom_append, h.2.2] at hp
  have := valFrom_ge (l.drop k) v
  have h0 := hn.1
  unfold RoomW at h0
  omega
theorem readToW_all {l : List UInt8} {v : Nat} (h : ReadTo l l.length v) {n : Int} (hn : IsW l n) : n = if startOf l = 0 then (v : Int) else -(v : Int) := by
  obtain ⟨_, _, hp, hs, _⟩ := isW_parts hn
  obtain ⟨_, _, h3⟩ := h
  rw [List.take_length] at h3
  rw [h3] at hp
  by_cases hneg : n < 0
  · rw [if_pos hneg] at hs; rw [hs, if_neg (by omega)]; omega
  · rw [if_neg hneg] at hs; rw [hs, if_pos rfl]; omega
theorem isW_one {l : List UInt8} {n m : Int} (h : IsW l n) (k : IsW l m) : n = m := by
  obtain ⟨_, _, hp, hs, _⟩ := isW_parts h
  obtain ⟨_, _, kp, ks, _⟩ := isW_parts k
  rw [hp] at kp
  rw [hs] at ks
  by_cases hn : n < 0 <;> by_cases hm : m < 0 <;> simp [hn, hm] at ks <;> omega
theorem textV_wide {z : Int} (h : RoomW z) : textV (decide (z < 0)) ((z.natAbs : Int) / 18446744073709551616) ((z.natAbs : Int) % 18446744073709551616) = Lib.itoa z := by
  rw [textV, if_pos (wideC_ok h), wideC_sv]
theorem isW_text {n : Bool} {h l : Int} (h0 : 0 ≤ h) (l0 : 0 ≤ l) (l1 : l < 18446744073709551616) (k : okV n h l = true) : IsW (textV n h l) (sv n (h * 18446744073709551616 + l)) := by
  refine ⟨?_, by rw [textV, if_pos k]⟩
  have := (okV_yes k).1
  unfold RoomW
  cases n <;> simp [sv] <;> omega
theorem noW_nil : ∀ z, ¬ IsW [] z := fun z h => by have := (isW_parts h).2.2.2.2.1; simp at this
end Go.Proofs.YtapdocfifgnjgaaDoor
