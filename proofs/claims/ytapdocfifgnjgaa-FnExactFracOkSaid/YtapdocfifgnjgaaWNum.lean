
/-
  The numerals of wide numbers: what is of no program.
-/
import Derived.Test.YtapdocfifgnjgaaNum
import Derived.Test.YtapdocfifgnjgaaWideB
namespace Go.Proofs.Ytapdocfifgnjgaa

theorem decDigits_len39 {u : Nat} (h : u < 170141183460469231731687303715884105728) : (Lib.decDigits u).length ≤ 39 := by
  rw [Lib.decDigits_length]; exact nDigits_le 38 u (by omega)
/-- l is the numeral of the number z, which has room. -/
def IsW (l : List UInt8) (z : Int) : Prop := RoomW z ∧ Lib.itoa z = l
/-- The text of a wide number. -/
def textV (n : Bool) (h l : Int) : List UInt8 := if okV n h l = true then Lib.itoa (sv n (h * 18446744073709551616 + l)) else []

theorem isW_parts {l : List UInt8} {n : Int} (h : IsW l n) :
    (∀ c ∈ l.drop (startOf l), isDig c) ∧ 1 ≤ (l.drop (startOf l)).length ∧ valFrom 0 (l.drop (startOf l)) = n.natAbs ∧ (startOf l = if n < 0 then 1 else 0) ∧ 1 ≤ l.length ∧ l.length ≤ 40 := by
  obtain ⟨h0, rfl⟩ := h
  unfold RoomW at h0
  by_cases hn : n < 0
  · obtain ⟨u, hu⟩ : ∃ u : Nat, n = -(u : Int) := ⟨n.natAbs, by omega⟩
    subst hu
    rw [Lib.itoa_neg u (by omega)]
    have hs : startOf (45 :: Lib.decDigits u) = 1 := by unfold startOf; simp
    have hl := decDigits_len39 (u := u) (by omega)
    have hp := decDigits_pos u
    rw [hs]
    refine ⟨by simpa using decDigits_dig u, by simpa using hp, ?_, by rw [if_pos hn], by simp, by simp; omega⟩
    simp [valFrom_decDigits]
  · obtain ⟨u, rfl⟩ := Int.eq_ofNat_of_zero_le (by omega : 0 ≤ n)
    rw [Lib.itoa_nonneg, decDigits_start]
    have hl := decDigits_len39 (u := u) (by omega)
    have hp := decDigits_pos u
    refine ⟨by simpa using decDigits_dig u, by simpa using hp, ?_, by rw [if_neg hn], by omega, by omega⟩
    simp [valFrom_decDigits]
/-- A byte that is no digit. -/
theorem notW_byte {l : List UInt8} {k v : Nat} {c : UInt8} (h : ReadTo l k v) (hc : l[k]? = some c) (hd : ¬ isDig c) : ∀ n, ¬ IsW l n :=
  fun _ hn => hd ((isW_parts hn).1 c (mem_drop_at h.1 hc))
/-- Too great. -/
theorem notW_big {l : List UInt8} {k v : Nat} (h : ReadTo l k v) (hv : 170141183460469231731687303715884105728 ≤ v) : ∀ n, ¬ IsW l n := by
  intro n hn
  have hp := (isW_parts hn).2.2.1
  have e : l.drop (startOf l) = (l.take k).drop (startOf l) ++ l.drop k := by
    have hf := h.1
    generalize startOf l = f at hf
    by_cases hk : k ≤ l.length
    · have := List.drop_append_of_le_length (l₂ := l.drop k) (show f ≤ (l.take k).length by simp; omega)
      rwa [List.take_append_drop] at this
    · rw [List.drop_eq_nil_of_le (by omega : l.length ≤ k), List.take_of_length_le (by omega)]; simp
  rw [e, valFrom_append, h.2.2] at hp
  have := valFrom_ge (l.drop k) v
  have h0 := hn.1
  unfold RoomW at h0
  omega
theorem readToW_all {l : List UInt8} {v : Nat} (h : ReadTo l l.length v) {n : Int} (hn : IsW l n) : n = if startOf l = 0 then (v : Int) else -(v : Int) := by
  obtain ⟨_, _, hp, hs, _⟩ := isW_parts hn
  obtain ⟨_, _, h3⟩ := h
  rw [List.take_length] at h3
  rw [h3] at hp
  by_cases hneg : n < 0
  · rw [if_pos hneg] at hs; rw [hs, if_neg (by omega)]; omega
  · rw [if_neg hneg] at hs; rw [hs, if_pos rfl]; omega
theorem isW_one {l : List UInt8} {n m : Int} (h : IsW l n) (k : IsW l m) : n = m := by
  obtain ⟨_, _, hp, hs, _⟩ := isW_parts h
  obtain ⟨_, _, kp, ks, _⟩ := isW_parts k
  rw [hp] at kp
  rw [hs] at ks
  by_cases hn : n < 0 <;> by_cases hm : m < 0 <;> simp [hn, hm] at ks <;> omega
theorem textV_wide {z : Int} (h : RoomW z) : textV (decide (z < 0)) ((z.natAbs : Int) / 18446744073709551616) ((z.natAbs : Int) % 18446744073709551616) = Lib.itoa z := by
  rw [textV, if_pos (wideC_ok h), wideC_sv]
theorem isW_text {n : Bool} {h l : Int} (h0 : 0 ≤ h) (l0 : 0 ≤ l) (l1 : l < 18446744073709551616) (k : okV n h l = true) : IsW (textV n h l) (sv n (h * 18446744073709551616 + l)) := by
  refine ⟨?_, by rw [textV, if_pos k]⟩
  have := (okV_yes k).1
  unfold RoomW
  cases n <;> simp [sv] <;> omega
theorem noW_nil : ∀ z, ¬ IsW [] z := fun z h => by have := (isW_parts h).2.2.2.2.1; simp at this
end Go.Proofs.Ytapdocfifgnjgaa
