/-
  Which lists of bytes are the decimal numeral of an int: plain mathematics.
-/
import Derived.Lib.ItoaLen
import Derived.Lib.ItoaMem
import Derived.Lib.AtoiAll
namespace Go.Proofs.Ytekdlkakcclejaa

def isDig (c : UInt8) : Prop := 48 ≤ c.toNat ∧ c.toNat ≤ 57
def digStep (a : Nat) (c : UInt8) : Nat := a * 10 + (c.toNat - 48)
def valFrom (acc : Nat) (l : List UInt8) : Nat := l.foldl digStep acc
theorem valFrom_nil (acc : Nat) : valFrom acc [] = acc := List.foldl_nil
theorem valFrom_cons (acc : Nat) (c : UInt8) (r : List UInt8) : valFrom acc (c :: r) = valFrom (acc * 10 + (c.toNat - 48)) r := List.foldl_cons ..

theorem valFrom_append (x y : List UInt8) (acc : Nat) : valFrom acc (x ++ y) = valFrom (valFrom acc x) y := List.foldl_append ..

theorem valFrom_ge (y : List UInt8) : ∀ acc, acc ≤ valFrom acc y := by
  induction y with
  | nil => intro acc; rw [valFrom_nil]; exact Nat.le_refl acc
  | cons c r ih =>
    intro acc
    have h1 := ih (acc * 10 + (c.toNat - 48))
    rw [valFrom_cons]
    generalize c.toNat - 48 = d at h1 ⊢
    exact Nat.le_trans (by omega) h1

theorem dig_toNat {k : Nat} (h : k < 10) : (UInt8.ofNat (48 + k)).toNat = 48 + k := by
  rw [UInt8.toNat_ofNat']; omega

theorem decDigits_dig (u : Nat) : ∀ c ∈ Lib.decDigits u, isDig c := by
  induction u using Nat.strongRecOn with
  | _ u ih =>
    by_cases h : u < 10
    · rw [Lib.decDigits_one h]
      intro c hc
      obtain rfl : c = UInt8.ofNat (48 + u) := by simpa using hc
      unfold isDig; rw [dig_toNat h]; omega
    · rw [Lib.decDigits, dif_neg h]
      intro c hc
      rcases List.mem_append.1 hc with hc | hc
      · exact ih (u / 10) (by omega) c hc
      · obtain rfl : c = UInt8.ofNat (48 + u % 10) := by simpa using hc
        unfold isDig; rw [dig_toNat (by omega)]; omega

theorem valFrom_decDigits (u : Nat) : valFrom 0 (Lib.decDigits u) = u := by
  induction u using Nat.strongRecOn with
  | _ u ih =>
    by_cases h : u < 10
    · rw [Lib.decDigits_one h]
      rw [valFrom_cons, valFrom_nil, dig_toNat h]; omega
    · rw [Lib.decDigits, dif_neg h, valFrom_append, ih (u / 10) (by omega)]
      rw [valFrom_cons, valFrom_nil, dig_toNat (by omega)]; omega

theorem nDigits_le : ∀ (k u : Nat), u < 10 ^ (k + 1) → Lib.nDigits u ≤ k + 1
  | 0, u, h => by rw [Lib.nDigits_small (by simpa using h)]; omega
  | k + 1, u, h => by
    by_cases hs : u < 10
    · rw [Lib.nDigits_small hs]; omega
    · rw [Lib.nDigits_big hs]
      have := nDigits_le k (u / 10) (by rw [Nat.pow_succ] at h; omega)
      omega

theorem decDigits_pos (u : Nat) : 1 ≤ (Lib.decDigits u).length := by rw [Lib.decDigits_length]; exact Lib.nDigits_pos u
theorem decDigits_len19 {u : Nat} (h : u ≤ 9223372036854775808) : (Lib.decDigits u).length ≤ 19 := by
  rw [Lib.decDigits_length]; exact nDigits_le 18 u (by omega)

/-- l is the numeral of the int n. -/
def IsNum (l : List UInt8) (n : Int) : Prop := -9223372036854775808 ≤ n ∧ n ≤ 9223372036854775807 ∧ Lib.itoa n = l

/-- Where the digits begin. -/
def startOf (l : List UInt8) : Nat := if l.head?.map (·.toNat) = some 45 then 1 else 0

theorem decDigits_start (u : Nat) : startOf (Lib.decDigits u) = 0 := by
  unfold startOf
  rw [if_neg]
  intro h
  have hp := decDigits_pos u
  have hd := decDigits_dig u
  generalize Lib.decDigits u = l at h hp hd
  cases l with
  | nil => simp at hp
  | cons c r =>
    have := hd c (by simp)
    unfold isDig at this
    simp at h
    omega

theorem isNum_parts {l : List UInt8} {n : Int} (h : IsNum l n) :
    (∀ c ∈ l.drop (startOf l), isDig c) ∧ 1 ≤ (l.drop (startOf l)).length ∧ valFrom 0 (l.drop (startOf l)) = n.natAbs ∧ (startOf l = if n < 0 then 1 else 0) ∧ 1 ≤ l.length ∧ l.length ≤ 20 := by
  obtain ⟨h0, h1, rfl⟩ := h
  by_cases hn : n < 0
  · obtain ⟨u, hu⟩ : ∃ u : Nat, n = -(u : Int) := ⟨n.natAbs, by omega⟩
    subst hu
    rw [Lib.itoa_neg u (by omega)]
    have hs : startOf (45 :: Lib.decDigits u) = 1 := by unfold startOf; simp
    have hl := decDigits_len19 (u := u) (by omega)
    have hp := decDigits_pos u
    rw [hs]
    refine ⟨by simpa using decDigits_dig u, by simpa using hp, ?_, by rw [if_pos hn], by simp, by simp; omega⟩
    simp [valFrom_decDigits]
  · obtain ⟨u, rfl⟩ := Int.eq_ofNat_of_zero_le (by omega : 0 ≤ n)
    rw [Lib.itoa_nonneg, decDigits_start]
    have hl := decDigits_len19 (u := u) (by omega)
    have hp := decDigits_pos u
    refine ⟨by simpa using decDigits_dig u, by simpa using hp, ?_, by rw [if_neg hn], by omega, by omega⟩
    simp [valFrom_decDigits]

/-- What has been read at index k: only digits, of value v. -/
def ReadTo (l : List UInt8) (k v : Nat) : Prop := startOf l ≤ k ∧ (∀ c ∈ (l.take k).drop (startOf l), isDig c) ∧ valFrom 0 ((l.take k).drop (startOf l)) = v

theorem readTo_start (l : List UInt8) : ReadTo l (startOf l) 0 := by
  refine ⟨Nat.le_refl _, ?_, ?_⟩
  · intro c hc; rw [List.drop_eq_nil_of_le (by simp; omega)] at hc; simp at hc
  · rw [List.drop_eq_nil_of_le (by simp; omega)]; exact valFrom_nil 0

theorem take_drop_succ {l : List UInt8} {k f : Nat} {c : UInt8} (hf : f ≤ k) (hc : l[k]? = some c) : (l.take (k + 1)).drop f = (l.take k).drop f ++ [c] := by
  have hk : k < l.length := by
    rcases Nat.lt_or_ge k l.length with h | h
    · exact h
    · rw [List.getElem?_eq_none h] at hc; cases hc
  rw [List.take_add_one, hc, List.drop_append_of_le_length (by simp; omega)]
  rfl

theorem readTo_step {l : List UInt8} {k v : Nat} {c : UInt8} (h : ReadTo l k v) (hc : l[k]? = some c) (hd : isDig c) : ReadTo l (k + 1) (v * 10 + (c.toNat - 48)) := by
  obtain ⟨h1, h2, h3⟩ := h
  refine ⟨by omega, ?_, ?_⟩
  · rw [take_drop_succ h1 hc]
    intro x hx
    rcases List.mem_append.1 hx with hx | hx
    · exact h2 x hx
    · obtain rfl : x = c := by simpa using hx
      exact hd
  · rw [take_drop_succ h1 hc, valFrom_append, h3, valFrom_cons, valFrom_nil]

theorem mem_drop_at {l : List UInt8} {k f : Nat} {c : UInt8} (hf : f ≤ k) (hc : l[k]? = some c) : c ∈ l.drop f :=
  List.mem_of_getElem? (i := k - f) (by rw [List.getElem?_drop]; rw [show f + (k - f) = k by omega]; exact hc)

/-- A byte that is no digit. -/
theorem notNum_byte {l : List UInt8} {k v : Nat} {c : UInt8} (h : ReadTo l k v) (hc : l[k]? = some c) (hd : ¬ isDig c) : ∀ n, ¬ IsNum l n :=
  fun _ hn => hd ((isNum_parts hn).1 c (mem_drop_at h.1 hc))

/-- Too great. -/
theorem notNum_big {l : List UInt8} {k v : Nat} (h : ReadTo l k v) (hv : 9223372036854775808 < v) : ∀ n, ¬ IsNum l n := by
  intro n hn
  have hp := (isNum_parts hn).2.2.1
  have e : l.drop (startOf l) = (l.take k).drop (startOf l) ++ l.drop k := by
    have hf := h.1
    generalize startOf l = f at hf
    by_cases hk : k ≤ l.length
    · have := List.drop_append_of_le_length (l₂ := l.drop k) (show f ≤ (l.take k).length by simp; omega)
      rwa [List.take_append_drop] at this
    · rw [List.drop_eq_nil_of_le (by omega : l.length ≤ k), List.take_of_length_le (by omega)]; simp
  rw [e, valFrom_append, h.2.2] at hp
  have := valFrom_ge (l.drop k) v
  have := hn.1
  have := hn.2.1
  omega

theorem readTo_all {l : List UInt8} {v : Nat} (h : ReadTo l l.length v) {n : Int} (hn : IsNum l n) : n = if startOf l = 0 then (v : Int) else -(v : Int) := by
  obtain ⟨_, _, hp, hs, _⟩ := isNum_parts hn
  obtain ⟨_, _, h3⟩ := h
  rw [List.take_length] at h3
  rw [h3] at hp
  by_cases hneg : n < 0
  · rw [if_pos hneg] at hs; rw [hs, if_neg (by omega)]; omega
  · rw [if_neg hneg] at hs; rw [hs, if_pos rfl]; omega

theorem parse_valFrom : ∀ (l : List UInt8) (acc : Nat), (∀ c ∈ l, isDig c) → valFrom acc l < 18446744073709551616 → Lib.parseUint10 acc l = .ok (valFrom acc l)
  | [], acc, _, _ => by rw [valFrom_nil]; rfl
  | c :: r, acc, hd, hv => by
    have h := hd c (by simp)
    unfold isDig at h
    have hg := valFrom_ge r (acc * 10 + (c.toNat - 48))
    rw [valFrom_cons] at hv ⊢
    simp only [Lib.parseUint10]
    rw [if_pos h, if_neg (by omega), if_neg (by omega)]
    exact parse_valFrom r _ (fun x hx => hd x (by simp [hx])) hv

/-- strconv.Atoi reads the numeral of an int. -/
theorem atoi_isNum {l : List UInt8} {n : Int} (h : IsNum l n) : Lib.atoiAll l = .ok n := by
  obtain ⟨hd, hl, hv, hs, _, _⟩ := isNum_parts h
  obtain ⟨h0, h1, h2⟩ := h
  cases l with
  | nil => simp at hl
  | cons c r =>
    by_cases hn : n < 0
    · rw [if_pos hn] at hs
      have hc : c.toNat = 45 := by
        unfold startOf at hs
        split at hs
        · rename_i h; simpa using h
        · omega
      rw [hs] at hd hl hv
      simp only [List.drop_succ_cons, List.drop_zero] at hd hl hv
      have hp := parse_valFrom r 0 hd (by omega)
      have hm : Lib.parseMag r = .ok n.natAbs := by
        unfold Lib.parseMag
        rw [if_neg (by intro h; rw [h] at hl; simp at hl), hp, hv]
      simp only [Lib.atoiAll, hc, or_true, if_true, hm]
      rw [if_neg (by simp), if_neg (by simp; omega)]
      congr 1
      omega
    · rw [if_neg hn] at hs
      have hc : c.toNat ≠ 45 := by
        intro hc
        unfold startOf at hs
        rw [if_pos (by simpa using hc)] at hs
        omega
      rw [hs] at hd hl hv
      simp only [List.drop_zero] at hd hl hv
      have hdc := hd c (by simp)
      unfold isDig at hdc
      have hp := parse_valFrom (c :: r) 0 hd (by omega)
      have hm : Lib.parseMag (c :: r) = .ok n.natAbs := by
        unfold Lib.parseMag
        rw [if_neg (by simp), hp, hv]
      simp only [Lib.atoiAll]
      rw [if_neg (by omega), hm]
      simp only [hc, not_false_eq_true, true_and, false_and, if_false]
      rw [if_neg (by omega)]
      congr 1
      omega
end Go.Proofs.Ytekdlkakcclejaa
