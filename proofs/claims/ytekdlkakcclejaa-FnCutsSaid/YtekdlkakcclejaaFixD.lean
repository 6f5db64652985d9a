/-
  Decimals and their texts: plain mathematics.
-/
import Derived.Test.YtekdlkakcclejaaNum
import Derived.Test.YtekdlkakcclejaaPartsM
namespace Go.Proofs.Ytekdlkakcclejaa
open Go.RowKit

/-- The digits behind the point, from thousandths. -/
def fracL (r : Nat) : List UInt8 :=
  if r = 0 then [] else 46 :: (if r % 10 ≠ 0 then [UInt8.ofNat (48 + r / 100), UInt8.ofNat (48 + r / 10 % 10), UInt8.ofNat (48 + r % 10)] else if r / 10 % 10 ≠ 0 then [UInt8.ofNat (48 + r / 100), UInt8.ofNat (48 + r / 10 % 10)] else [UInt8.ofNat (48 + r / 100)])
/-- The text of a decimal. -/
def fixT (n : Int) : List UInt8 := if -2147483647 ≤ n ∧ n ≤ 2147483647 then (if n < 0 then [45] else []) ++ Lib.itoa ((n.natAbs : Int) / 1000) ++ fracL (n.natAbs % 1000) else []
theorem isNum_uniq {l : List UInt8} {n m : Int} (h : IsNum l n) (k : IsNum l m) : n = m := by
  have e : Lib.itoa n = Lib.itoa m := h.2.2.trans k.2.2.symm
  have key : ∀ {x : Int}, ∃ b : Bool, (b = decide (x < 0)) ∧ Lib.itoa x = (if x < 0 then [45] else []) ++ Lib.decDigits x.natAbs := by
    intro x
    refine ⟨_, rfl, ?_⟩
    by_cases hx : x < 0
    · obtain ⟨u, rfl⟩ : ∃ u : Nat, x = -(u : Int) := ⟨x.natAbs, by omega⟩
      rw [Lib.itoa_neg u (by omega), if_pos hx]
      simp
    · obtain ⟨u, rfl⟩ := Int.eq_ofNat_of_zero_le (by omega : 0 ≤ x)
      rw [Lib.itoa_nonneg, if_neg hx]
      simp
  have hd : ∀ (u : Nat) (t : List UInt8), Lib.decDigits u ≠ 45 :: t := by
    intro u t ht
    have := decDigits_dig u 45 (by rw [ht]; simp)
    unfold isDig at this
    simp at this
  obtain ⟨_, _, en⟩ := key (x := n)
  obtain ⟨_, _, em⟩ := key (x := m)
  rw [en, em] at e
  by_cases h0 : n < 0
  · by_cases h1 : m < 0
    · rw [if_pos h0, if_pos h1] at e
      have e2 : Lib.decDigits n.natAbs = Lib.decDigits m.natAbs := by simpa using e
      have := congrArg (valFrom 0) e2
      rw [valFrom_decDigits, valFrom_decDigits] at this
      omega
    · rw [if_pos h0, if_neg h1] at e
      exact absurd e.symm (by simpa using hd m.natAbs _)
  · by_cases h1 : m < 0
    · rw [if_neg h0, if_pos h1] at e
      exact absurd e (by simpa using hd n.natAbs _)
    · rw [if_neg h0, if_neg h1] at e
      have e2 : Lib.decDigits n.natAbs = Lib.decDigits m.natAbs := by simpa using e
      have := congrArg (valFrom 0) e2
      rw [valFrom_decDigits, valFrom_decDigits] at this
      omega

open Classical in
/-- The number that a text of 0 to 999,999,999 stands for. -/
noncomputable def numV (l : List UInt8) : Option Int := if h : ∃ n, IsNum l n ∧ 0 ≤ n ∧ n ≤ 999999999 then some (Classical.choose h) else none
theorem numV_some {l : List UInt8} {n : Int} (h : IsNum l n) (h0 : 0 ≤ n) (h1 : n ≤ 999999999) : numV l = some n := by
  have he : ∃ n, IsNum l n ∧ 0 ≤ n ∧ n ≤ 999999999 := ⟨n, h, h0, h1⟩
  rw [numV, dif_pos he, isNum_uniq (Classical.choose_spec he).1 h]
theorem numV_is {l : List UInt8} {n : Int} (h : numV l = some n) : IsNum l n ∧ 0 ≤ n ∧ n ≤ 999999999 := by
  by_cases he : ∃ n, IsNum l n ∧ 0 ≤ n ∧ n ≤ 999999999
  · rw [numV, dif_pos he] at h
    rw [← Option.some.inj h]
    exact Classical.choose_spec he
  · rw [numV, dif_neg he] at h; cases h
theorem numV_none {l : List UInt8} (h : ∀ n, IsNum l n → n < 0 ∨ 999999999 < n) : numV l = none := by
  rw [numV, dif_neg (fun ⟨n, k, k0, k1⟩ => by have := h n k; omega)]

/-- What a digit counts. -/
def dV (c : UInt8) : Int := (c.toNat : Int) - 48
/-- Whether a byte is a digit. -/
def dgB (c : UInt8) : Bool := decide (0 ≤ dV c ∧ dV c ≤ 9)
/-- What a place behind the point counts. -/
def unitV : Nat → Int
  | 0 => 100
  | 1 => 10
  | 2 => 1
  | _ => 0
theorem unitV_next (k : Nat) : unitV k / 10 = unitV (k + 1) := by
  match k with
  | 0 => rfl
  | 1 => rfl
  | 2 => rfl
  | _ + 3 => rfl
/-- What the first places behind the point count. -/
def fA (ds : List UInt8) : Nat → Int
  | 0 => 0
  | k + 1 => fA ds k + unitV k * dV (ds.getD k 0)
/-- What one to three digits behind the point count, in thousandths. -/
def fracV (ds : List UInt8) : Option Int := if 1 ≤ ds.length ∧ ds.length ≤ 3 ∧ ds.all dgB = true then some (fA ds ds.length) else none
/-- What the parts of a text count. -/
noncomputable def bodyV : List (List UInt8) → Option Int
  | [a] => (numV a).map fun n => 1000 * n
  | [a, b] => (numV a).bind fun n => (fracV b).map fun r => 1000 * n + r
  | _ => none
/-- A decimal, if it is one. -/
def inV (n : Int) : Option Int := if -2147483647 ≤ n ∧ n ≤ 2147483647 then some n else none
/-- The decimal that a text stands for. -/
noncomputable def rdV (l : List UInt8) : Option Int :=
  if l.head? = some 45 then (bodyV (partsL 46 l.tail)).bind fun n => inV (-n) else (bodyV (partsL 46 l)).bind inV

theorem dV_digit {k : Nat} (h : k < 10) : dV (UInt8.ofNat (48 + k)) = k := by
  rw [dV, dig_toNat h]; omega
theorem dgB_digit {k : Nat} (h : k < 10) : dgB (UInt8.ofNat (48 + k)) = true := by
  rw [dgB, dV_digit h]; simp; omega
theorem dgB_no46 {ds : List UInt8} (h : ds.all dgB = true) : ∀ x ∈ ds, x ≠ 46 := by
  intro x hx e
  subst e
  have := List.all_eq_true.mp h 46 hx
  simp [dgB, dV] at this
theorem decDigits_no46 (u : Nat) : ∀ x ∈ Lib.decDigits u, x ≠ 46 := by
  intro x hx e
  subst e
  have := decDigits_dig u 46 hx
  unfold isDig at this
  simp at this
theorem frac_one (a : UInt8) : fA [a] 1 = 100 * dV a := by simp [fA, unitV]
theorem frac_two (a b : UInt8) : fA [a, b] 2 = 100 * dV a + 10 * dV b := by simp [fA, unitV]
theorem frac_three (a b c : UInt8) : fA [a, b, c] 3 = 100 * dV a + 10 * dV b + dV c := by simp [fA, unitV]
theorem frac_read {r : Nat} (h0 : r ≠ 0) (h1 : r < 1000) : ∃ ds, fracL r = 46 :: ds ∧ ds.all dgB = true ∧ fracV ds = some (r : Int) := by
  have a0 : r / 100 < 10 := by omega
  have a1 : r / 10 % 10 < 10 := by omega
  have a2 : r % 10 < 10 := by omega
  by_cases h2 : r % 10 = 0
  · by_cases h3 : r / 10 % 10 = 0
    · refine ⟨[UInt8.ofNat (48 + r / 100)], by simp [fracL, h0, h2, h3], by simp only [List.all_cons, List.all_nil, Bool.and_self, dgB_digit a0], ?_⟩
      rw [fracV, if_pos ⟨by simp, by simp, by simp only [List.all_cons, List.all_nil, Bool.and_self, dgB_digit a0]⟩]
      show some (fA _ 1) = _
      rw [frac_one, dV_digit a0]
      congr 1; omega
    · refine ⟨[UInt8.ofNat (48 + r / 100), UInt8.ofNat (48 + r / 10 % 10)], by simp [fracL, h0, h2, h3], by simp only [List.all_cons, List.all_nil, Bool.and_self, dgB_digit a0, dgB_digit a1], ?_⟩
      rw [fracV, if_pos ⟨by simp, by simp, by simp only [List.all_cons, List.all_nil, Bool.and_self, dgB_digit a0, dgB_digit a1]⟩]
      show some (fA _ 2) = _
      rw [frac_two, dV_digit a0, dV_digit a1]
      congr 1; omega
  · refine ⟨[UInt8.ofNat (48 + r / 100), UInt8.ofNat (48 + r / 10 % 10), UInt8.ofNat (48 + r % 10)], by simp [fracL, h0, h2], by simp only [List.all_cons, List.all_nil, Bool.and_self, dgB_digit a0, dgB_digit a1, dgB_digit a2], ?_⟩
    rw [fracV, if_pos ⟨by simp, by simp, by simp only [List.all_cons, List.all_nil, Bool.and_self, dgB_digit a0, dgB_digit a1, dgB_digit a2]⟩]
    show some (fA _ 3) = _
    rw [frac_three, dV_digit a0, dV_digit a1, dV_digit a2]
    congr 1; omega
theorem isNum_dec {q : Nat} (h : q ≤ 999999999) : IsNum (Lib.decDigits q) (q : Int) := ⟨by omega, by omega, Lib.itoa_nonneg q⟩
theorem body_read {q r : Nat} (hq : q ≤ 999999999) (hr : r < 1000) : bodyV (partsL 46 (Lib.decDigits q ++ fracL r)) = some (1000 * (q : Int) + r) := by
  by_cases h0 : r = 0
  · subst h0
    rw [show fracL 0 = [] by simp [fracL], List.append_nil, parts_none (decDigits_no46 q)]
    simp [bodyV, numV_some (isNum_dec hq) (by omega) (by omega)]
  · obtain ⟨ds, e, hds, hv⟩ := frac_read h0 hr
    rw [e, parts_cut _ (decDigits_no46 q), parts_none (dgB_no46 hds)]
    simp [bodyV, numV_some (isNum_dec hq) (by omega) (by omega), hv]
/-- A DECIMAL IS READ AS IT IS WRITTEN. -/
theorem rd_fixT {n : Int} (h0 : -2147483647 ≤ n) (h1 : n ≤ 2147483647) : rdV (fixT n) = some n := by
  have hq : n.natAbs / 1000 ≤ 999999999 := by omega
  have hr : n.natAbs % 1000 < 1000 := by omega
  have e : Lib.itoa ((n.natAbs : Int) / 1000) = Lib.decDigits (n.natAbs / 1000) := by
    rw [show (n.natAbs : Int) / 1000 = ((n.natAbs / 1000 : Nat) : Int) by omega, Lib.itoa_nonneg]
  rw [fixT, if_pos ⟨h0, h1⟩, e]
  by_cases hn : n < 0
  · rw [if_pos hn, rdV, if_pos (by simp)]
    rw [show (([45] : List UInt8) ++ Lib.decDigits (n.natAbs / 1000) ++ fracL (n.natAbs % 1000)).tail = Lib.decDigits (n.natAbs / 1000) ++ fracL (n.natAbs % 1000) by simp, body_read hq hr]
    rw [Option.bind_some, inV, if_pos (by omega)]
    congr 1; omega
  · rw [if_neg hn, List.nil_append, rdV, if_neg ?_, body_read hq hr]
    · rw [Option.bind_some, inV, if_pos (by omega)]
      congr 1; omega
    · intro k
      have hp := decDigits_pos (n.natAbs / 1000)
      cases hd : Lib.decDigits (n.natAbs / 1000) with
      | nil => rw [hd] at hp; simp at hp
      | cons c t =>
        rw [hd] at k
        simp at k
        subst k
        have := decDigits_dig (n.natAbs / 1000) 45 (by rw [hd]; simp)
        unfold isDig at this
        simp at this
theorem fixT_len (n : Int) : (fixT n).length ≤ 20 := by
  rw [fixT]
  split
  · rename_i k
    rw [show (n.natAbs : Int) / 1000 = ((n.natAbs / 1000 : Nat) : Int) by omega, Lib.itoa_nonneg]
    have hd : (Lib.decDigits (n.natAbs / 1000)).length ≤ 7 := by
      rw [Lib.decDigits_length]; exact nDigits_le 6 _ (by omega)
    have hs : (if n < 0 then ([45] : List UInt8) else []).length ≤ 1 := by split <;> simp
    have hf : (fracL (n.natAbs % 1000)).length ≤ 4 := by
      unfold fracL
      split
      · simp
      · split
        · simp
        · split <;> simp
    simp only [List.length_append]
    omega
  · simp
theorem fixT_ne {n : Int} (h0 : -2147483647 ≤ n) (h1 : n ≤ 2147483647) : fixT n ≠ [] := by
  rw [fixT, if_pos ⟨h0, h1⟩, show (n.natAbs : Int) / 1000 = ((n.natAbs / 1000 : Nat) : Int) by omega, Lib.itoa_nonneg]
  have hp := decDigits_pos (n.natAbs / 1000)
  intro k
  have := congrArg List.length k
  simp only [List.length_append, List.length_nil] at this
  omega
theorem inV_is {n m : Int} (h : inV n = some m) : n = m ∧ -2147483647 ≤ m ∧ m ≤ 2147483647 := by
  unfold inV at h
  split at h
  · rename_i k
    obtain rfl := Option.some.inj h
    exact ⟨rfl, k⟩
  · cases h
theorem numV_nil : numV [] = none := by
  refine numV_none fun n h => ?_
  have hp := h.2.2
  exfalso
  by_cases hn : n < 0
  · obtain ⟨u, rfl⟩ : ∃ u : Nat, n = -(u : Int) := ⟨n.natAbs, by omega⟩
    rw [Lib.itoa_neg u (by omega)] at hp; cases hp
  · obtain ⟨u, rfl⟩ := Int.eq_ofNat_of_zero_le (by omega : 0 ≤ n)
    rw [Lib.itoa_nonneg] at hp
    have := decDigits_pos u
    rw [hp] at this
    simp at this
theorem rd_nil : rdV [] = none := by
  rw [rdV, if_neg (by simp), parts_none (by simp)]
  simp [bodyV, numV_nil]
theorem numV_len {l : List UInt8} {n : Int} (h : numV l = some n) (h1 : n ≤ 2147483) : l.length ≤ 7 := by
  obtain ⟨⟨_, _, e⟩, h0, _⟩ := numV_is h
  obtain ⟨u, rfl⟩ := Int.eq_ofNat_of_zero_le h0
  rw [← e, Lib.itoa_nonneg, Lib.decDigits_length]
  exact nDigits_le 6 u (by omega)
theorem fA_nonneg {ds : List UInt8} (h : ds.all dgB = true) : ∀ k, k ≤ ds.length → 0 ≤ fA ds k
  | 0, _ => by simp [fA]
  | k + 1, hk => by
    have ih := fA_nonneg h k (by omega)
    have hd : dgB (ds.getD k 0) = true := by
      have hm : ds[k] ∈ ds := List.getElem_mem (by omega)
      have := List.all_eq_true.mp h _ hm
      rw [List.getD_eq_getElem?_getD, List.getElem?_eq_getElem (by omega)]
      exact this
    simp only [dgB, decide_eq_true_eq] at hd
    have hu : 0 ≤ unitV k := by unfold unitV; split <;> omega
    have := Int.mul_nonneg hu hd.1
    rw [fA]; omega
/-- A text that stands for a decimal is short. -/
theorem body_len {l : List UInt8} {n : Int} (h : bodyV (partsL 46 l) = some n) (h1 : n ≤ 2147483647) : l.length ≤ 11 := by
  have hj := parts_join (c := 46) l
  generalize partsL 46 l = ps at h hj
  match ps, h with
  | [a], h =>
    simp only [bodyV, Option.map_eq_some_iff] at h
    obtain ⟨m, hm, rfl⟩ := h
    have := numV_len hm (by omega)
    rw [Lib.join_one] at hj
    rw [← hj]
    omega
  | [a, b], h =>
    simp only [bodyV, Option.bind_eq_some_iff, Option.map_eq_some_iff] at h
    obtain ⟨m, hm, r, hr, rfl⟩ := h
    unfold fracV at hr
    split at hr
    · rename_i k
      obtain rfl := Option.some.inj hr
      have hp := fA_nonneg k.2.2 b.length (Nat.le_refl _)
      have := numV_len hm (by omega)
      rw [Lib.join_cons] at hj
      rw [← hj]
      simp [Lib.joinTail]
      omega
    · cases hr
theorem rd_len {l : List UInt8} {n : Int} (h : rdV l = some n) : l.length ≤ 12 := by
  unfold rdV at h
  split at h
  · rename_i hd
    simp only [Option.bind_eq_some_iff] at h
    obtain ⟨m, hm, hi⟩ := h
    obtain ⟨rfl, h0, h1⟩ := inV_is hi
    have : l.tail.length ≤ 11 := by
      refine body_len hm ?_
      omega
    have := List.length_tail (l := l)
    omega
  · simp only [Option.bind_eq_some_iff] at h
    obtain ⟨m, hm, hi⟩ := h
    obtain ⟨rfl, h0, h1⟩ := inV_is hi
    have := body_len hm h1
    omega
theorem rd_in {l : List UInt8} {n : Int} (h : rdV l = some n) : -2147483647 ≤ n ∧ n ≤ 2147483647 := by
  unfold rdV at h
  split at h
  · simp only [Option.bind_eq_some_iff] at h
    obtain ⟨m, hm, hi⟩ := h
    exact (inV_is hi).2
  · simp only [Option.bind_eq_some_iff] at h
    obtain ⟨m, hm, hi⟩ := h
    exact (inV_is hi).2
/-- What reading a text ends in. -/
noncomputable def rfE (l : List UInt8) : Ending :=
  match rdV l with
  | some n => .returned (.tuple #[.int .i64 n, .bool true])
  | none => .returned (.tuple #[.int .i64 0, .bool false])
/-- What another spelling ends in. -/
noncomputable def fnE (l : List UInt8) : Ending :=
  match rdV l with
  | some n => .returned (.tuple #[.string ⟨(fixT n).toArray⟩, .bool true])
  | none => .returned (.tuple #[.string ⟨#[]⟩, .bool false])
theorem rfE_some {l : List UInt8} {n : Int} (h : rdV l = some n) : rfE l = .returned (.tuple #[.int .i64 n, .bool true]) := by rw [rfE, h]
theorem rfE_none {l : List UInt8} (h : rdV l = none) : rfE l = .returned (.tuple #[.int .i64 0, .bool false]) := by rw [rfE, h]
theorem fnE_some {l : List UInt8} {n : Int} (h : rdV l = some n) : fnE l = .returned (.tuple #[.string ⟨(fixT n).toArray⟩, .bool true]) := by rw [fnE, h]
theorem fnE_none {l : List UInt8} (h : rdV l = none) : fnE l = .returned (.tuple #[.string ⟨#[]⟩, .bool false]) := by rw [fnE, h]
end Go.Proofs.Ytekdlkakcclejaa
