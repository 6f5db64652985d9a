/-
  What spec.Digits answers, at every integer.
  The join of a list of texts: plain mathematics.
  Which lists of bytes are the decimal numeral of an int: plain mathematics.
  The parts of a text at a byte: plain mathematics, and that the library's split gives them.
  Small laws that the walks of this seat share: a string of one byte out of a new slice of one byte.
  What spec.Digits answers, at every integer: the walk.
  Decimals and their texts: plain mathematics.
  Settings and their text: plain mathematics.
  How the program reads and writes decimals: plain mathematics.
  Settings that are written, turned and read: plain mathematics.
  Settings, the program's way: the map of the keys and their places, and what is left of it: plain mathematics.
  The text of settings, line by line: plain mathematics.
-/
import Derived.Test.YtnnbhgnllbjmeaaGreatDoorRows
import Derived.WalkKit
import Derived.ProofKit
import Derived.Outline
import Derived.Lib.Hide
import Derived.Lib.ItoaLen
import Derived.Lib.ItoaMem
import Derived.Lib.Join
import Derived.Lib.AtoiAll
import Derived.Lib.Split
import Derived.Lib.IndexLaws
import Derived.Lib.SplitLaws
import Derived.Laws.IdiomStrings
import Derived.Lib.CutLaws
import Derived.Lib.TrimByte
import Derived.Maps.OwnSet
import Derived.Sort.KeysCollected
namespace Go.Proofs.YtnnbhgnllbjmeaaGreatDoor
open Go.RowKit

/-- What the loop has written (o) and what is left of u (v). -/
def DigInv (u v : Nat) (o : List UInt8) : Prop := (v = 0 ∧ u ≠ 0 ∧ o = Lib.decDigits u) ∨ (v ≠ 0 ∧ Lib.decDigits u = Lib.decDigits v ++ o)

theorem digInv_start {u : Nat} (h : u ≠ 0) : DigInv u u [] := Or.inr ⟨h, by simp⟩

theorem digInv_step {u v : Nat} {o : List UInt8} (h : DigInv u v o) (hv : v ≠ 0) : DigInv u (v / 10) (UInt8.ofNat (48 + v % 10) :: o) := by
  rcases h with ⟨h0, _, _⟩ | ⟨_, h⟩
  · exact absurd h0 hv
  · by_cases hs : v < 10
    · have hu : u ≠ 0 := by
        rintro rfl
        rw [Lib.decDigits_one (by omega : 0 < 10), Lib.decDigits_one hs] at h
        have hl := congrArg List.length h
        simp at hl
        subst hl
        simp at h
        have := congrArg UInt8.toNat h
        simp at this
        omega
      refine Or.inl ⟨by omega, hu, ?_⟩
      rw [h, Lib.decDigits_one hs, Nat.mod_eq_of_lt hs]
      rfl
    · refine Or.inr ⟨by omega, ?_⟩
      rw [h, Lib.decDigits, dif_neg hs]
      simp

theorem digInv_len {u v : Nat} {o : List UInt8} (h : DigInv u v o) : o.length ≤ (Lib.decDigits u).length := by
  rcases h with ⟨_, _, rfl⟩ | ⟨_, h⟩
  · exact Nat.le_refl _
  · rw [h]; simp

theorem decDigits_len {u : Nat} (h : u ≤ 9223372036854775808) : (Lib.decDigits u).length ≤ 22 := by
  by_cases h1 : u ≤ 9223372036854775807
  · have := Lib.itoa_length_le u (by omega) (by omega)
    rw [Lib.itoa_nonneg] at this
    omega
  · obtain rfl : u = 9223372036854775808 := by omega
    have := Lib.itoa_length_le (-(9223372036854775808 : Nat)) (by omega) (by omega)
    rw [Lib.itoa_neg _ (by omega)] at this
    simp at this ⊢
    omega
end Go.Proofs.YtnnbhgnllbjmeaaGreatDoor
namespace Go.Proofs.YtnnbhgnllbjmeaaGreatDoor

def lensum (ps : List (List UInt8)) : Nat := (ps.map List.length).sum

theorem lensum_take_succ {ps : List (List UInt8)} {k : Nat} {p : List UInt8} (h : ps[k]? = some p) : lensum (ps.take (k + 1)) = lensum (ps.take k) + p.length := by
  unfold lensum
  rw [List.take_add_one, h]
  simp
theorem lensum_take_le (ps : List (List UInt8)) (k : Nat) : lensum (ps.take k) ≤ lensum ps := by
  have e : lensum ps = lensum (ps.take k) + lensum (ps.drop k) := by
    unfold lensum
    conv => lhs; rw [← List.take_append_drop k ps]
    rw [List.map_append, List.sum_append]
  omega

theorem joinTail_len (sep : List UInt8) : ∀ (r : List (List UInt8)), (Lib.joinTail sep r).length = r.length * sep.length + lensum r
  | [] => by simp [Lib.joinTail, lensum]
  | x :: r => by
    have ih := joinTail_len sep r
    unfold Lib.joinTail lensum at ih ⊢
    simp only [List.map_cons, List.flatten_cons, List.length_append, List.sum_cons, List.length_cons, ih, Nat.succ_mul]
    omega

theorem join_len_le (ps : List (List UInt8)) (sep : List UInt8) : (Lib.join ps sep).length ≤ ps.length * sep.length + lensum ps := by
  cases ps with
  | nil => simp [Lib.join_nil]
  | cons p r =>
    rw [Lib.join_cons, List.length_append, joinTail_len]
    have e : lensum (p :: r) = p.length + lensum r := by unfold lensum; rw [List.map_cons, List.sum_cons]
    rw [e, List.length_cons, Nat.succ_mul]
    omega

theorem joinTail_append (sep : List UInt8) (a b : List (List UInt8)) : Lib.joinTail sep (a ++ b) = Lib.joinTail sep a ++ Lib.joinTail sep b := by
  unfold Lib.joinTail
  rw [List.map_append, List.flatten_append]

theorem join_take_one {ps : List (List UInt8)} {p sep : List UInt8} (h : ps[0]? = some p) : Lib.join (ps.take 1) sep = p := by
  cases ps with
  | nil => cases h
  | cons q r =>
    obtain rfl : q = p := by simpa using h
    simp [Lib.join_one]

theorem join_take_succ {ps : List (List UInt8)} {k : Nat} {p sep : List UInt8} (hk : 1 ≤ k) (h : ps[k]? = some p) : Lib.join (ps.take (k + 1)) sep = Lib.join (ps.take k) sep ++ sep ++ p := by
  obtain ⟨j, rfl⟩ : ∃ j, k = j + 1 := ⟨k - 1, by omega⟩
  cases ps with
  | nil => cases h
  | cons q r =>
    rw [List.getElem?_cons_succ] at h
    rw [List.take_succ_cons, List.take_succ_cons, Lib.join_cons, Lib.join_cons, Lib.joinTail_take_succ sep r j p h]
    simp [List.append_assoc]

theorem join_take_le (ps : List (List UInt8)) (sep : List UInt8) (k : Nat) : (Lib.join (ps.take k) sep).length ≤ (Lib.join ps sep).length := by
  cases k with
  | zero => simp [Lib.join_nil]
  | succ j =>
    cases ps with
    | nil => simp
    | cons q r =>
      rw [List.take_succ_cons, Lib.join_cons, Lib.join_cons]
      have e : Lib.joinTail sep r = Lib.joinTail sep (r.take j) ++ Lib.joinTail sep (r.drop j) := by rw [← joinTail_append, List.take_append_drop]
      rw [e]
      simp only [List.length_append]
      omega
end Go.Proofs.YtnnbhgnllbjmeaaGreatDoor
namespace Go.Proofs.YtnnbhgnllbjmeaaGreatDoor

def isDig (c : UInt8) : Prop := 48 ≤ c.toNat ∧ c.toNat ≤ 57
def digStep (a : Nat) (c : UInt8) : Nat := a * 10 + (c.toNat - 48)
def valFrom (acc : Nat) (l : List UInt8) : Nat := l.foldl digStep acc
theorem valFrom_nil (acc : Nat) : valFrom acc [] = acc := List.foldl_nil
theorem valFrom_cons (acc : Nat) (c : UInt8) (r : List UInt8) : valFrom acc (c :: r) = valFrom (acc * 10 + (c.toNat - 48)) r := List.foldl_cons ..

theorem valFrom_append (x y : List UInt8) (acc : Nat) : valFrom acc (x ++ y) = valFrom (valFrom acc x) y := List.foldl_append ..

theorem valFrom_ge (y : List UInt8) : ∀ acc, acc ≤ valFrom acc y := by
  induction y with
  | nil => intro acc; rw [valFrom_nil]; exact Nat.le_refl acc
  | cons c r ih =>
    intro acc
    have h1 := ih (acc * 10 + (c.toNat - 48))
    rw [valFrom_cons]
    generalize c.toNat - 48 = d at h1 ⊢
    exact Nat.le_trans (by omega) h1

theorem dig_toNat {k : Nat} (h : k < 10) : (UInt8.ofNat (48 + k)).toNat = 48 + k := by
  rw [UInt8.toNat_ofNat']; omega

theorem decDigits_dig (u : Nat) : ∀ c ∈ Lib.decDigits u, isDig c := by
  induction u using Nat.strongRecOn with
  | _ u ih =>
    by_cases h : u < 10
    · rw [Lib.decDigits_one h]
      intro c hc
      obtain rfl : c = UInt8.ofNat (48 + u) := by simpa using hc
      unfold isDig; rw [dig_toNat h]; omega
    · rw [Lib.decDigits, dif_neg h]
      intro c hc
      rcases List.mem_append.1 hc with hc | hc
      · exact ih (u / 10) (by omega) c hc
      · obtain rfl : c = UInt8.ofNat (48 + u % 10) := by simpa using hc
        unfold isDig; rw [dig_toNat (by omega)]; omega

theorem valFrom_decDigits (u : Nat) : valFrom 0 (Lib.decDigits u) = u := by
  induction u using Nat.strongRecOn with
  | _ u ih =>
    by_cases h : u < 10
    · rw [Lib.decDigits_one h]
      rw [valFrom_cons, valFrom_nil, dig_toNat h]; omega
    · rw [Lib.decDigits, dif_neg h, valFrom_append, ih (u / 10) (by omega)]
      rw [valFrom_cons, valFrom_nil, dig_toNat (by omega)]; omega

theorem nDigits_le : ∀ (k u : Nat), u < 10 ^ (k + 1) → Lib.nDigits u ≤ k + 1
  | 0, u, h => by rw [Lib.nDigits_small (by simpa using h)]; omega
  | k + 1, u, h => by
    by_cases hs : u < 10
    · rw [Lib.nDigits_small hs]; omega
    · rw [Lib.nDigits_big hs]
      have := nDigits_le k (u / 10) (by rw [Nat.pow_succ] at h; omega)
      omega

theorem decDigits_pos (u : Nat) : 1 ≤ (Lib.decDigits u).length := by rw [Lib.decDigits_length]; exact Lib.nDigits_pos u
theorem decDigits_len19 {u : Nat} (h : u ≤ 9223372036854775808) : (Lib.decDigits u).length ≤ 19 := by
  rw [Lib.decDigits_length]; exact nDigits_le 18 u (by omega)

/-- l is the numeral of the int n. -/
def IsNum (l : List UInt8) (n : Int) : Prop := -9223372036854775808 ≤ n ∧ n ≤ 9223372036854775807 ∧ Lib.itoa n = l

/-- Where the digits begin. -/
def startOf (l : List UInt8) : Nat := if l.head?.map (·.toNat) = some 45 then 1 else 0

theorem decDigits_start (u : Nat) : startOf (Lib.decDigits u) = 0 := by
  unfold startOf
  rw [if_neg]
  intro h
  have hp := decDigits_pos u
  have hd := decDigits_dig u
  generalize Lib.decDigits u = l at h hp hd
  cases l with
  | nil => simp at hp
  | cons c r =>
    have := hd c (by simp)
    unfold isDig at this
    simp at h
    omega

theorem isNum_parts {l : List UInt8} {n : Int} (h : IsNum l n) :
    (∀ c ∈ l.drop (startOf l), isDig c) ∧ 1 ≤ (l.drop (startOf l)).length ∧ valFrom 0 (l.drop (startOf l)) = n.natAbs ∧ (startOf l = if n < 0 then 1 else 0) ∧ 1 ≤ l.length ∧ l.length ≤ 20 := by
  obtain ⟨h0, h1, rfl⟩ := h
  by_cases hn : n < 0
  · obtain ⟨u, hu⟩ : ∃ u : Nat, n = -(u : Int) := ⟨n.natAbs, by omega⟩
    subst hu
    rw [Lib.itoa_neg u (by omega)]
    have hs : startOf (45 :: Lib.decDigits u) = 1 := by unfold startOf; simp
    have hl := decDigits_len19 (u := u) (by omega)
    have hp := decDigits_pos u
    rw [hs]
    refine ⟨by simpa using decDigits_dig u, by simpa using hp, ?_, by rw [if_pos hn], by simp, by simp; omega⟩
    simp [valFrom_decDigits]
  · obtain ⟨u, rfl⟩ := Int.eq_ofNat_of_zero_le (by omega : 0 ≤ n)
    rw [Lib.itoa_nonneg, decDigits_start]
    have hl := decDigits_len19 (u := u) (by omega)
    have hp := decDigits_pos u
    refine ⟨by simpa using decDigits_dig u, by simpa using hp, ?_, by rw [if_neg hn], by omega, by omega⟩
    simp [valFrom_decDigits]

/-- What has been read at index k: only digits, of value v. -/
def ReadTo (l : List UInt8) (k v : Nat) : Prop := startOf l ≤ k ∧ (∀ c ∈ (l.take k).drop (startOf l), isDig c) ∧ valFrom 0 ((l.take k).drop (startOf l)) = v

theorem readTo_start (l : List UInt8) : ReadTo l (startOf l) 0 := by
  refine ⟨Nat.le_refl _, ?_, ?_⟩
  · intro c hc; rw [List.drop_eq_nil_of_le (by simp; omega)] at hc; simp at hc
  · rw [List.drop_eq_nil_of_le (by simp; omega)]; exact valFrom_nil 0

theorem take_drop_succ {l : List UInt8} {k f : Nat} {c : UInt8} (hf : f ≤ k) (hc : l[k]? = some c) : (l.take (k + 1)).drop f = (l.take k).drop f ++ [c] := by
  have hk : k < l.length := by
    rcases Nat.lt_or_ge k l.length with h | h
    · exact h
    · rw [List.getElem?_eq_none h] at hc; cases hc
  rw [List.take_add_one, hc, List.drop_append_of_le_length (by simp; omega)]
  rfl

theorem readTo_step {l : List UInt8} {k v : Nat} {c : UInt8} (h : ReadTo l k v) (hc : l[k]? = some c) (hd : isDig c) : ReadTo l (k + 1) (v * 10 + (c.toNat - 48)) := by
  obtain ⟨h1, h2, h3⟩ := h
  refine ⟨by omega, ?_, ?_⟩
  · rw [take_drop_succ h1 hc]
    intro x hx
    rcases List.mem_append.1 hx with hx | hx
    · exact h2 x hx
    · obtain rfl : x = c := by simpa using hx
      exact hd
  · rw [take_drop_succ h1 hc, valFrom_append, h3, valFrom_cons, valFrom_nil]

theorem mem_drop_at {l : List UInt8} {k f : Nat} {c : UInt8} (hf : f ≤ k) (hc : l[k]? = some c) : c ∈ l.drop f :=
  List.mem_of_getElem? (i := k - f) (by rw [List.getElem?_drop]; rw [show f + (k - f) = k by omega]; exact hc)

/-- A byte that is no digit. -/
theorem notNum_byte {l : List UInt8} {k v : Nat} {c : UInt8} (h : ReadTo l k v) (hc : l[k]? = some c) (hd : ¬ isDig c) : ∀ n, ¬ IsNum l n :=
  fun _ hn => hd ((isNum_parts hn).1 c (mem_drop_at h.1 hc))

/-- Too great. -/
theorem notNum_big {l : List UInt8} {k v : Nat} (h : ReadTo l k v) (hv : 9223372036854775808 < v) : ∀ n, ¬ IsNum l n := by
  intro n hn
  have hp := (isNum_parts hn).2.2.1
  have e : l.drop (startOf l) = (l.take k).drop (startOf l) ++ l.drop k := by
    have hf := h.1
    generalize startOf l = f at hf
    by_cases hk : k ≤ l.length
    · have := List.drop_append_of_le_length (l₂ := l.drop k) (show f ≤ (l.take k).length by simp; omega)
      rwa [List.take_append_drop] at this
    · rw [List.drop_eq_nil_of_le (by omega : l.length ≤ k), List.take_of_length_le (by omega)]; simp
  rw [e, valFrom_append, h.2.2] at hp
  have := valFrom_ge (l.drop k) v
  have := hn.1
  have := hn.2.1
  omega

theorem readTo_all {l : List UInt8} {v : Nat} (h : ReadTo l l.length v) {n : Int} (hn : IsNum l n) : n = if startOf l = 0 then (v : Int) else -(v : Int) := by
  obtain ⟨_, _, hp, hs, _⟩ := isNum_parts hn
  obtain ⟨_, _, h3⟩ := h
  rw [List.take_length] at h3
  rw [h3] at hp
  by_cases hneg : n < 0
  · rw [if_pos hneg] at hs; rw [hs, if_neg (by omega)]; omega
  · rw [if_neg hneg] at hs; rw [hs, if_pos rfl]; omega

theorem parse_valFrom : ∀ (l : List UInt8) (acc : Nat), (∀ c ∈ l, isDig c) → valFrom acc l < 18446744073709551616 → Lib.parseUint10 acc l = .ok (valFrom acc l)
  | [], acc, _, _ => by rw [valFrom_nil]; rfl
  | c :: r, acc, hd, hv => by
    have h := hd c (by simp)
    unfold isDig at h
    have hg := valFrom_ge r (acc * 10 + (c.toNat - 48))
    rw [valFrom_cons] at hv ⊢
    simp only [Lib.parseUint10]
    rw [if_pos h, if_neg (by omega), if_neg (by omega)]
    exact parse_valFrom r _ (fun x hx => hd x (by simp [hx])) hv

/-- strconv.Atoi reads the numeral of an int. -/
theorem atoi_isNum {l : List UInt8} {n : Int} (h : IsNum l n) : Lib.atoiAll l = .ok n := by
  obtain ⟨hd, hl, hv, hs, _, _⟩ := isNum_parts h
  obtain ⟨h0, h1, h2⟩ := h
  cases l with
  | nil => simp at hl
  | cons c r =>
    by_cases hn : n < 0
    · rw [if_pos hn] at hs
      have hc : c.toNat = 45 := by
        unfold startOf at hs
        split at hs
        · rename_i h; simpa using h
        · omega
      rw [hs] at hd hl hv
      simp only [List.drop_succ_cons, List.drop_zero] at hd hl hv
      have hp := parse_valFrom r 0 hd (by omega)
      have hm : Lib.parseMag r = .ok n.natAbs := by
        unfold Lib.parseMag
        rw [if_neg (by intro h; rw [h] at hl; simp at hl), hp, hv]
      simp only [Lib.atoiAll, hc, or_true, if_true, hm]
      rw [if_neg (by simp), if_neg (by simp; omega)]
      congr 1
      omega
    · rw [if_neg hn] at hs
      have hc : c.toNat ≠ 45 := by
        intro hc
        unfold startOf at hs
        rw [if_pos (by simpa using hc)] at hs
        omega
      rw [hs] at hd hl hv
      simp only [List.drop_zero] at hd hl hv
      have hdc := hd c (by simp)
      unfold isDig at hdc
      have hp := parse_valFrom (c :: r) 0 hd (by omega)
      have hm : Lib.parseMag (c :: r) = .ok n.natAbs := by
        unfold Lib.parseMag
        rw [if_neg (by simp), hp, hv]
      simp only [Lib.atoiAll]
      rw [if_neg (by omega), hm]
      simp only [hc, not_false_eq_true, true_and, false_and, if_false]
      rw [if_neg (by omega)]
      congr 1
      omega
end Go.Proofs.YtnnbhgnllbjmeaaGreatDoor
namespace Go.Proofs.YtnnbhgnllbjmeaaGreatDoor

/-- The parts of l at c. -/
def partsL (c : UInt8) : List UInt8 → List (List UInt8)
  | [] => [[]]
  | x :: r => if x = c then [] :: partsL c r else match partsL c r with
    | [] => [[x]]
    | p :: ps => (x :: p) :: ps

theorem parts_none {c : UInt8} : ∀ {l : List UInt8}, (∀ x ∈ l, x ≠ c) → partsL c l = [l]
  | [], _ => rfl
  | x :: r, h => by
    have h1 : x ≠ c := h x (by simp)
    rw [partsL, if_neg h1, parts_none (fun y hy => h y (by simp [hy]))]

theorem parts_cut {c : UInt8} (r : List UInt8) : ∀ {a : List UInt8}, (∀ x ∈ a, x ≠ c) → partsL c (a ++ c :: r) = a :: partsL c r
  | [], _ => by rw [List.nil_append, partsL, if_pos rfl]
  | x :: a, h => by
    have h1 : x ≠ c := h x (by simp)
    rw [List.cons_append, partsL, if_neg h1, parts_cut r (fun y hy => h y (by simp [hy]))]

theorem parts_pos {c : UInt8} (l : List UInt8) : 1 ≤ (partsL c l).length := by
  cases l with
  | nil => simp [partsL]
  | cons x r =>
    rw [partsL]
    split
    · simp
    · split <;> simp

theorem parts_len {c : UInt8} : ∀ (l : List UInt8), (partsL c l).length ≤ l.length + 1
  | [] => by simp [partsL]
  | x :: r => by
    have := parts_len (c := c) r
    rw [partsL]
    split
    · simp; omega
    · split <;> simp_all; omega

theorem parts_join {c : UInt8} : ∀ (l : List UInt8), Lib.join (partsL c l) [c] = l
  | [] => rfl
  | x :: r => by
    have ih := parts_join (c := c) r
    have hp := parts_pos (c := c) r
    rw [partsL]
    split
    · rename_i hx
      subst hx
      generalize partsL x r = q at ih hp
      cases q with
      | nil => simp at hp
      | cons p ps =>
        rw [Lib.join_cons] at ih
        rw [Lib.join_cons, Lib.joinTail, List.map_cons, List.flatten_cons]
        rw [Lib.joinTail] at ih
        simpa using ih
    · generalize partsL c r = q at ih hp
      cases q with
      | nil => simp at hp
      | cons p ps =>
        rw [Lib.join_cons] at ih
        rw [Lib.join_cons, List.cons_append, ih]

theorem occ_at {s : List UInt8} {c : UInt8} {i : Nat} : Lib.occAt s [c] i = true ↔ s[i]? = some c := by
  unfold Lib.occAt
  rw [← List.head?_drop]
  cases s.drop i with
  | nil => simp
  | cons x r =>
    have h : [c].isPrefixOf (x :: r) = (c == x) := by simp [List.isPrefixOf]
    rw [h, List.head?_cons, beq_iff_eq, Option.some.injEq]
    exact eq_comm

theorem splitK_parts (c : UInt8) : ∀ (n : Nat) (l : List UInt8), l.length ≤ n → Lib.splitK [c] 0 (Lib.count l [c]) l = partsL c l := by
  intro n
  induction n with
  | zero =>
    intro l hl
    obtain rfl : l = [] := List.eq_nil_of_length_eq_zero (by omega)
    rfl
  | succ n ih =>
    intro l hl
    rcases Lib.index_spec l [c] with ⟨h1, h2⟩ | ⟨i, h1, h2, h3, h4⟩
    · rw [Lib.count_miss h1, Lib.splitK]
      refine (parts_none fun x hx => ?_).symm
      rintro rfl
      obtain ⟨j, hj⟩ := List.getElem?_of_mem hx
      have hjl := (List.getElem?_eq_some_iff.1 hj).1
      have := h2 j (by omega)
      rw [occ_at.2 hj] at this
      cases this
    · have hi := occ_at.1 h3
      have hil := (List.getElem?_eq_some_iff.1 hi).1
      have hl2 : l = l.take i ++ c :: l.drop (i + 1) := by
        have e := List.take_append_drop i l
        have e2 : l.drop i = c :: l.drop (i + 1) := by
          rw [List.drop_eq_getElem_cons hil]
          congr 1
          exact (List.getElem?_eq_some_iff.1 hi).2
        rw [e2] at e
        exact e.symm
      have hno : ∀ x ∈ l.take i, x ≠ c := by
        rintro x hx rfl
        obtain ⟨j, hj⟩ := List.getElem?_of_mem hx
        have hji : j < i := by
          have := (List.getElem?_eq_some_iff.1 hj).1
          simp at this
          omega
        rw [List.getElem?_take, if_pos hji] at hj
        have := h4 j hji
        rw [occ_at.2 hj] at this
        cases this
      rw [Lib.count_hit (by simp) h1, Nat.add_comm, Lib.splitK]
      have hne : ¬ (Lib.index l [c] == -1) = true := by rw [h1]; simp
      rw [if_neg hne, h1]
      simp only [Int.toNat_natCast, Nat.add_zero, List.length_cons, List.length_nil, Nat.zero_add]
      rw [ih (l.drop (i + 1)) (by simp; omega)]
      conv => rhs; rw [hl2]
      rw [parts_cut _ hno]

/-- A list of texts as cells. -/
def strCells (ps : List (List UInt8)) : List Value := ps.map fun p => Value.string ⟨p.toArray⟩

theorem mk_toList (s : ByteArray) : (⟨s.data.toList.toArray⟩ : ByteArray) = s := by cases s; simp

theorem splitB_cells (s sep : ByteArray) (c : UInt8) (hsep : sep.data.toList = [c]) : (Lib.splitB sep 0 (Lib.countB s sep) s).map Value.string = strCells (partsL c s.data.toList) := by
  have h := Lib.splitB_data sep 0 (Lib.countB s sep) s
  have hc : Lib.countB s sep = Lib.count s.data.toList [c] := by
    unfold Lib.countB; rw [hsep]
  rw [hsep, hc, splitK_parts c _ _ (Nat.le_refl _)] at h
  unfold strCells
  rw [hc, ← h, List.map_map]
  refine List.map_congr_left fun x _ => ?_
  simp

theorem countB_parts (s sep : ByteArray) (c : UInt8) (hsep : sep.data.toList = [c]) : Lib.countB s sep + 1 = (partsL c s.data.toList).length := by
  have h := congrArg List.length (splitB_cells s sep c hsep)
  rw [List.length_map, strCells, List.length_map] at h
  rw [← h, Lib.splitB_all sep (by rw [Lib.size_eq, hsep]; simp) 0 _ s rfl]

/-- Where a split stands: fr: where the next part begins; k: how far the text is read; ps: the parts so far. -/
def PInv (c : UInt8) (l : List UInt8) (fr k : Nat) (ps : List (List UInt8)) : Prop :=
  (k ≤ l.length ∧ fr ≤ k ∧ (∀ x ∈ (l.drop fr).take (k - fr), x ≠ c) ∧ partsL c l = ps ++ partsL c (l.drop fr)) ∨ (k = l.length + 1 ∧ fr ≤ k ∧ partsL c l = ps)

theorem pinv_start (c : UInt8) (l : List UInt8) : PInv c l 0 0 [] := Or.inl ⟨Nat.zero_le _, Nat.le_refl _, by simp, by simp⟩

theorem pinv_more {c : UInt8} {l : List UInt8} {fr k : Nat} {ps : List (List UInt8)} (h : PInv c l fr k ps) (hk : k < l.length) (hne : l[k] ≠ c) : PInv c l fr (k + 1) ps := by
  rcases h with ⟨h1, h2, h3, h4⟩ | ⟨h1, _⟩
  · refine Or.inl ⟨by omega, by omega, ?_, h4⟩
    intro x hx
    rw [show k + 1 - fr = (k - fr) + 1 by omega, List.take_add_one, List.mem_append] at hx
    rcases hx with hx | hx
    · exact h3 x hx
    · rw [List.getElem?_drop, show fr + (k - fr) = k by omega, List.getElem?_eq_getElem hk] at hx
      simp at hx
      rw [hx]; exact hne
  · omega

theorem pinv_cut {c : UInt8} {l : List UInt8} {fr k : Nat} {ps : List (List UInt8)} (h : PInv c l fr k ps) (hk : k < l.length) (he : l[k] = c) : PInv c l (k + 1) (k + 1) (ps ++ [(l.drop fr).take (k - fr)]) := by
  rcases h with ⟨h1, h2, h3, h4⟩ | ⟨h1, _⟩
  · refine Or.inl ⟨by omega, Nat.le_refl _, by simp, ?_⟩
    have e : l.drop fr = (l.drop fr).take (k - fr) ++ c :: l.drop (k + 1) := by
      have e1 := List.take_append_drop (k - fr) (l.drop fr)
      rw [List.drop_drop, show fr + (k - fr) = k by omega, List.drop_eq_getElem_cons hk, he] at e1
      exact e1.symm
    rw [h4]
    conv => lhs; rw [e]
    rw [parts_cut _ h3, List.append_assoc]
    rfl
  · omega

theorem pinv_end {c : UInt8} {l : List UInt8} {fr k : Nat} {ps : List (List UInt8)} (h : PInv c l fr k ps) (hk : k = l.length) : PInv c l (k + 1) (k + 1) (ps ++ [(l.drop fr).take (k - fr)]) := by
  rcases h with ⟨h1, h2, h3, h4⟩ | ⟨h1, _⟩
  · refine Or.inr ⟨by omega, Nat.le_refl _, ?_⟩
    have e : (l.drop fr).take (k - fr) = l.drop fr := List.take_of_length_le (by simp; omega)
    rw [e] at h3 ⊢
    rw [h4, parts_none h3]
  · omega

theorem pinv_done {c : UInt8} {l : List UInt8} {fr k : Nat} {ps : List (List UInt8)} (h : PInv c l fr k ps) (hk : ¬ k ≤ l.length) : ps = partsL c l := by
  rcases h with ⟨h1, _⟩ | ⟨_, _, h⟩
  · omega
  · exact h.symm
theorem pinv_le {c : UInt8} {l : List UInt8} {fr k : Nat} {ps : List (List UInt8)} (h : PInv c l fr k ps) : ps.length ≤ l.length + 1 ∧ fr ≤ k ∧ k ≤ l.length + 1 := by
  have hp := parts_len (c := c) l
  rcases h with ⟨h1, h2, _, h4⟩ | ⟨h1, h2, h⟩
  · have := congrArg List.length h4
    simp at this
    omega
  · rw [h] at hp
    omega

theorem extract_mk (s : ByteArray) (a b : Nat) : s.extract a b = ⟨((s.data.toList.drop a).take (b - a)).toArray⟩ := by
  have h := Lib.extract_data s a b
  cases hs : s.extract a b with
  | mk d =>
    rw [hs] at h
    simp only at h
    rw [← h]
end Go.Proofs.YtnnbhgnllbjmeaaGreatDoor
namespace Go.Proofs.YtnnbhgnllbjmeaaGreatDoor
open Go.RowKit

theorem conv_one {P : Program} {src dst e : TypeId} (hs : P.underlying src = some (.slice e)) (he : P.underlying e = some (.int .u8)) (hd : P.underlying dst = some .string)
    (c : Nat) (hc : c < 256) (z : Int) (hz : z = (c : Int)) (cap : Nat) (w : World) :
    (convert src dst (.slice (some ⟨w.heap.size, 0, none⟩) 1 cap)).run P (w.alloc (.cells #[.int .u8 z] e)) = .ok (.string ⟨[UInt8.ofNat c].toArray⟩) (w.alloc (.cells #[.int .u8 z] e)) := by
  subst hz
  refine run_convert_bytes_back (w.alloc (.cells #[.int .u8 (c : Int)] e)) src dst e ⟨w.heap.size, 0, none⟩ cap [UInt8.ofNat c] hs he hd ?_
  intro j hj
  obtain rfl : j = 0 := by simpa using hj
  have h := World.cell?_alloc_mark w #[.int .u8 (c : Int)] e (0, 0) 0
  simp only [Addr.add, Nat.add_zero, if_true]
  rw [h]
  simp
  omega
end Go.Proofs.YtnnbhgnllbjmeaaGreatDoor
namespace Go.Proofs.YtnnbhgnllbjmeaaGreatDoor
open Go.RowKit

theorem ret_str {a b : List UInt8} (h : a = b) : Ending.returned (.string ⟨a.toArray⟩) = .returned (.string ⟨b.toArray⟩) := by rw [h]
theorem ret_add {a b : ByteArray} {c : List UInt8} (h : a ++ b = ⟨c.toArray⟩) : Ending.returned (.string (a ++ b)) = .returned (.string ⟨c.toArray⟩) := by rw [h]
theorem digInv_done {u v : Nat} {l : List UInt8} (h : DigInv u v l) (hv : v = 0) : l = Lib.decDigits u := by
  rcases h with ⟨_, _, h⟩ | ⟨h, _⟩
  · exact h
  · exact absurd hv h

set_option maxRecDepth 100000 in
set_option maxHeartbeats 400000 in
theorem specDigits_pos (u : Nat) (hu : u ≠ 0) (hb : u ≤ 9223372036854775807) (w : World) :
    Calls Tryz.prog 28 #[.int .i64 u] w fun e w' => e = .returned (.string ⟨(Lib.decDigits u).toArray⟩) ∧ Below w.heap.size w w' := by
  have hz : ((u : Int) == 0) = false := by simpa using hu
  go_enter Tryz.func28, Tryz.ntmps28
  go_wp2
  go_loopw [0, 4, 5] (fun n o d wr => ∃ (v : Nat) (l : List UInt8), v ≤ u ∧ n = .int .i64 v ∧ o = .string ⟨l.toArray⟩ ∧ DigInv u v l ∧ Below w.heap.size w wr) (fun n _ _ _ => (intOf n).toNat)
  case atStart => exact ⟨u, [], Nat.le_refl _, rfl, rfl, digInv_start hu, Below.refl _ _⟩
  case round =>
    obtain ⟨v, l, hv, rfl, rfl, hI, hB⟩ := hrel
    have hlen := digInv_len hI
    have hdec := decDigits_len (u := u) (by omega)
    by_cases h0 : v = 0
    · have hz0 : ((v : Int) != 0) = false := by simp [h0]
      have hlu : ¬ ((u : Int) < 0) := by omega
      have H0 := Lib.hid h0
      clear h0
      go_wp2
      go_ret
      exact ⟨ret_str (digInv_done hI H0.out), hB⟩
    · have hI2 := digInv_step hI h0
      have kc := conv_one Tryz.underlying22 Tryz.underlying5 Tryz.underlying9 (48 + v % 10) (by omega) (48 + (v : Int) % 10) (by omega) 1
      have hsum : 1 + l.length ≤ 9223372036854775807 := by omega
      go_wp2
      go_roundw
      case rel => exact ⟨v / 10, _, by omega, by go_num, rfl, by simpa using hI2, hB.alloc hB.size _⟩
      case measure => simp [intOf]; omega

set_option maxRecDepth 100000 in
set_option maxHeartbeats 400000 in
theorem specDigits_neg (u : Nat) (hu : u ≠ 0) (hb : u ≤ 9223372036854775808) (w : World) :
    Calls Tryz.prog 28 #[.int .i64 (-(u : Int))] w fun e w' => e = .returned (.string ⟨(45 :: Lib.decDigits u).toArray⟩) ∧ Below w.heap.size w w' := by
  have hz : ((-(u : Int)) == 0) = false := by simpa using hu
  go_enter Tryz.func28, Tryz.ntmps28
  go_wp2
  go_loopw [0, 4, 5] (fun n o d wr => ∃ (v : Nat) (l : List UInt8), v ≤ u ∧ n = .int .i64 (-(v : Int)) ∧ o = .string ⟨l.toArray⟩ ∧ DigInv u v l ∧ Below w.heap.size w wr) (fun n _ _ _ => (- intOf n).toNat)
  case atStart => exact ⟨u, [], Nat.le_refl _, rfl, rfl, digInv_start hu, Below.refl _ _⟩
  case round =>
    obtain ⟨v, l, hv, rfl, rfl, hI, hB⟩ := hrel
    have hlen := digInv_len hI
    have hdec := decDigits_len (u := u) hb
    by_cases h0 : v = 0
    · have hz0 : ((-(v : Int)) != 0) = false := by simp [h0]
      have hlu : (-(u : Int) < 0) := by omega
      have H0 := Lib.hid h0
      clear h0
      have hsum : 1 + l.length ≤ 9223372036854775807 := by omega
      go_wp2
      go_ret
      exact ⟨ret_add (by rw [digInv_done hI H0.out]; rfl), hB⟩
    · have hI2 := digInv_step hI h0
      have hsum : 1 + l.length ≤ 9223372036854775807 := by omega
      by_cases hd : 0 < v % 10
      · have kc := conv_one Tryz.underlying22 Tryz.underlying5 Tryz.underlying9 (48 + v % 10) (by omega) (48 + (v : Int) % 10) (by omega) 1
        go_wp2
        go_roundw
        case rel => exact ⟨v / 10, _, by omega, by go_num, rfl, by simpa using hI2, hB.alloc hB.size _⟩
        case measure => simp [intOf]; omega
      · have kc := conv_one Tryz.underlying22 Tryz.underlying5 Tryz.underlying9 (48 + v % 10) (by omega) (48 + -((v : Int) % 10)) (by omega) 1
        go_wp2
        go_roundw
        case rel => exact ⟨v / 10, _, by omega, by go_num, rfl, by simpa using hI2, hB.alloc hB.size _⟩
        case measure => simp [intOf]; omega
end Go.Proofs.YtnnbhgnllbjmeaaGreatDoor
namespace Go.Proofs.YtnnbhgnllbjmeaaGreatDoor
open Go.RowKit

/-- The digits behind the point, from thousandths. -/
def fracL (r : Nat) : List UInt8 :=
  if r = 0 then [] else 46 :: (if r % 10 ≠ 0 then [UInt8.ofNat (48 + r / 100), UInt8.ofNat (48 + r / 10 % 10), UInt8.ofNat (48 + r % 10)] else if r / 10 % 10 ≠ 0 then [UInt8.ofNat (48 + r / 100), UInt8.ofNat (48 + r / 10 % 10)] else [UInt8.ofNat (48 + r / 100)])
/-- The text of a decimal. -/
def fixT (n : Int) : List UInt8 := if -2147483647 ≤ n ∧ n ≤ 2147483647 then (if n < 0 then [45] else []) ++ Lib.itoa ((n.natAbs : Int) / 1000) ++ fracL (n.natAbs % 1000) else []
theorem isNum_uniq {l : List UInt8} {n m : Int} (h : IsNum l n) (k : IsNum l m) : n = m := by
  have e : Lib.itoa n = Lib.itoa m := h.2.2.trans k.2.2.symm
  have key : ∀ {x : Int}, ∃ b : Bool, (b = decide (x < 0)) ∧ Lib.itoa x = (if x < 0 then [45] else []) ++ Lib.decDigits x.natAbs := by
    intro x
    refine ⟨_, rfl, ?_⟩
    by_cases hx : x < 0
    · obtain ⟨u, rfl⟩ : ∃ u : Nat, x = -(u : Int) := ⟨x.natAbs, by omega⟩
      rw [Lib.itoa_neg u (by omega), if_pos hx]
      simp
    · obtain ⟨u, rfl⟩ := Int.eq_ofNat_of_zero_le (by omega : 0 ≤ x)
      rw [Lib.itoa_nonneg, if_neg hx]
      simp
  have hd : ∀ (u : Nat) (t : List UInt8), Lib.decDigits u ≠ 45 :: t := by
    intro u t ht
    have := decDigits_dig u 45 (by rw [ht]; simp)
    unfold isDig at this
    simp at this
  obtain ⟨_, _, en⟩ := key (x := n)
  obtain ⟨_, _, em⟩ := key (x := m)
  rw [en, em] at e
  by_cases h0 : n < 0
  · by_cases h1 : m < 0
    · rw [if_pos h0, if_pos h1] at e
      have e2 : Lib.decDigits n.natAbs = Lib.decDigits m.natAbs := by simpa using e
      have := congrArg (valFrom 0) e2
      rw [valFrom_decDigits, valFrom_decDigits] at this
      omega
    · rw [if_pos h0, if_neg h1] at e
      exact absurd e.symm (by simpa using hd m.natAbs _)
  · by_cases h1 : m < 0
    · rw [if_neg h0, if_pos h1] at e
      exact absurd e (by simpa using hd n.natAbs _)
    · rw [if_neg h0, if_neg h1] at e
      have e2 : Lib.decDigits n.natAbs = Lib.decDigits m.natAbs := by simpa using e
      have := congrArg (valFrom 0) e2
      rw [valFrom_decDigits, valFrom_decDigits] at this
      omega

open Classical in
/-- The number that a text of 0 to 999,999,999 stands for. -/
noncomputable def numV (l : List UInt8) : Option Int := if h : ∃ n, IsNum l n ∧ 0 ≤ n ∧ n ≤ 999999999 then some (Classical.choose h) else none
theorem numV_some {l : List UInt8} {n : Int} (h : IsNum l n) (h0 : 0 ≤ n) (h1 : n ≤ 999999999) : numV l = some n := by
  have he : ∃ n, IsNum l n ∧ 0 ≤ n ∧ n ≤ 999999999 := ⟨n, h, h0, h1⟩
  rw [numV, dif_pos he, isNum_uniq (Classical.choose_spec he).1 h]
theorem numV_is {l : List UInt8} {n : Int} (h : numV l = some n) : IsNum l n ∧ 0 ≤ n ∧ n ≤ 999999999 := by
  by_cases he : ∃ n, IsNum l n ∧ 0 ≤ n ∧ n ≤ 999999999
  · rw [numV, dif_pos he] at h
    rw [← Option.some.inj h]
    exact Classical.choose_spec he
  · rw [numV, dif_neg he] at h; cases h
theorem numV_none {l : List UInt8} (h : ∀ n, IsNum l n → n < 0 ∨ 999999999 < n) : numV l = none := by
  rw [numV, dif_neg (fun ⟨n, k, k0, k1⟩ => by have := h n k; omega)]

/-- What a digit counts. -/
def dV (c : UInt8) : Int := (c.toNat : Int) - 48
/-- Whether a byte is a digit. -/
def dgB (c : UInt8) : Bool := decide (0 ≤ dV c ∧ dV c ≤ 9)
/-- What a place behind the point counts. -/
def unitV : Nat → Int
  | 0 => 100
  | 1 => 10
  | 2 => 1
  | _ => 0
theorem unitV_next (k : Nat) : unitV k / 10 = unitV (k + 1) := by
  match k with
  | 0 => rfl
  | 1 => rfl
  | 2 => rfl
  | _ + 3 => rfl
/-- What the first places behind the point count. -/
def fA (ds : List UInt8) : Nat → Int
  | 0 => 0
  | k + 1 => fA ds k + unitV k * dV (ds.getD k 0)
/-- What one to three digits behind the point count, in thousandths. -/
def fracV (ds : List UInt8) : Option Int := if 1 ≤ ds.length ∧ ds.length ≤ 3 ∧ ds.all dgB = true then some (fA ds ds.length) else none
/-- What the parts of a text count. -/
noncomputable def bodyV : List (List UInt8) → Option Int
  | [a] => (numV a).map fun n => 1000 * n
  | [a, b] => (numV a).bind fun n => (fracV b).map fun r => 1000 * n + r
  | _ => none
/-- A decimal, if it is one. -/
def inV (n : Int) : Option Int := if -2147483647 ≤ n ∧ n ≤ 2147483647 then some n else none
/-- The decimal that a text stands for. -/
noncomputable def rdV (l : List UInt8) : Option Int :=
  if l.head? = some 45 then (bodyV (partsL 46 l.tail)).bind fun n => inV (-n) else (bodyV (partsL 46 l)).bind inV

theorem dV_digit {k : Nat} (h : k < 10) : dV (UInt8.ofNat (48 + k)) = k := by
  rw [dV, dig_toNat h]; omega
theorem dgB_digit {k : Nat} (h : k < 10) : dgB (UInt8.ofNat (48 + k)) = true := by
  rw [dgB, dV_digit h]; simp; omega
theorem dgB_no46 {ds : List UInt8} (h : ds.all dgB = true) : ∀ x ∈ ds, x ≠ 46 := by
  intro x hx e
  subst e
  have := List.all_eq_true.mp h 46 hx
  simp [dgB, dV] at this
theorem decDigits_no46 (u : Nat) : ∀ x ∈ Lib.decDigits u, x ≠ 46 := by
  intro x hx e
  subst e
  have := decDigits_dig u 46 hx
  unfold isDig at this
  simp at this
theorem frac_one (a : UInt8) : fA [a] 1 = 100 * dV a := by simp [fA, unitV]
theorem frac_two (a b : UInt8) : fA [a, b] 2 = 100 * dV a + 10 * dV b := by simp [fA, unitV]
theorem frac_three (a b c : UInt8) : fA [a, b, c] 3 = 100 * dV a + 10 * dV b + dV c := by simp [fA, unitV]
theorem frac_read {r : Nat} (h0 : r ≠ 0) (h1 : r < 1000) : ∃ ds, fracL r = 46 :: ds ∧ ds.all dgB = true ∧ fracV ds = some (r : Int) := by
  have a0 : r / 100 < 10 := by omega
  have a1 : r / 10 % 10 < 10 := by omega
  have a2 : r % 10 < 10 := by omega
  by_cases h2 : r % 10 = 0
  · by_cases h3 : r / 10 % 10 = 0
    · refine ⟨[UInt8.ofNat (48 + r / 100)], by simp [fracL, h0, h2, h3], by simp only [List.all_cons, List.all_nil, Bool.and_self, dgB_digit a0], ?_⟩
      rw [fracV, if_pos ⟨by simp, by simp, by simp only [List.all_cons, List.all_nil, Bool.and_self, dgB_digit a0]⟩]
      show some (fA _ 1) = _
      rw [frac_one, dV_digit a0]
      congr 1; omega
    · refine ⟨[UInt8.ofNat (48 + r / 100), UInt8.ofNat (48 + r / 10 % 10)], by simp [fracL, h0, h2, h3], by simp only [List.all_cons, List.all_nil, Bool.and_self, dgB_digit a0, dgB_digit a1], ?_⟩
      rw [fracV, if_pos ⟨by simp, by simp, by simp only [List.all_cons, List.all_nil, Bool.and_self, dgB_digit a0, dgB_digit a1]⟩]
      show some (fA _ 2) = _
      rw [frac_two, dV_digit a0, dV_digit a1]
      congr 1; omega
  · refine ⟨[UInt8.ofNat (48 + r / 100), UInt8.ofNat (48 + r / 10 % 10), UInt8.ofNat (48 + r % 10)], by simp [fracL, h0, h2], by simp only [List.all_cons, List.all_nil, Bool.and_self, dgB_digit a0, dgB_digit a1, dgB_digit a2], ?_⟩
    rw [fracV, if_pos ⟨by simp, by simp, by simp only [List.all_cons, List.all_nil, Bool.and_self, dgB_digit a0, dgB_digit a1, dgB_digit a2]⟩]
    show some (fA _ 3) = _
    rw [frac_three, dV_digit a0, dV_digit a1, dV_digit a2]
    congr 1; omega
theorem isNum_dec {q : Nat} (h : q ≤ 999999999) : IsNum (Lib.decDigits q) (q : Int) := ⟨by omega, by omega, Lib.itoa_nonneg q⟩
theorem body_read {q r : Nat} (hq : q ≤ 999999999) (hr : r < 1000) : bodyV (partsL 46 (Lib.decDigits q ++ fracL r)) = some (1000 * (q : Int) + r) := by
  by_cases h0 : r = 0
  · subst h0
    rw [show fracL 0 = [] by simp [fracL], List.append_nil, parts_none (decDigits_no46 q)]
    simp [bodyV, numV_some (isNum_dec hq) (by omega) (by omega)]
  · obtain ⟨ds, e, hds, hv⟩ := frac_read h0 hr
    rw [e, parts_cut _ (decDigits_no46 q), parts_none (dgB_no46 hds)]
    simp [bodyV, numV_some (isNum_dec hq) (by omega) (by omega), hv]
/-- A DECIMAL IS READ AS IT IS WRITTEN. -/
theorem rd_fixT {n : Int} (h0 : -2147483647 ≤ n) (h1 : n ≤ 2147483647) : rdV (fixT n) = some n := by
  have hq : n.natAbs / 1000 ≤ 999999999 := by omega
  have hr : n.natAbs % 1000 < 1000 := by omega
  have e : Lib.itoa ((n.natAbs : Int) / 1000) = Lib.decDigits (n.natAbs / 1000) := by
    rw [show (n.natAbs : Int) / 1000 = ((n.natAbs / 1000 : Nat) : Int) by omega, Lib.itoa_nonneg]
  rw [fixT, if_pos ⟨h0, h1⟩, e]
  by_cases hn : n < 0
  · rw [if_pos hn, rdV, if_pos (by simp)]
    rw [show (([45] : List UInt8) ++ Lib.decDigits (n.natAbs / 1000) ++ fracL (n.natAbs % 1000)).tail = Lib.decDigits (n.natAbs / 1000) ++ fracL (n.natAbs % 1000) by simp, body_read hq hr]
    rw [Option.bind_some, inV, if_pos (by omega)]
    congr 1; omega
  · rw [if_neg hn, List.nil_append, rdV, if_neg ?_, body_read hq hr]
    · rw [Option.bind_some, inV, if_pos (by omega)]
      congr 1; omega
    · intro k
      have hp := decDigits_pos (n.natAbs / 1000)
      cases hd : Lib.decDigits (n.natAbs / 1000) with
      | nil => rw [hd] at hp; simp at hp
      | cons c t =>
        rw [hd] at k
        simp at k
        subst k
        have := decDigits_dig (n.natAbs / 1000) 45 (by rw [hd]; simp)
        unfold isDig at this
        simp at this
theorem fixT_len (n : Int) : (fixT n).length ≤ 20 := by
  rw [fixT]
  split
  · rename_i k
    rw [show (n.natAbs : Int) / 1000 = ((n.natAbs / 1000 : Nat) : Int) by omega, Lib.itoa_nonneg]
    have hd : (Lib.decDigits (n.natAbs / 1000)).length ≤ 7 := by
      rw [Lib.decDigits_length]; exact nDigits_le 6 _ (by omega)
    have hs : (if n < 0 then ([45] : List UInt8) else []).length ≤ 1 := by split <;> simp
    have hf : (fracL (n.natAbs % 1000)).length ≤ 4 := by
      unfold fracL
      split
      · simp
      · split
        · simp
        · split <;> simp
    simp only [List.length_append]
    omega
  · simp
theorem fixT_ne {n : Int} (h0 : -2147483647 ≤ n) (h1 : n ≤ 2147483647) : fixT n ≠ [] := by
  rw [fixT, if_pos ⟨h0, h1⟩, show (n.natAbs : Int) / 1000 = ((n.natAbs / 1000 : Nat) : Int) by omega, Lib.itoa_nonneg]
  have hp := decDigits_pos (n.natAbs / 1000)
  intro k
  have := congrArg List.length k
  simp only [List.length_append, List.length_nil] at this
  omega
theorem inV_is {n m : Int} (h : inV n = some m) : n = m ∧ -2147483647 ≤ m ∧ m ≤ 2147483647 := by
  unfold inV at h
  split at h
  · rename_i k
    obtain rfl := Option.some.inj h
    exact ⟨rfl, k⟩
  · cases h
theorem numV_nil : numV [] = none := by
  refine numV_none fun n h => ?_
  have hp := h.2.2
  exfalso
  by_cases hn : n < 0
  · obtain ⟨u, rfl⟩ : ∃ u : Nat, n = -(u : Int) := ⟨n.natAbs, by omega⟩
    rw [Lib.itoa_neg u (by omega)] at hp; cases hp
  · obtain ⟨u, rfl⟩ := Int.eq_ofNat_of_zero_le (by omega : 0 ≤ n)
    rw [Lib.itoa_nonneg] at hp
    have := decDigits_pos u
    rw [hp] at this
    simp at this
theorem rd_nil : rdV [] = none := by
  rw [rdV, if_neg (by simp), parts_none (by simp)]
  simp [bodyV, numV_nil]
theorem numV_len {l : List UInt8} {n : Int} (h : numV l = some n) (h1 : n ≤ 2147483) : l.length ≤ 7 := by
  obtain ⟨⟨_, _, e⟩, h0, _⟩ := numV_is h
  obtain ⟨u, rfl⟩ := Int.eq_ofNat_of_zero_le h0
  rw [← e, Lib.itoa_nonneg, Lib.decDigits_length]
  exact nDigits_le 6 u (by omega)
theorem fA_nonneg {ds : List UInt8} (h : ds.all dgB = true) : ∀ k, k ≤ ds.length → 0 ≤ fA ds k
  | 0, _ => by simp [fA]
  | k + 1, hk => by
    have ih := fA_nonneg h k (by omega)
    have hd : dgB (ds.getD k 0) = true := by
      have hm : ds[k] ∈ ds := List.getElem_mem (by omega)
      have := List.all_eq_true.mp h _ hm
      rw [List.getD_eq_getElem?_getD, List.getElem?_eq_getElem (by omega)]
      exact this
    simp only [dgB, decide_eq_true_eq] at hd
    have hu : 0 ≤ unitV k := by unfold unitV; split <;> omega
    have := Int.mul_nonneg hu hd.1
    rw [fA]; omega
/-- A text that stands for a decimal is short. -/
theorem body_len {l : List UInt8} {n : Int} (h : bodyV (partsL 46 l) = some n) (h1 : n ≤ 2147483647) : l.length ≤ 11 := by
  have hj := parts_join (c := 46) l
  generalize partsL 46 l = ps at h hj
  match ps, h with
  | [a], h =>
    simp only [bodyV, Option.map_eq_some_iff] at h
    obtain ⟨m, hm, rfl⟩ := h
    have := numV_len hm (by omega)
    rw [Lib.join_one] at hj
    rw [← hj]
    omega
  | [a, b], h =>
    simp only [bodyV, Option.bind_eq_some_iff, Option.map_eq_some_iff] at h
    obtain ⟨m, hm, r, hr, rfl⟩ := h
    unfold fracV at hr
    split at hr
    · rename_i k
      obtain rfl := Option.some.inj hr
      have hp := fA_nonneg k.2.2 b.length (Nat.le_refl _)
      have := numV_len hm (by omega)
      rw [Lib.join_cons] at hj
      rw [← hj]
      simp [Lib.joinTail]
      omega
    · cases hr
theorem rd_len {l : List UInt8} {n : Int} (h : rdV l = some n) : l.length ≤ 12 := by
  unfold rdV at h
  split at h
  · rename_i hd
    simp only [Option.bind_eq_some_iff] at h
    obtain ⟨m, hm, hi⟩ := h
    obtain ⟨rfl, h0, h1⟩ := inV_is hi
    have : l.tail.length ≤ 11 := by
      refine body_len hm ?_
      omega
    have := List.length_tail (l := l)
    omega
  · simp only [Option.bind_eq_some_iff] at h
    obtain ⟨m, hm, hi⟩ := h
    obtain ⟨rfl, h0, h1⟩ := inV_is hi
    have := body_len hm h1
    omega
theorem rd_in {l : List UInt8} {n : Int} (h : rdV l = some n) : -2147483647 ≤ n ∧ n ≤ 2147483647 := by
  unfold rdV at h
  split at h
  · simp only [Option.bind_eq_some_iff] at h
    obtain ⟨m, hm, hi⟩ := h
    exact (inV_is hi).2
  · simp only [Option.bind_eq_some_iff] at h
    obtain ⟨m, hm, hi⟩ := h
    exact (inV_is hi).2
/-- What reading a text ends in. -/
noncomputable def rfE (l : List UInt8) : Ending :=
  match rdV l with
  | some n => .returned (.tuple #[.int .i64 n, .bool true])
  | none => .returned (.tuple #[.int .i64 0, .bool false])
/-- What another spelling ends in. -/
noncomputable def fnE (l : List UInt8) : Ending :=
  match rdV l with
  | some n => .returned (.tuple #[.string ⟨(fixT n).toArray⟩, .bool true])
  | none => .returned (.tuple #[.string ⟨#[]⟩, .bool false])
theorem rfE_some {l : List UInt8} {n : Int} (h : rdV l = some n) : rfE l = .returned (.tuple #[.int .i64 n, .bool true]) := by rw [rfE, h]
theorem rfE_none {l : List UInt8} (h : rdV l = none) : rfE l = .returned (.tuple #[.int .i64 0, .bool false]) := by rw [rfE, h]
theorem fnE_some {l : List UInt8} {n : Int} (h : rdV l = some n) : fnE l = .returned (.tuple #[.string ⟨(fixT n).toArray⟩, .bool true]) := by rw [fnE, h]
theorem fnE_none {l : List UInt8} (h : rdV l = none) : fnE l = .returned (.tuple #[.string ⟨#[]⟩, .bool false]) := by rw [fnE, h]
end Go.Proofs.YtnnbhgnllbjmeaaGreatDoor
namespace Go.Proofs.YtnnbhgnllbjmeaaGreatDoor
open Go.RowKit

/-- Settings. -/
structure Cfg where
  r : Int
  d : Int
  b : Int
  l : Int
  m : Int
  n : Int
  e : Int
  s : List Int
def usualC : Cfg := ⟨4, 2, 4, 1, 1, 1, 1, []⟩
def zeroC : Cfg := ⟨0, 0, 0, 0, 0, 0, 0, []⟩
def inZ (x lo hi : Int) : Bool := decide (lo ≤ x ∧ x ≤ hi)
theorem inZ_iff {x lo hi : Int} : inZ x lo hi = true ↔ lo ≤ x ∧ x ≤ hi := by simp [inZ]
/-- Whether settings are right. -/
def okC (C : Cfg) : Bool := inZ C.r 1 8 && inZ C.d 0 4 && inZ C.b 2 8 && inZ C.l 1 100 && inZ C.m 1 20 && C.s.all (fun z => inZ z (-1) 1) && (inZ C.e 1 1000 && inZ C.n 1 C.e && decide (C.s.length ≤ 4))
/-- A sign's text. -/
def sgnT (z : Int) : List UInt8 := if z = -1 then [45] else if z = 0 then [48] else [43]
def wordsL : List (List UInt8) := [[114, 111, 117, 110, 100, 115], [100, 101, 112, 116, 104], [98, 105, 110, 115], [108, 97, 109, 98, 100, 97], [114, 111, 119, 115], [114, 97, 116, 101], [115, 105, 103, 110, 115]]
def wordL (k : Nat) : List UInt8 := wordsL.getD k []
/-- The number that a key stands for. -/
def numC (k : Nat) (C : Cfg) : Int := match k with | 0 => C.r | 1 => C.d | 2 => C.b | 3 => C.l | _ => C.m
/-- What stands behind a key's sign of equality. -/
def valueL (k : Nat) (C : Cfg) : List UInt8 :=
  if k = 6 then Lib.join (C.s.map sgnT) [44] else if k = 5 then Lib.itoa C.n ++ [47] ++ Lib.itoa C.e else Lib.itoa (numC k C)
/-- A key's line, without its end. -/
def lineL (k : Nat) (C : Cfg) : List UInt8 := wordL k ++ 61 :: valueL k C
/-- The keys of a text's lines. -/
def keysC (C : Cfg) : List Nat := if C.s = [] then [0, 1, 2, 3, 4, 5] else [0, 1, 2, 3, 4, 5, 6]
/-- Lines, each with its end. -/
def linesT : List (List UInt8) → List UInt8
  | [] => []
  | a :: r => a ++ 10 :: linesT r
/-- The text of settings. -/
def textC (C : Cfg) : List UInt8 := if okC C = true then linesT ((keysC C).map fun k => lineL k C) else []

/-- A line's two sides. -/
def splitEq : List UInt8 → Option (List UInt8 × List UInt8)
  | [] => none
  | c :: r => if c = 61 then some ([], r) else (splitEq r).map fun p => (c :: p.1, p.2)
/-- Which key a word is. -/
def wordOf (l : List UInt8) : Option Nat := (List.range 7).find? fun k => wordL k == l
def leastC (k : Nat) : Int := match k with | 0 => 1 | 1 => 0 | 2 => 2 | 3 => 1 | _ => 1
def mostC (k : Nat) : Int := match k with | 0 => 8 | 1 => 4 | 2 => 8 | 3 => 100 | _ => 20
def setC (k : Nat) (z : Int) (C : Cfg) : Cfg := match k with | 0 => { C with r := z } | 1 => { C with d := z } | 2 => { C with b := z } | 3 => { C with l := z } | _ => { C with m := z }
/-- What a rate's text says. -/
noncomputable def rateV (l : List UInt8) : Int × Int × Nat :=
  match partsL 47 l with
  | [a, b] =>
    match numV a, numV b with
    | some n, some d => if inZ n 1 1000 = true ∧ inZ d 1 1000 = true ∧ n ≤ d then (n, d, 0) else (0, 0, 13)
    | _, _ => (0, 0, 12)
  | _ => (0, 0, 12)
def sgnV (l : List UInt8) : Option Int := if l = [43] then some 1 else if l = [48] then some 0 else if l = [45] then some (-1) else none
def sgnsV : List (List UInt8) → Option (List Int)
  | [] => some []
  | a :: r => match sgnV a, sgnsV r with | some z, some t => some (z :: t) | _, _ => none
/-- What the text of signs says. -/
def signsV (l : List UInt8) : Option (List Int) := if 4 < (partsL 44 l).length then none else sgnsV (partsL 44 l)
/-- What a line lays. -/
noncomputable def layV (C : Cfg) (k : Nat) (l : List UInt8) : Cfg × Nat :=
  if k = 6 then (match signsV l with | some s => ({ C with s := s }, 0) | none => ({ C with s := [] }, 14))
  else if k = 5 then ({ C with n := (rateV l).1, e := (rateV l).2.1 }, (rateV l).2.2)
  else match numV l with | none => (C, 12) | some z => (setC k z C, if inZ z (leastC k) (mostC k) = true then 0 else 13)
/-- The lines, one by one. -/
noncomputable def goC : List (List UInt8) → Nat → List Nat → Cfg → Cfg × Nat × Nat
  | [], _, _, C => (C, 0, 0)
  | x :: t, i, met, C =>
    if x = [] then goC t (i + 1) met C else
    match splitEq x with
    | none => (zeroC, 10, i)
    | some (a, v) =>
      match wordOf a with
      | none => (zeroC, 11, i)
      | some k =>
        if k ∈ met then (zeroC, 6, i)
        else if (layV C k v).2 = 0 then goC t (i + 1) (k :: met) (layV C k v).1 else (zeroC, (layV C k v).2, i)
/-- What reading settings answers: the settings, and the fault's two numbers. -/
noncomputable def readC (l : List UInt8) : Cfg × Nat × Nat := if 4000 < l.length then (zeroC, 1, 0) else goC (partsL 10 l) 0 [] usualC

theorem splitEq_at : ∀ {a : List UInt8} (v : List UInt8), (∀ x ∈ a, x ≠ 61) → splitEq (a ++ 61 :: v) = some (a, v)
  | [], v, _ => by rw [List.nil_append, splitEq, if_pos rfl]
  | c :: r, v, h => by
    rw [List.cons_append, splitEq, if_neg (h c (by simp)), splitEq_at v (fun x hx => h x (by simp [hx]))]
    rfl
theorem wordL_ok : ∀ k, k < 7 → (∀ x ∈ wordL k, x ≠ 61 ∧ x ≠ 10) ∧ wordOf (wordL k) = some k ∧ (wordL k).length ≤ 6 := by decide
theorem wordOf_lt {l : List UInt8} {k : Nat} (h : wordOf l = some k) : k < 7 ∧ wordL k = l := by
  have h1 := List.mem_of_find?_eq_some h
  have h2 := List.find?_some h
  exact ⟨List.mem_range.1 h1, by simpa using h2⟩

theorem itoa_dig {z : Int} (h0 : 0 ≤ z) : ∀ x ∈ Lib.itoa z, isDig x := by
  obtain ⟨u, rfl⟩ := Int.eq_ofNat_of_zero_le h0
  rw [Lib.itoa_nonneg]
  exact decDigits_dig u
theorem dig_ne {x c : UInt8} (h : isDig x) (hc : c.toNat < 48) : x ≠ c := by
  intro e
  rw [e] at h
  have := h.1
  omega
theorem isNum_itoa {z : Int} (h0 : 0 ≤ z) (h1 : z ≤ 999999999) : IsNum (Lib.itoa z) z := ⟨by omega, by omega, rfl⟩
theorem numV_itoa {z : Int} (h0 : 0 ≤ z) (h1 : z ≤ 999999999) : numV (Lib.itoa z) = some z := numV_some (isNum_itoa h0 h1) h0 h1

/-- What right settings' numbers keep to. -/
theorem okC_iff {C : Cfg} : okC C = true ↔ (1 ≤ C.r ∧ C.r ≤ 8) ∧ (0 ≤ C.d ∧ C.d ≤ 4) ∧ (2 ≤ C.b ∧ C.b ≤ 8) ∧ (1 ≤ C.l ∧ C.l ≤ 100) ∧ (1 ≤ C.m ∧ C.m ≤ 20) ∧ (∀ z ∈ C.s, -1 ≤ z ∧ z ≤ 1) ∧ (1 ≤ C.e ∧ C.e ≤ 1000) ∧ (1 ≤ C.n ∧ C.n ≤ C.e) ∧ C.s.length ≤ 4 := by
  simp only [okC, Bool.and_eq_true, inZ_iff, List.all_eq_true, decide_eq_true_eq]
  constructor
  · rintro ⟨⟨⟨⟨⟨⟨h1, h2⟩, h3⟩, h4⟩, h5⟩, h6⟩, ⟨h7, h8⟩, h9⟩
    exact ⟨h1, h2, h3, h4, h5, h6, h7, h8, h9⟩
  · rintro ⟨h1, h2, h3, h4, h5, h6, h7, h8, h9⟩
    exact ⟨⟨⟨⟨⟨⟨h1, h2⟩, h3⟩, h4⟩, h5⟩, h6⟩, ⟨h7, h8⟩, h9⟩
theorem okC_usual : okC usualC = true := by decide

theorem parts_joined (c : UInt8) : ∀ (L : List (List UInt8)), L ≠ [] → (∀ a ∈ L, ∀ x ∈ a, x ≠ c) → partsL c (Lib.join L [c]) = L
  | [], h, _ => absurd rfl h
  | [a], _, h => by
    rw [Lib.join_one]
    exact parts_none (h a (by simp))
  | a :: b :: r, _, h => by
    have ih := parts_joined c (b :: r) (by simp) (fun x hx => h x (by simp [hx]))
    have e : Lib.join (a :: b :: r) [c] = a ++ c :: Lib.join (b :: r) [c] := by rw [Lib.join_cons, Lib.join_cons]; simp [Lib.joinTail]
    rw [e, parts_cut _ (h a (by simp)), ih]
theorem parts_lines : ∀ (L : List (List UInt8)), (∀ a ∈ L, ∀ x ∈ a, x ≠ 10) → partsL 10 (linesT L) = L ++ [[]]
  | [], _ => by rw [linesT]; exact parts_none (by simp)
  | a :: r, h => by
    rw [linesT, parts_cut _ (h a (by simp)), parts_lines r (fun x hx => h x (by simp [hx]))]
    rfl
theorem rateV_text {n e : Int} (h1 : 1 ≤ n) (h2 : n ≤ e) (h3 : e ≤ 1000) : rateV (Lib.itoa n ++ [47] ++ Lib.itoa e) = (n, e, 0) := by
  have hp : partsL 47 (Lib.itoa n ++ [47] ++ Lib.itoa e) = [Lib.itoa n, Lib.itoa e] := by
    rw [List.append_assoc, List.singleton_append, parts_cut _ (fun x hx => dig_ne (itoa_dig (by omega) x hx) (by decide)), parts_none (fun x hx => dig_ne (itoa_dig (by omega) x hx) (by decide))]
  rw [rateV, hp]
  simp only
  rw [numV_itoa (by omega) (by omega), numV_itoa (by omega) (by omega)]
  simp only
  rw [if_pos ⟨inZ_iff.2 ⟨by omega, by omega⟩, inZ_iff.2 ⟨by omega, by omega⟩, h2⟩]
theorem sgnT_ne {z : Int} : ∀ x ∈ sgnT z, x ≠ 44 ∧ x ≠ 10 := by
  intro x hx
  unfold sgnT at hx
  split at hx
  · simp at hx; subst hx; decide
  · split at hx
    · simp at hx; subst hx; decide
    · simp at hx; subst hx; decide
theorem sgnV_text {z : Int} (h0 : -1 ≤ z) (h1 : z ≤ 1) : sgnV (sgnT z) = some z := by
  rcases (by omega : z = -1 ∨ z = 0 ∨ z = 1) with rfl | rfl | rfl <;> rfl
theorem sgnsV_text : ∀ (s : List Int), (∀ z ∈ s, -1 ≤ z ∧ z ≤ 1) → sgnsV (s.map sgnT) = some s
  | [], _ => rfl
  | z :: t, h => by
    have h1 := h z (by simp)
    rw [List.map_cons, sgnsV, sgnV_text h1.1 h1.2, sgnsV_text t (fun x hx => h x (by simp [hx]))]
theorem signs_parts {s : List Int} (hne : s ≠ []) : partsL 44 (Lib.join (s.map sgnT) [44]) = s.map sgnT :=
  parts_joined 44 _ (by simpa using hne) (fun a ha x hx => by
    obtain ⟨z, _, rfl⟩ := List.mem_map.1 ha
    exact (sgnT_ne x hx).1)
theorem signsV_text {s : List Int} (h : ∀ z ∈ s, -1 ≤ z ∧ z ≤ 1) (hl : s.length ≤ 4) (hne : s ≠ []) : signsV (Lib.join (s.map sgnT) [44]) = some s := by
  rw [signsV, signs_parts hne, if_neg (by rw [List.length_map]; omega), sgnsV_text s h]

/-- One key's field of C, laid into D. -/
def putC (k : Nat) (D C : Cfg) : Cfg := if k = 6 then { D with s := C.s } else if k = 5 then { D with n := C.n, e := C.e } else setC k (numC k C) D
theorem num_range {C : Cfg} (h : okC C = true) {k : Nat} (hk : k < 5) : leastC k ≤ numC k C ∧ numC k C ≤ mostC k ∧ 0 ≤ numC k C ∧ numC k C ≤ 1000 := by
  have ho := okC_iff.1 h
  rcases (by omega : k = 0 ∨ k = 1 ∨ k = 2 ∨ k = 3 ∨ k = 4) with rfl | rfl | rfl | rfl | rfl <;> simp only [leastC, mostC, numC] <;> omega
theorem layV_text {C : Cfg} (h : okC C = true) (D : Cfg) {k : Nat} (hk : k < 7) (hs : k = 6 → C.s ≠ []) : layV D k (valueL k C) = (putC k D C, 0) := by
  have ho := okC_iff.1 h
  unfold layV valueL putC
  by_cases h6 : k = 6
  · rw [if_pos h6, if_pos h6, if_pos h6, signsV_text ho.2.2.2.2.2.1 ho.2.2.2.2.2.2.2.2 (hs h6)]
  · rw [if_neg h6, if_neg h6, if_neg h6]
    by_cases h5 : k = 5
    · rw [if_pos h5, if_pos h5, if_pos h5, rateV_text ho.2.2.2.2.2.2.2.1.1 ho.2.2.2.2.2.2.2.1.2 ho.2.2.2.2.2.2.1.2]
    · rw [if_neg h5, if_neg h5, if_neg h5]
      have hr := num_range h (by omega : k < 5)
      rw [numV_itoa hr.2.2.1 (by omega)]
      simp only
      rw [if_pos (inZ_iff.2 ⟨hr.1, hr.2.1⟩)]
theorem valueL_ne {C : Cfg} (h : okC C = true) {k : Nat} (hk : k < 7) : ∀ x ∈ valueL k C, x ≠ 10 := by
  have ho := okC_iff.1 h
  intro x hx
  unfold valueL at hx
  split at hx
  · have : ∀ (L : List (List UInt8)), (∀ a ∈ L, ∀ y ∈ a, y ≠ 10) → ∀ y ∈ Lib.join L [44], y ≠ 10 := by
      intro L hL
      match L with
      | [] => simp [Lib.join_nil]
      | a :: r =>
        have ht : ∀ (r : List (List UInt8)), (∀ b ∈ r, ∀ y ∈ b, y ≠ 10) → ∀ y ∈ Lib.joinTail [44] r, y ≠ 10 := by
          intro r hr
          induction r with
          | nil => simp [Lib.joinTail]
          | cons b t ih =>
            intro y hy
            simp only [Lib.joinTail, List.map_cons, List.flatten_cons, List.mem_append, List.mem_singleton] at hy
            rcases hy with (rfl | hy) | hy
            · decide
            · exact hr b (by simp) y hy
            · exact ih (fun c hc => hr c (by simp [hc])) y hy
        intro y hy
        rw [Lib.join_cons, List.mem_append] at hy
        rcases hy with hy | hy
        · exact hL a (by simp) y hy
        · exact ht r (fun b hb => hL b (by simp [hb])) y hy
    exact this _ (fun a ha y hy => by
      obtain ⟨z, _, rfl⟩ := List.mem_map.1 ha
      exact (sgnT_ne y hy).2) x hx
  · split at hx
    · simp only [List.mem_append, List.mem_singleton] at hx
      rcases hx with (hx | rfl) | hx
      · exact dig_ne (itoa_dig (by omega) x hx) (by decide)
      · decide
      · exact dig_ne (itoa_dig (by omega) x hx) (by decide)
    · exact dig_ne (itoa_dig (num_range h (by omega : k < 5)).2.2.1 x hx) (by decide)
theorem lineL_ne {C : Cfg} (h : okC C = true) {k : Nat} (hk : k < 7) : ∀ x ∈ lineL k C, x ≠ 10 := by
  intro x hx
  simp only [lineL, List.mem_append, List.mem_cons] at hx
  rcases hx with hx | rfl | hx
  · exact ((wordL_ok k hk).1 x hx).2
  · decide
  · exact valueL_ne h hk x hx

/-- A line, or an empty one. -/
def lineO (C : Cfg) : Option Nat → List UInt8
  | none => []
  | some k => lineL k C
theorem goC_lines {C : Cfg} (h : okC C = true) : ∀ (ks : List (Option Nat)) (i : Nat) (met : List Nat) (D : Cfg), (∀ k, some k ∈ ks → k < 7 ∧ (k = 6 → C.s ≠ []) ∧ k ∉ met) → (ks.filterMap id).Nodup →
    goC (ks.map (lineO C)) i met D = ((ks.filterMap id).foldl (fun D k => putC k D C) D, 0, 0)
  | [], i, met, D, _, _ => rfl
  | none :: t, i, met, D, hk, hn => by
    rw [List.map_cons, goC, if_pos (show lineO C none = [] from rfl), goC_lines h t (i + 1) met D (fun k hm => hk k (by simp [hm])) (by simpa using hn)]
    rfl
  | some k :: t, i, met, D, hk, hn => by
    obtain ⟨h7, hs, hm⟩ := hk k (by simp)
    have hw := wordL_ok k h7
    have hn2 : k ∉ t.filterMap id ∧ (t.filterMap id).Nodup := by simpa using hn
    have hne : lineO C (some k) ≠ [] := by simp [lineO, lineL]
    have hsp : splitEq (lineO C (some k)) = some (wordL k, valueL k C) := splitEq_at _ (fun x hx => (hw.1 x hx).1)
    rw [List.map_cons, goC, if_neg hne, hsp]
    simp only
    rw [hw.2.1]
    simp only
    rw [if_neg hm, layV_text h D h7 hs, if_pos rfl]
    rw [goC_lines h t (i + 1) (k :: met) _ (fun j hj => ⟨(hk j (by simp [hj])).1, (hk j (by simp [hj])).2.1, fun hmem => by
      rcases List.mem_cons.1 hmem with rfl | hmem
      · exact hn2.1 (List.mem_filterMap.2 ⟨some j, hj, rfl⟩)
      · exact (hk j (by simp [hj])).2.2 hmem⟩) hn2.2]
    rfl
theorem foldC {C : Cfg} : ∀ (ks : List Nat) (D : Cfg), (∀ k ∈ ks, k < 7) → (∀ (F : Cfg), F = ks.foldl (fun D k => putC k D C) D →
    F.r = (if 0 ∈ ks then C.r else D.r) ∧ F.d = (if 1 ∈ ks then C.d else D.d) ∧ F.b = (if 2 ∈ ks then C.b else D.b) ∧ F.l = (if 3 ∈ ks then C.l else D.l) ∧ F.m = (if 4 ∈ ks then C.m else D.m) ∧ F.n = (if 5 ∈ ks then C.n else D.n) ∧ F.e = (if 5 ∈ ks then C.e else D.e) ∧ F.s = (if 6 ∈ ks then C.s else D.s))
  | [], D, _, F, hF => by subst hF; simp
  | k :: t, D, hk, F, hF => by
    have ih := foldC t (putC k D C) (fun j hj => hk j (by simp [hj])) F hF
    have h7 := hk k (by simp)
    rcases (by omega : k = 0 ∨ k = 1 ∨ k = 2 ∨ k = 3 ∨ k = 4 ∨ k = 5 ∨ k = 6) with rfl | rfl | rfl | rfl | rfl | rfl | rfl <;> simp [putC, setC, numC] at ih ⊢ <;> (refine ⟨?_, ?_, ?_, ?_, ?_, ?_, ?_, ?_⟩ <;> first | exact ih.1 | exact ih.2.1 | exact ih.2.2.1 | exact ih.2.2.2.1 | exact ih.2.2.2.2.1 | exact ih.2.2.2.2.2.1 | exact ih.2.2.2.2.2.2.1 | exact ih.2.2.2.2.2.2.2 | (simp only [ih]; split <;> simp_all))
theorem foldC_all {C : Cfg} {ks : List Nat} (hk : ∀ k ∈ ks, k < 7) (h5 : ∀ k, k < 6 → k ∈ ks) (h6 : 6 ∈ ks ∨ C.s = []) : ks.foldl (fun D k => putC k D C) usualC = C := by
  obtain ⟨h0, h1, h2, h3, h4, ha, hb, hc⟩ := foldC (C := C) ks usualC hk _ rfl
  have e : ∀ F : Cfg, F.r = C.r → F.d = C.d → F.b = C.b → F.l = C.l → F.m = C.m → F.n = C.n → F.e = C.e → F.s = C.s → F = C := by
    intro F a b c d e f g h
    cases F
    cases C
    simp_all
  rw [if_pos (h5 _ (by omega))] at h0 h1 h2 h3 h4 ha hb
  refine e _ h0 h1 h2 h3 h4 ha hb ?_
  rcases h6 with h6 | h6
  · rw [if_pos h6] at hc; exact hc
  · rw [hc]
    split
    · rfl
    · rw [h6]; rfl
end Go.Proofs.YtnnbhgnllbjmeaaGreatDoor
namespace Go.Proofs.YtnnbhgnllbjmeaaGreatDoor
open Go.RowKit

/-- Cut at the first point. -/
theorem cut_point (c : UInt8) (l : List UInt8) : ((∀ x ∈ l, x ≠ c) ∧ Lib.cut l [c] = (l, [], false)) ∨ (∃ a b, l = a ++ c :: b ∧ (∀ x ∈ a, x ≠ c) ∧ Lib.cut l [c] = (a, b, true)) := by
  rcases Lib.index_spec l [c] with ⟨h1, h2⟩ | ⟨i, h1, h2, h3, h4⟩
  · refine Or.inl ⟨?_, by unfold Lib.cut; rw [h1, if_neg (by omega)]⟩
    rintro x hx rfl
    obtain ⟨j, hj⟩ := List.getElem?_of_mem hx
    have hjl := (List.getElem?_eq_some_iff.1 hj).1
    have := h2 j (by omega)
    rw [occ_at.2 hj] at this
    cases this
  · have hi := occ_at.1 h3
    have hil := (List.getElem?_eq_some_iff.1 hi).1
    have hl2 : l = l.take i ++ c :: l.drop (i + 1) := by
      have e := List.take_append_drop i l
      have e2 : l.drop i = c :: l.drop (i + 1) := by
        rw [List.drop_eq_getElem_cons hil]
        congr 1
        exact (List.getElem?_eq_some_iff.1 hi).2
      rw [e2] at e
      exact e.symm
    have hno : ∀ x ∈ l.take i, x ≠ c := by
      rintro x hx rfl
      obtain ⟨j, hj⟩ := List.getElem?_of_mem hx
      have hji : j < i := by
        have := (List.getElem?_eq_some_iff.1 hj).1
        simp at this
        omega
      rw [List.getElem?_take, if_pos hji] at hj
      have := h4 j hji
      rw [occ_at.2 hj] at this
      cases this
    refine Or.inr ⟨l.take i, l.drop (i + 1), hl2, hno, ?_⟩
    unfold Lib.cut
    rw [h1, if_pos (by omega)]
    simp
theorem pl_none {l : List UInt8} (h : ∀ x ∈ l, x ≠ 46) : bodyV (partsL 46 l) = (numV l).map fun n => 1000 * n := by
  rw [parts_none h]; rfl
theorem pl_no46 {b : List UInt8} {r : Int} (h : fracV b = some r) : ∀ x ∈ b, x ≠ 46 := by
  unfold fracV at h
  split at h
  · rename_i k
    exact dgB_no46 k.2.2
  · cases h
theorem pl_cut {a b : List UInt8} (h : ∀ x ∈ a, x ≠ 46) : bodyV (partsL 46 (a ++ 46 :: b)) = (numV a).bind fun n => (fracV b).map fun r => 1000 * n + r := by
  rw [parts_cut b h]
  cases hb : fracV b with
  | some r =>
    rw [parts_none (pl_no46 hb)]
    simp [bodyV, hb]
  | none =>
    have key : ∀ q : List (List UInt8), partsL 46 b = q → bodyV (a :: q) = none := by
      intro q hq
      match q, hq with
      | [], hq => have := parts_pos (c := 46) b; rw [hq] at this; simp at this
      | [x], hq =>
        have hj := parts_join (c := 46) b
        rw [hq, Lib.join_one] at hj
        subst hj
        simp [bodyV, hb]
      | _ :: _ :: _, _ => rfl
    rw [key _ rfl]
    simp
/-- What the first k places count, one behind the other; a place that is not written counts as 0. -/
def pA (ds : List UInt8) : Nat → Int
  | 0 => 0
  | k + 1 => pA ds k * 10 + (if k < ds.length then dV (ds.getD k 0) else 0)
theorem pA_frac {ds : List UInt8} (h0 : 1 ≤ ds.length) (h1 : ds.length ≤ 3) : pA ds 3 = fA ds ds.length := by
  match ds, h0, h1 with
  | [a], _, _ => simp [pA, fA, unitV]; omega
  | [a, b], _, _ => simp [pA, fA, unitV]; omega
  | [a, b, c], _, _ => simp [pA, fA, unitV]; omega
  | _ :: _ :: _ :: _ :: _, _, h => simp at h
theorem pA_le {ds : List UInt8} {k : Nat} (h : ∀ j, j < k → j < ds.length → dgB (ds.getD j 0) = true) (hk : k ≤ 3) : 0 ≤ pA ds k ∧ pA ds k ≤ 999 := by
  have hd : ∀ j, j < k → 0 ≤ (if j < ds.length then dV (ds.getD j 0) else 0) ∧ (if j < ds.length then dV (ds.getD j 0) else 0) ≤ 9 := by
    intro j h1
    split
    · rename_i h2
      have := h j h1 h2
      simpa only [dgB, decide_eq_true_eq] using this
    · omega
  match k with
  | 0 => simp [pA]
  | 1 =>
    have a := hd 0 (by omega)
    simp only [pA]
    omega
  | 2 =>
    have a := hd 0 (by omega)
    have b := hd 1 (by omega)
    simp only [pA]
    omega
  | 3 =>
    have a := hd 0 (by omega)
    have b := hd 1 (by omega)
    have c := hd 2 (by omega)
    simp only [pA]
    omega
/-- What reading the places ends in. -/
def plE (ds : List UInt8) : Ending :=
  match fracV ds with
  | some r => .returned (.tuple #[.int .i64 r, .bool true])
  | none => .returned (.tuple #[.int .i64 0, .bool false])
theorem plE_some {l : List UInt8} {n : Int} (h : fracV l = some n) : plE l = .returned (.tuple #[.int .i64 n, .bool true]) := by rw [plE, h]
theorem plE_none {l : List UInt8} (h : fracV l = none) : plE l = .returned (.tuple #[.int .i64 0, .bool false]) := by rw [plE, h]
theorem pl_in {ds : List UInt8} {r : Int} (h : fracV ds = some r) : 0 ≤ r ∧ r ≤ 999 := by
  unfold fracV at h
  split at h
  · rename_i k
    obtain rfl := Option.some.inj h
    rw [← pA_frac k.1 k.2.1]
    refine pA_le (fun j _ hj => ?_) (by omega)
    have hm : ds[j] ∈ ds := List.getElem_mem hj
    have := List.all_eq_true.mp k.2.2 _ hm
    rw [List.getD_eq_getElem?_getD, List.getElem?_eq_getElem hj]
    exact this
  · cases h
theorem pl_bad {ds : List UInt8} {k : Nat} (hk : k < ds.length) (h : dgB (ds.getD k 0) = false) : fracV ds = none := by
  unfold fracV
  rw [if_neg]
  rintro ⟨_, _, h2⟩
  have hm : ds[k] ∈ ds := List.getElem_mem hk
  have := List.all_eq_true.mp h2 _ hm
  rw [List.getD_eq_getElem?_getD, List.getElem?_eq_getElem hk] at h
  simp only [Option.getD_some] at h
  rw [this] at h
  cases h
theorem pl_all {ds : List UInt8} (h0 : 1 ≤ ds.length) (h1 : ds.length ≤ 3) (h : ∀ j, j < 3 → j < ds.length → dgB (ds.getD j 0) = true) : fracV ds = some (pA ds 3) := by
  have hall : ds.all dgB = true := by
    refine List.all_eq_true.mpr fun x hx => ?_
    obtain ⟨j, hj⟩ := List.getElem?_of_mem hx
    have hjl := (List.getElem?_eq_some_iff.1 hj).1
    have := h j (by omega) hjl
    rw [List.getD_eq_getElem?_getD, hj] at this
    exact this
  rw [fracV, if_pos ⟨h0, h1, hall⟩, pA_frac h0 h1]
theorem pl_zero : fracV [48] = some 0 := by decide
/-- The digits of a thousand and r. -/
theorem dec_thousand {r : Nat} (h : r < 1000) : Lib.decDigits (1000 + r) = [49, UInt8.ofNat (48 + r / 100), UInt8.ofNat (48 + r / 10 % 10), UInt8.ofNat (48 + r % 10)] := by
  rw [Lib.decDigits, dif_neg (by omega), Lib.decDigits, dif_neg (by omega), Lib.decDigits, dif_neg (by omega), Lib.decDigits_one (by omega)]
  rw [show (1000 + r) / 10 / 10 / 10 = 1 by omega, show (1000 + r) / 10 / 10 % 10 = r / 100 by omega, show (1000 + r) / 10 % 10 = r / 10 % 10 by omega, show (1000 + r) % 10 = r % 10 by omega]
  rfl
theorem dig48 {k : Nat} (h : k < 10) : (UInt8.ofNat (48 + k) == 48) = decide (k = 0) := by
  by_cases hk : k = 0
  · subst hk; rfl
  · rw [decide_eq_false hk, beq_eq_false_iff_ne]
    intro e
    have := congrArg UInt8.toNat e
    rw [dig_toNat h] at this
    have h2 : (48 : UInt8).toNat = 48 := rfl
    omega
/-- The places without the zeros at their end. -/
theorem trim_frac {r : Nat} (h0 : r ≠ 0) (h : r < 1000) : 46 :: Lib.trimRightB [UInt8.ofNat (48 + r / 100), UInt8.ofNat (48 + r / 10 % 10), UInt8.ofNat (48 + r % 10)] 48 = fracL r := by
  have a0 := dig48 (k := r / 100) (by omega)
  have a1 := dig48 (k := r / 10 % 10) (by omega)
  have a2 := dig48 (k := r % 10) (by omega)
  unfold Lib.trimRightB fracL
  rw [if_neg h0]
  simp only [List.reverse_cons, List.reverse_nil, List.nil_append, List.cons_append, List.dropWhile_cons, List.dropWhile_nil, a0, a1, a2, decide_eq_true_eq]
  by_cases h2 : r % 10 = 0
  · by_cases h3 : r / 10 % 10 = 0
    · have h4 : ¬ r / 100 = 0 := by omega
      simp [h2, h3, h4]
    · simp [h2, h3]
  · simp [h2]
theorem trim_len {x y z : UInt8} (c : UInt8 := 48) : (Lib.trimRightB [x, y, z] c).length ≤ 3 := by
  unfold Lib.trimRightB
  rw [List.length_reverse]
  exact (List.dropWhile_sublist _).length_le
/-- Where the text is cut: what stands before and behind the point. -/
theorem fixT_parts {n : Int} (h0 : -2147483647 ≤ n) (h1 : n ≤ 2147483647) (m : Nat) (hm : n.natAbs = m) : fixT n = (if n < 0 then [45] else []) ++ (Lib.itoa ((m : Int) / 1000) ++ fracL (m % 1000)) := by
  rw [fixT, if_pos ⟨h0, h1⟩, hm, List.append_assoc]
theorem rd_neg {l : List UInt8} : rdV (45 :: l) = (bodyV (partsL 46 l)).bind fun n => inV (-n) := by rw [rdV, if_pos (by simp)]; rfl
theorem rd_pos {l : List UInt8} (h : l.head? ≠ some 45) : rdV l = (bodyV (partsL 46 l)).bind inV := by rw [rdV, if_neg h]
end Go.Proofs.YtnnbhgnllbjmeaaGreatDoor
namespace Go.Proofs.YtnnbhgnllbjmeaaGreatDoor
open Go.RowKit

/-- The items of a text: its keys, and the empty line behind the last one. -/
def itemsC (C : Cfg) : List (Option Nat) := (keysC C).map some ++ [none]
theorem keys_lt {C : Cfg} {k : Nat} (h : k ∈ keysC C) : k < 7 ∧ (k = 6 → C.s ≠ []) := by
  unfold keysC at h
  split at h
  · simp at h; omega
  · rename_i hs
    simp at h
    exact ⟨by omega, fun _ => hs⟩
theorem keys_nodup (C : Cfg) : (keysC C).Nodup := by
  unfold keysC
  split <;> decide
theorem keys_all (C : Cfg) : (∀ k, k < 6 → k ∈ keysC C) ∧ (6 ∈ keysC C ∨ C.s = []) := by
  unfold keysC
  split
  · rename_i h
    exact ⟨fun k hk => by simp; omega, Or.inr h⟩
  · exact ⟨fun k hk => by simp; omega, Or.inl (by simp)⟩
theorem items_filter (C : Cfg) : (itemsC C).filterMap id = keysC C := by
  unfold itemsC
  rw [List.filterMap_append]
  have : ∀ l : List Nat, (l.map some).filterMap id = l := by
    intro l
    induction l with
    | nil => rfl
    | cons a t ih => simp [ih]
  rw [this]
  simp
theorem lineO_ne {C : Cfg} (h : okC C = true) {x : Option Nat} (hx : x ∈ itemsC C) : ∀ y ∈ lineO C x, y ≠ 10 := by
  cases x with
  | none => simp [lineO]
  | some k =>
    have hk : k ∈ keysC C := by
      unfold itemsC at hx
      simpa using hx
    exact lineL_ne h (keys_lt hk).1
theorem parts_text {C : Cfg} (h : okC C = true) : partsL 10 (textC C) = (itemsC C).map (lineO C) := by
  rw [textC, if_pos h, parts_lines _ (fun a ha => by
    obtain ⟨k, hk, rfl⟩ := List.mem_map.1 ha
    exact lineL_ne h (keys_lt hk).1)]
  unfold itemsC
  rw [List.map_append, List.map_map]
  rfl
/-- The items in some order say the settings. -/
theorem goC_items {C : Cfg} (h : okC C = true) {ks : List (Option Nat)} (hp : ks.Perm (itemsC C)) : goC (ks.map (lineO C)) 0 [] usualC = (C, 0, 0) := by
  have hf : (ks.filterMap id).Perm (keysC C) := by
    have := hp.filterMap id
    rwa [items_filter] at this
  rw [goC_lines h ks 0 [] usualC (fun k hk => by
    have hk2 : k ∈ keysC C := hf.mem_iff.1 (List.mem_filterMap.2 ⟨some k, hk, rfl⟩)
    exact ⟨(keys_lt hk2).1, (keys_lt hk2).2, by simp⟩) (hf.nodup_iff.2 (keys_nodup C))]
  rw [foldC_all (C := C) (fun k hk => (keys_lt (hf.mem_iff.1 hk)).1) (fun k hk => hf.mem_iff.2 ((keys_all C).1 k hk)) ((keys_all C).2.imp (fun h6 => hf.mem_iff.2 h6) id)]
theorem valueL_len {C : Cfg} (h : okC C = true) {k : Nat} (hk : k < 7) : (valueL k C).length ≤ 60 := by
  have ho := okC_iff.1 h
  have hit : ∀ z : Int, -9223372036854775808 ≤ z → z ≤ 9223372036854775807 → (Lib.itoa z).length ≤ 21 := Lib.itoa_length_le
  unfold valueL
  split
  · have : ∀ s : List Int, (Lib.join (s.map sgnT) [44]).length ≤ 2 * s.length := by
      intro s
      have hs : ∀ z : Int, (sgnT z).length = 1 := by
        intro z
        unfold sgnT
        split
        · rfl
        · split <;> rfl
      match s with
      | [] => simp [Lib.join_nil]
      | a :: r =>
        have ht : ∀ r : List Int, (Lib.joinTail [44] (r.map sgnT)).length = 2 * r.length := by
          intro r
          induction r with
          | nil => simp [Lib.joinTail]
          | cons b t ih =>
            simp only [Lib.joinTail, List.map_cons, List.flatten_cons, List.length_append, List.length_cons, List.length_nil] at ih ⊢
            have := hs b
            omega
        rw [List.map_cons, Lib.join_cons, List.length_append, ht, hs, List.length_cons]
        omega
    have := this C.s
    omega
  · split
    · have h1 := hit C.n (by omega) (by omega)
      have h2 := hit C.e (by omega) (by omega)
      simp only [List.length_append, List.length_cons, List.length_nil]
      omega
    · have hr := num_range h (by omega : k < 5)
      have := hit (numC k C) (by omega) (by omega)
      omega
theorem lineO_len {C : Cfg} (h : okC C = true) {x : Option Nat} (hx : x ∈ itemsC C) : (lineO C x).length ≤ 67 := by
  cases x with
  | none => simp [lineO]
  | some k =>
    have hk : k ∈ keysC C := by
      unfold itemsC at hx
      simpa using hx
    have h1 := valueL_len h (keys_lt hk).1
    have h2 := (wordL_ok k (keys_lt hk).1).2.2
    simp only [lineO, lineL, List.length_append, List.length_cons]
    omega
theorem items_len (C : Cfg) : (itemsC C).length ≤ 8 := by
  unfold itemsC keysC
  split <;> simp
theorem linesT_len : ∀ (L : List (List UInt8)) (n : Nat), (∀ a ∈ L, a.length ≤ n) → (linesT L).length ≤ (n + 1) * L.length
  | [], n, _ => by simp [linesT]
  | a :: r, n, h => by
    have ih := linesT_len r n (fun x hx => h x (by simp [hx]))
    have h1 := h a (by simp)
    rw [linesT, List.length_append, List.length_cons, List.length_cons, Nat.mul_succ]
    omega
theorem join_len_n (L : List (List UInt8)) (n : Nat) (c : UInt8) (h : ∀ a ∈ L, a.length ≤ n) : (Lib.join L [c]).length ≤ (n + 1) * L.length := by
  match L with
  | [] => simp [Lib.join_nil]
  | a :: r =>
    have ht : ∀ r : List (List UInt8), (∀ b ∈ r, b.length ≤ n) → (Lib.joinTail [c] r).length ≤ (n + 1) * r.length := by
      intro r hr
      induction r with
      | nil => simp [Lib.joinTail]
      | cons b t ih =>
        have h1 := hr b (by simp)
        have h2 := ih (fun x hx => hr x (by simp [hx]))
        simp only [Lib.joinTail, List.map_cons, List.flatten_cons, List.length_append, List.length_cons, List.length_nil] at h2 ⊢
        rw [Nat.mul_succ]
        omega
    have h1 := h a (by simp)
    have h2 := ht r (fun b hb => h b (by simp [hb]))
    rw [Lib.join_cons, List.length_append, List.length_cons, Nat.mul_succ]
    omega
theorem textC_len {C : Cfg} (h : okC C = true) : (textC C).length ≤ 600 := by
  rw [textC, if_pos h]
  have h1 := linesT_len ((keysC C).map fun k => lineL k C) 67 (fun a ha => by
    obtain ⟨k, hk, rfl⟩ := List.mem_map.1 ha
    exact lineO_len (C := C) h (x := some k) (by unfold itemsC; simpa using hk))
  have h2 := items_len C
  unfold itemsC at h2
  simp only [List.length_append, List.length_map, List.length_cons, List.length_nil] at h2
  rw [List.length_map] at h1
  have h3 : 68 * (keysC C).length ≤ 68 * 7 := Nat.mul_le_mul (Nat.le_refl _) (by omega)
  omega
/-- SETTINGS ARE READ AS THEY ARE WRITTEN. -/
theorem readC_text {C : Cfg} (h : okC C = true) : readC (textC C) = (C, 0, 0) := by
  have hl := textC_len h
  rw [readC, if_neg (by omega), parts_text h]
  exact goC_items h (List.Perm.refl _)
/-- .. IN WHATEVER ORDER THE LINES STAND. -/
theorem readC_turned {C : Cfg} (h : okC C = true) (k : Nat) : readC (Lib.join ((partsL 10 (textC C)).drop k ++ (partsL 10 (textC C)).take k) [10]) = (C, 0, 0) := by
  have he : (partsL 10 (textC C)).drop k ++ (partsL 10 (textC C)).take k = ((itemsC C).drop k ++ (itemsC C).take k).map (lineO C) := by
    rw [parts_text h, List.map_append, List.map_drop, List.map_take]
  have hperm : ((itemsC C).drop k ++ (itemsC C).take k).Perm (itemsC C) := by
    have := List.perm_append_comm (l₁ := (itemsC C).drop k) (l₂ := (itemsC C).take k)
    rwa [List.take_append_drop] at this
  have hmem : ∀ x ∈ (itemsC C).drop k ++ (itemsC C).take k, x ∈ itemsC C := fun x hx => hperm.mem_iff.1 hx
  have hne : ((itemsC C).drop k ++ (itemsC C).take k).map (lineO C) ≠ [] := by
    intro e
    have h1 := congrArg List.length e
    rw [List.length_map, hperm.length_eq] at h1
    unfold itemsC at h1
    simp at h1
  have hlen : (Lib.join (((itemsC C).drop k ++ (itemsC C).take k).map (lineO C)) [10]).length ≤ 4000 := by
    have h1 := join_len_n (((itemsC C).drop k ++ (itemsC C).take k).map (lineO C)) 67 10 (fun a ha => by
      obtain ⟨x, hx, rfl⟩ := List.mem_map.1 ha
      exact lineO_len h (hmem x hx))
    rw [List.length_map, hperm.length_eq] at h1
    have h2 := items_len C
    have h3 : 68 * (itemsC C).length ≤ 68 * 8 := Nat.mul_le_mul (Nat.le_refl _) h2
    omega
  rw [he, readC, if_neg (by omega), parts_joined 10 _ hne (fun a ha => by
    obtain ⟨x, hx, rfl⟩ := List.mem_map.1 ha
    exact lineO_ne h (hmem x hx))]
  exact goC_items h hperm

theorem sgnsV_ok : ∀ {L : List (List UInt8)} {s : List Int}, sgnsV L = some s → s.length = L.length ∧ ∀ z ∈ s, -1 ≤ z ∧ z ≤ 1
  | [], s, h => by
    obtain rfl : [] = s := by simpa [sgnsV] using h
    simp
  | a :: r, s, h => by
    rw [sgnsV] at h
    cases h1 : sgnV a with
    | none => rw [h1] at h; cases h
    | some z =>
      cases h2 : sgnsV r with
      | none => rw [h1, h2] at h; cases h
      | some t =>
        rw [h1, h2] at h
        obtain rfl : z :: t = s := by simpa using h
        have ih := sgnsV_ok h2
        have hz : -1 ≤ z ∧ z ≤ 1 := by
          unfold sgnV at h1
          split at h1
          · obtain rfl : 1 = z := by simpa using h1
            omega
          · split at h1
            · obtain rfl : 0 = z := by simpa using h1
              omega
            · split at h1
              · obtain rfl : -1 = z := by simpa using h1
                omega
              · cases h1
        refine ⟨by simp [ih.1], fun y hy => ?_⟩
        rcases List.mem_cons.1 hy with rfl | hy
        · exact hz
        · exact ih.2 y hy
theorem rateV_ok {l : List UInt8} (h : (rateV l).2.2 = 0) : 1 ≤ (rateV l).1 ∧ (rateV l).1 ≤ (rateV l).2.1 ∧ (rateV l).2.1 ≤ 1000 ∧ 1 ≤ (rateV l).2.1 := by
  revert h
  unfold rateV
  split
  · split
    · split
      · rename_i hc
        intro _
        have h1 := inZ_iff.1 hc.1
        have h2 := inZ_iff.1 hc.2.1
        exact ⟨h1.1, hc.2.2, h2.2, h2.1⟩
      · intro h; cases h
    · intro h; cases h
  · intro h; cases h
theorem layV_ok {D : Cfg} {k : Nat} {l : List UInt8} (hk : k < 7) (h : okC D = true) (h0 : (layV D k l).2 = 0) : okC (layV D k l).1 = true := by
  have ho := okC_iff.1 h
  rw [okC_iff]
  unfold layV at h0 ⊢
  by_cases h6 : k = 6
  · rw [if_pos h6] at h0 ⊢
    cases hs : signsV l with
    | none => rw [hs] at h0; cases h0
    | some s =>
      rw [hs] at h0
      simp only
      unfold signsV at hs
      split at hs
      · cases hs
      · have hk := sgnsV_ok hs
        exact ⟨ho.1, ho.2.1, ho.2.2.1, ho.2.2.2.1, ho.2.2.2.2.1, hk.2, ho.2.2.2.2.2.2.1, ho.2.2.2.2.2.2.2.1, by omega⟩
  · rw [if_neg h6] at h0 ⊢
    by_cases h5 : k = 5
    · rw [if_pos h5] at h0 ⊢
      have hr := rateV_ok h0
      exact ⟨ho.1, ho.2.1, ho.2.2.1, ho.2.2.2.1, ho.2.2.2.2.1, ho.2.2.2.2.2.1, ⟨hr.2.2.2, hr.2.2.1⟩, ⟨hr.1, hr.2.1⟩, ho.2.2.2.2.2.2.2.2⟩
    · rw [if_neg h5] at h0 ⊢
      cases hn : numV l with
      | none => rw [hn] at h0; cases h0
      | some z =>
        rw [hn] at h0
        simp only at h0 ⊢
        have hz : leastC k ≤ z ∧ z ≤ mostC k := by
          by_cases hi : inZ z (leastC k) (mostC k) = true
          · exact inZ_iff.1 hi
          · rw [if_neg hi] at h0; cases h0
        rcases (by omega : k = 0 ∨ k = 1 ∨ k = 2 ∨ k = 3 ∨ k = 4) with rfl | rfl | rfl | rfl | rfl <;> simp only [leastC, mostC, setC] at hz ⊢ <;> exact ⟨by omega, by omega, by omega, by omega, by omega, ho.2.2.2.2.2.1, by omega, by omega, by omega⟩
theorem goC_ok : ∀ {L : List (List UInt8)} {i : Nat} {met : List Nat} {D : Cfg}, okC D = true → (goC L i met D).2.1 = 0 → okC (goC L i met D).1 = true
  | [], i, met, D, h, _ => h
  | x :: t, i, met, D, h, h0 => by
    rw [goC] at h0 ⊢
    split at h0
    · rename_i hx
      rw [if_pos hx]
      exact goC_ok h h0
    · rename_i hx
      rw [if_neg hx]
      cases hs : splitEq x with
      | none => rw [hs] at h0; cases h0
      | some p =>
        obtain ⟨a, v⟩ := p
        rw [hs] at h0
        simp only at h0 ⊢
        cases hw : wordOf a with
        | none => rw [hw] at h0; cases h0
        | some k =>
          rw [hw] at h0
          simp only at h0 ⊢
          split at h0
          · cases h0
          · rename_i hm
            rw [if_neg hm]
            split at h0
            · rename_i hl
              rw [if_pos hl]
              exact goC_ok (layV_ok (wordOf_lt hw).1 h hl) h0
            · rename_i hl
              exact absurd h0 hl
/-- WHAT IS READ IS RIGHT. -/
theorem readC_ok {l : List UInt8} (h : (readC l).2.1 = 0) : okC (readC l).1 = true := by
  rw [readC] at h ⊢
  split at h
  · cases h
  · rename_i hl
    rw [if_neg hl]
    exact goC_ok okC_usual h
end Go.Proofs.YtnnbhgnllbjmeaaGreatDoor
namespace Go.Proofs.YtnnbhgnllbjmeaaGreatDoor
open Go.RowKit

/-- The map of the keys with their places, as it is written key by key. -/
def keyPut (D : DataW Unit) (k : Nat) : DataW Unit := D.put (.string (wordL k)) (.lit (.int .i64 k))
def keyD : DataW Unit := keyPut (keyPut (keyPut (keyPut (keyPut (keyPut (keyPut (.map []) 0) 1) 2) 3) 4) 5) 6
def keyD6 : DataW Unit := keyD.del (.string (wordL 6))
theorem has_keyPut {D : DataW Unit} (h : Maps.IsMap D) (k : Nat) (x : List UInt8) : Maps.has (keyPut D k) (.string x) = (decide (wordL k = x) || Maps.has D (.string x)) := by
  unfold keyPut
  by_cases e : wordL k = x
  · subst e
    rw [Maps.has_put_same h (by trivial)]
    simp
  · rw [Maps.has_put_other (fun h => e (by simpa using h.symm))]
    simp [e]
theorem isMap_keyPut {D : DataW Unit} (h : Maps.IsMap D) (k : Nat) : Maps.IsMap (keyPut D k) := h.put _ _
theorem isMap_keyD : Maps.IsMap keyD := isMap_keyPut (isMap_keyPut (isMap_keyPut (isMap_keyPut (isMap_keyPut (isMap_keyPut (isMap_keyPut Maps.isMap_empty 0) 1) 2) 3) 4) 5) 6
theorem has_keyD (x : List UInt8) : Maps.has keyD (.string x) = (wordOf x).isSome := by
  have h0 : Maps.has (.map [] : DataW Unit) (.string x) = false := rfl
  have e : Maps.has keyD (.string x) = (decide (wordL 6 = x) || (decide (wordL 5 = x) || (decide (wordL 4 = x) || (decide (wordL 3 = x) || (decide (wordL 2 = x) || (decide (wordL 1 = x) || (decide (wordL 0 = x) || false))))))) := by
    unfold keyD
    rw [has_keyPut, has_keyPut, has_keyPut, has_keyPut, has_keyPut, has_keyPut, has_keyPut, h0] <;> repeat (first | exact Maps.isMap_empty | refine isMap_keyPut ?_ _)
  rw [e]
  cases hw : wordOf x with
  | some k =>
    obtain ⟨hk, rfl⟩ := wordOf_lt hw
    rcases (by omega : k = 0 ∨ k = 1 ∨ k = 2 ∨ k = 3 ∨ k = 4 ∨ k = 5 ∨ k = 6) with rfl | rfl | rfl | rfl | rfl | rfl | rfl <;> simp
  | none =>
    have hn : ∀ k, k < 7 → ¬ wordL k = x := by
      intro k hk he
      have := List.find?_eq_none.1 hw k (List.mem_range.2 hk)
      simp [he] at this
    simp [hn]
theorem has_word {k : Nat} (hk : k < 7) : Maps.has keyD (.string (wordL k)) = true := by rw [has_keyD, (wordL_ok k hk).2.1]; rfl
theorem wordL_inj {j k : Nat} (hj : j < 7) (hk : k < 7) (h : wordL j = wordL k) : j = k := by
  have h1 := (wordL_ok j hj).2.1
  rw [h, (wordL_ok k hk).2.1] at h1
  exact (Option.some.inj h1).symm

/-- Of the keys, those that no line has named yet. -/
def Unmet (D : DataW Unit) (met : List Nat) : Prop := ∀ k, k < 7 → Maps.has D (.string (wordL k)) = decide (k ∉ met)
theorem unmet_start : Unmet keyD [] := fun k hk => by rw [has_word hk]; simp
theorem Unmet.del {D : DataW Unit} {met : List Nat} (h : Unmet D met) {k : Nat} (hk : k < 7) : Unmet (D.del (.string (wordL k))) (k :: met) := by
  intro j hj
  by_cases e : j = k
  · subst e
    rw [Maps.has_del_same]
    simp
  · rw [Maps.has_del_other (fun h => e (wordL_inj hj hk (by simpa using h))), h j hj]
    simp [e]

/-- The keys of a text's lines, m of them: all, or all but the last. -/
def keyDm (m : Nat) : DataW Unit := if m = 7 then keyD else keyD6
theorem has_keyDm {m : Nat} (hm : m = 6 ∨ m = 7) (x : List UInt8) : Maps.has (keyDm m) (.string x) = true ↔ ∃ i : Fin m, wordL i = x := by
  have h7 : Maps.has keyD (.string x) = true ↔ ∃ i : Fin 7, wordL i = x := by
    rw [has_keyD]
    constructor
    · intro h
      obtain ⟨k, hk⟩ := Option.isSome_iff_exists.1 h
      obtain ⟨h1, h2⟩ := wordOf_lt hk
      exact ⟨⟨k, h1⟩, h2⟩
    · rintro ⟨i, rfl⟩
      rw [(wordL_ok i i.2).2.1]
      rfl
  rcases hm with rfl | rfl
  · show Maps.has keyD6 (.string x) = true ↔ _
    unfold keyD6
    by_cases e : x = wordL 6
    · subst e
      rw [Maps.has_del_same]
      constructor
      · intro h; cases h
      · rintro ⟨i, hi⟩
        have := wordL_inj (by omega) (by omega) hi
        omega
    · rw [Maps.has_del_other (fun h => e (by simpa using h)), h7]
      constructor
      · rintro ⟨i, hi⟩
        have : i.val ≠ 6 := fun h => e (by rw [← hi, h])
        exact ⟨⟨i.val, by omega⟩, hi⟩
      · rintro ⟨i, hi⟩
        exact ⟨⟨i.val, by omega⟩, hi⟩
  · exact h7
theorem size_keyDm {m : Nat} (hm : m = 6 ∨ m = 7) : Maps.size (keyDm m) = m := by rcases hm with rfl | rfl <;> rfl
theorem at_keyDm {m : Nat} (hm : m = 6 ∨ m = 7) (i : Fin m) (z : DataW Unit) : (keyDm m).atKey (.string (wordL i)) z = .lit (.int .i64 (i.val : Nat)) := by
  obtain ⟨i, hi⟩ := i
  rcases hm with rfl | rfl
  · rcases (by omega : i = 0 ∨ i = 1 ∨ i = 2 ∨ i = 3 ∨ i = 4 ∨ i = 5) with rfl | rfl | rfl | rfl | rfl | rfl <;> rfl
  · rcases (by omega : i = 0 ∨ i = 1 ∨ i = 2 ∨ i = 3 ∨ i = 4 ∨ i = 5 ∨ i = 6) with rfl | rfl | rfl | rfl | rfl | rfl | rfl <;> rfl

/-- Whatever order they were met in, the keys sort into that of the lines. -/
theorem lift_words {m : Nat} : ∀ (ss : List (List UInt8)), (∀ x ∈ ss, ∃ i : Fin m, wordL i = x) → ∃ d : List (Fin m), d.map (fun i : Fin m => wordL i.val) = ss
  | [], _ => ⟨[], rfl⟩
  | x :: r, h => by
    obtain ⟨i, hi⟩ := h x (by simp)
    obtain ⟨d, hd⟩ := lift_words r (fun y hy => h y (by simp [hy]))
    exact ⟨i :: d, by simp [hi, hd]⟩
def leF (m : Nat) (x y : Fin m) : Bool := decide (x.val ≤ y.val)
theorem sorted_keys {m : Nat} (hm : m = 6 ∨ m = 7) {left : Lit → Bool} {ss : List (List UInt8)} (h : Collected (keyDm m) left ss) (hl : ∀ kl, left kl = false) :
    ∃ d : List (Fin m), d.map (fun i : Fin m => wordL i.val) = ss ∧ d.mergeSort (leF m) = List.finRange m := by
  have hmem : ∀ x, x ∈ ss ↔ ∃ i : Fin m, wordL i = x := fun x => by rw [h.2 x, hl, has_keyDm hm x]; simp
  obtain ⟨d, hd⟩ := lift_words ss (fun x hx => (hmem x).1 hx)
  have hm7 : ∀ i : Fin m, i.val < 7 := fun i => by have := i.2; omega
  have hnd : d.Nodup := by
    have := h.1
    rw [← hd] at this
    exact (List.pairwise_map.1 this).imp (fun hne e => hne (by rw [e]))
  have hall : ∀ i : Fin m, i ∈ d := by
    intro i
    have := (hmem (wordL i)).2 ⟨i, rfl⟩
    rw [← hd] at this
    obtain ⟨j, hj, he⟩ := List.mem_map.1 this
    have : j = i := Fin.ext (wordL_inj (hm7 j) (hm7 i) he)
    rwa [← this]
  have hp : d.Perm (List.finRange m) := (List.perm_ext_iff_of_nodup hnd (by rcases hm with rfl | rfl <;> decide)).2 fun i => ⟨fun _ => List.mem_finRange i, fun _ => hall i⟩
  have tr : ∀ a b c : Fin m, leF m a b = true → leF m b c = true → leF m a c = true := fun a b c h1 h2 => by simp only [leF, decide_eq_true_eq] at *; omega
  have to : ∀ a b : Fin m, (leF m a b || leF m b a) = true := fun a b => by simp only [leF, Bool.or_eq_true, decide_eq_true_eq]; omega
  refine ⟨d, hd, List.Perm.eq_of_pairwise (le := fun a b => leF m a b = true) (fun a b _ _ h1 h2 => ?_) (List.pairwise_mergeSort tr to d) (by rcases hm with rfl | rfl <;> decide) ((List.mergeSort_perm d (leF m)).trans hp)⟩
  simp only [leF, decide_eq_true_eq] at h1 h2
  exact Fin.ext (by omega)
end Go.Proofs.YtnnbhgnllbjmeaaGreatDoor
namespace Go.Proofs.YtnnbhgnllbjmeaaGreatDoor
open Go.RowKit

/-- The first lines of the text. -/
def preC (C : Cfg) (k : Nat) : List UInt8 := linesT ((List.range k).map fun j => lineL j C)
theorem linesT_app : ∀ (A : List (List UInt8)) (x : List UInt8), linesT (A ++ [x]) = linesT A ++ (x ++ [10])
  | [], x => by simp [linesT]
  | a :: r, x => by rw [List.cons_append, linesT, linesT_app r x, linesT]; simp
theorem preC_zero (C : Cfg) : preC C 0 = [] := rfl
theorem preC_succ (C : Cfg) (k : Nat) : preC C (k + 1) = preC C k ++ (lineL k C ++ [10]) := by
  unfold preC
  rw [List.range_succ, List.map_append, List.map_singleton, linesT_app]
theorem textC_no {C : Cfg} (h : okC C = true) (hs : C.s = []) : textC C = preC C 6 := by
  rw [textC, if_pos h, keysC, if_pos hs]; rfl
theorem textC_yes {C : Cfg} (h : okC C = true) (hs : C.s ≠ []) : textC C = preC C 7 := by
  rw [textC, if_pos h, keysC, if_neg hs]; rfl
theorem lineL_len {C : Cfg} (h : okC C = true) {k : Nat} (hk : k < 7) : (lineL k C).length ≤ 67 := by
  have h1 := valueL_len h hk
  have h2 := (wordL_ok k hk).2.2
  simp only [lineL, List.length_append, List.length_cons]
  omega
theorem preC_len {C : Cfg} (h : okC C = true) : ∀ {k : Nat}, k ≤ 7 → (preC C k).length ≤ 68 * k
  | 0, _ => by simp [preC, linesT]
  | k + 1, hk => by
    have ih := preC_len h (k := k) (by omega)
    have h1 := lineL_len h (k := k) (by omega)
    rw [preC_succ]
    simp only [List.length_append, List.length_cons, List.length_nil]
    omega
theorem cat_line (p wd t : List UInt8) : ((⟨p.toArray⟩ : ByteArray) ++ ⟨wd.toArray⟩ ++ ⟨#[61]⟩ ++ ⟨t.toArray⟩ ++ ⟨#[10]⟩) = ⟨(p ++ ((wd ++ 61 :: t) ++ [10])).toArray⟩ := by
  apply ByteArray.ext
  simp
theorem lineL_num {C : Cfg} {k : Nat} (hk : k < 5) : lineL k C = wordL k ++ 61 :: Lib.itoa (numC k C) := by
  rw [lineL, valueL, if_neg (by omega), if_neg (by omega)]
theorem preC_num {C : Cfg} {k : Nat} (hk : k < 5) : preC C (k + 1) = preC C k ++ ((wordL k ++ 61 :: Lib.itoa (numC k C)) ++ [10]) := by rw [preC_succ, lineL_num hk]
/-- The line of the rate: "rate=". -/
theorem preC_rate (C : Cfg) : preC C 6 = preC C 5 ++ (([114, 97, 116, 101, 61] ++ (Lib.itoa C.n ++ 47 :: Lib.itoa C.e)) ++ [10]) := by
  rw [preC_succ, lineL, valueL, if_neg (by omega), if_pos rfl]
  simp [wordL, wordsL]
theorem cat_rate (p a b : List UInt8) : ((⟨p.toArray⟩ : ByteArray) ++ ⟨#[114, 97, 116, 101, 61]⟩ ++ ⟨a.toArray⟩ ++ ⟨#[47]⟩ ++ ⟨b.toArray⟩ ++ ⟨#[10]⟩) = ⟨(p ++ (([114, 97, 116, 101, 61] ++ (a ++ 47 :: b)) ++ [10])).toArray⟩ := by
  apply ByteArray.ext
  simp
/-- The line of the signs: "signs=". -/
theorem preC_signs (C : Cfg) : preC C 7 = preC C 6 ++ (([115, 105, 103, 110, 115, 61] ++ Lib.join (C.s.map sgnT) [44]) ++ [10]) := by
  rw [preC_succ, lineL, valueL, if_pos rfl]
  simp [wordL, wordsL]
theorem cat_signs (p a : List UInt8) : ((⟨p.toArray⟩ : ByteArray) ++ ⟨#[115, 105, 103, 110, 115, 61]⟩ ++ ⟨a.toArray⟩ ++ ⟨#[10]⟩) = ⟨(p ++ (([115, 105, 103, 110, 115, 61] ++ a) ++ [10])).toArray⟩ := by
  apply ByteArray.ext
  simp
end Go.Proofs.YtnnbhgnllbjmeaaGreatDoor
