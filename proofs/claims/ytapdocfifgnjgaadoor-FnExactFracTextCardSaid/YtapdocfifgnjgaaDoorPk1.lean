/-
  What spec.Digits answers, at every integer.
  Which lists of bytes are the decimal numeral of an int: plain mathematics.
  The parts of a text at a byte: plain mathematics, and that the library's split gives them.
  Small laws that the walks of this seat share: a string of one byte out of a new slice of one byte.
  What spec.Digits answers, at every integer: the walk.
  What the rows' lists of package-level variables give, and the world in which the witnesses lie.
-/
import Derived.Test.YtapdocfifgnjgaaDoorRows
import Derived.WalkKit
import Derived.ProofKit
import Derived.Outline
import Derived.Lib.Hide
import Derived.Lib.ItoaLen
import Derived.Lib.ItoaMem
import Derived.Lib.AtoiAll
import Derived.Lib.Split
import Derived.Lib.Join
import Derived.Lib.IndexLaws
import Derived.Lib.SplitLaws
import Derived.Laws.IdiomStrings
import Derived.Test.YtapdocfifgnjgaaDoorCards
import Derived.Test.YtapdocfifgnjgaaDoorTie
import Derived.OpenShut
import Derived.Deep.DeepHandedRow
import Derived.Lib.LaidTab
import Derived.Lib.ItoaNum
import Derived.Stop.LaidErr
import Derived.WalkSmall
import Derived.Lib.AtoiErrMem
namespace Go.Proofs.YtapdocfifgnjgaaDoor
open Go.RowKit

/-- What the loop has written (o) and what is left of u (v). -/
def DigInv (u v : Nat) (o : List UInt8) : Prop := (v = 0 ∧ u ≠ 0 ∧ o = Lib.decDigits u) ∨ (v ≠ 0 ∧ Lib.decDigits u = Lib.decDigits v ++ o)

theorem digInv_start {u : Nat} (h : u ≠ 0) : DigInv u u [] := Or.inr ⟨h, by simp⟩

theorem digInv_step {u v : Nat} {o : List UInt8} (h : DigInv u v o) (hv : v ≠ 0) : DigInv u (v / 10) (UInt8.ofNat (48 + v % 10) :: o) := by
  rcases h with ⟨h0, _, _⟩ | ⟨_, h⟩
  · exact absurd h0 hv
  · by_cases hs : v < 10
    · have hu : u ≠ 0 := by
        rintro rfl
        rw [Lib.decDigits_one (by omega : 0 < 10), Lib.decDigits_one hs] at h
        have hl := congrArg List.length h
        simp at hl
        subst hl
        simp at h
        have := congrArg UInt8.toNat h
        simp at this
        omega
      refine Or.inl ⟨by omega, hu, ?_⟩
      rw [h, Lib.decDigits_one hs, Nat.mod_eq_of_lt hs]
      rfl
    · refine Or.inr ⟨by omega, ?_⟩
      rw [h, Lib.decDigits, dif_neg hs]
      simp

theorem digInv_len {u v : Nat} {o : List UInt8} (h : DigInv u v o) : o.length ≤ (Lib.decDigits u).length := by
  rcases h with ⟨_, _, rfl⟩ | ⟨_, h⟩
  · exact Nat.le_refl _
  · rw [h]; simp

theorem decDigits_len {u : Nat} (h : u ≤ 9223372036854775808) : (Lib.decDigits u).length ≤ 22 := by
  by_cases h1 : u ≤ 9223372036854775807
  · have := Lib.itoa_length_le u (by omega) (by omega)
    rw [Lib.itoa_nonneg] at this
    omega
  · obtain rfl : u = 9223372036854775808 := by omega
    have := Lib.itoa_length_le (-(9223372036854775808 : Nat)) (by omega) (by omega)
    rw [Lib.itoa_neg _ (by omega)] at this
    simp at this ⊢
    omega
end Go.Proofs.YtapdocfifgnjgaaDoor
namespace Go.Proofs.YtapdocfifgnjgaaDoor

def isDig (c : UInt8) : Prop := 48 ≤ c.toNat ∧ c.toNat ≤ 57
def digStep (a : Nat) (c : UInt8) : Nat := a * 10 + (c.toNat - 48)
def valFrom (acc : Nat) (l : List UInt8) : Nat := l.foldl digStep acc
theorem valFrom_nil (acc : Nat) : valFrom acc [] = acc := List.foldl_nil
theorem valFrom_cons (acc : Nat) (c : UInt8) (r : List UInt8) : valFrom acc (c :: r) = valFrom (acc * 10 + (c.toNat - 48)) r := List.foldl_cons ..

theorem valFrom_append (x y : List UInt8) (acc : Nat) : valFrom acc (x ++ y) = valFrom (valFrom acc x) y := List.foldl_append ..

theorem valFrom_ge (y : List UInt8) : ∀ acc, acc ≤ valFrom acc y := by
  induction y with
  | nil => intro acc; rw [valFrom_nil]; exact Nat.le_refl acc
  | cons c r ih =>
    intro acc
    have h1 := ih (acc * 10 + (c.toNat - 48))
    rw [valFrom_cons]
    generalize c.toNat - 48 = d at h1 ⊢
    exact Nat.le_trans (by omega) h1

theorem dig_toNat {k : Nat} (h : k < 10) : (UInt8.ofNat (48 + k)).toNat = 48 + k := by
  rw [UInt8.toNat_ofNat']; omega

theorem decDigits_dig (u : Nat) : ∀ c ∈ Lib.decDigits u, isDig c := by
  induction u using Nat.strongRecOn with
  | _ u ih =>
    by_cases h : u < 10
    · rw [Lib.decDigits_one h]
      intro c hc
      obtain rfl : c = UInt8.ofNat (48 + u) := by simpa using hc
      unfold isDig; rw [dig_toNat h]; omega
    · rw [Lib.decDigits, dif_neg h]
      intro c hc
      rcases List.mem_append.1 hc with hc | hc
      · exact ih (u / 10) (by omega) c hc
      · obtain rfl : c = UInt8.ofNat (48 + u % 10) := by simpa using hc
        unfold isDig; rw [dig_toNat (by omega)]; omega

theorem valFrom_decDigits (u : Nat) : valFrom 0 (Lib.decDigits u) = u := by
  induction u using Nat.strongRecOn with
  | _ u ih =>
    by_cases h : u < 10
    · rw [Lib.decDigits_one h]
      rw [valFrom_cons, valFrom_nil, dig_toNat h]; omega
    · rw [Lib.decDigits, dif_neg h, valFrom_append, ih (u / 10) (by omega)]
      rw [valFrom_cons, valFrom_nil, dig_toNat (by omega)]; omega

theorem nDigits_le : ∀ (k u : Nat), u < 10 ^ (k + 1) → Lib.nDigits u ≤ k + 1
  | 0, u, h => by rw [Lib.nDigits_small (by simpa using h)]; omega
  | k + 1, u, h => by
    by_cases hs : u < 10
    · rw [Lib.nDigits_small hs]; omega
    · rw [Lib.nDigits_big hs]
      have := nDigits_le k (u / 10) (by rw [Nat.pow_succ] at h; omega)
      omega

theorem decDigits_pos (u : Nat) : 1 ≤ (Lib.decDigits u).length := by rw [Lib.decDigits_length]; exact Lib.nDigits_pos u
theorem decDigits_len19 {u : Nat} (h : u ≤ 9223372036854775808) : (Lib.decDigits u).length ≤ 19 := by
  rw [Lib.decDigits_length]; exact nDigits_le 18 u (by omega)

/-- l is the numeral of the int n. -/
def IsNum (l : List UInt8) (n : Int) : Prop := -9223372036854775808 ≤ n ∧ n ≤ 9223372036854775807 ∧ Lib.itoa n = l

/-- Where the digits begin. -/
def startOf (l : List UInt8) : Nat := if l.head?.map (·.toNat) = some 45 then 1 else 0

theorem decDigits_start (u : Nat) : startOf (Lib.decDigits u) = 0 := by
  unfold startOf
  rw [if_neg]
  intro h
  have hp := decDigits_pos u
  have hd := decDigits_dig u
  generalize Lib.decDigits u = l at h hp hd
  cases l with
  | nil => simp at hp
  | cons c r =>
    have := hd c (by simp)
    unfold isDig at this
    simp at h
    omega

theorem isNum_parts {l : List UInt8} {n : Int} (h : IsNum l n) :
    (∀ c ∈ l.drop (startOf l), isDig c) ∧ 1 ≤ (l.drop (startOf l)).length ∧ valFrom 0 (l.drop (startOf l)) = n.natAbs ∧ (startOf l = if n < 0 then 1 else 0) ∧ 1 ≤ l.length ∧ l.length ≤ 20 := by
  obtain ⟨h0, h1, rfl⟩ := h
  by_cases hn : n < 0
  · obtain ⟨u, hu⟩ : ∃ u : Nat, n = -(u : Int) := ⟨n.natAbs, by omega⟩
    subst hu
    rw [Lib.itoa_neg u (by omega)]
    have hs : startOf (45 :: Lib.decDigits u) = 1 := by unfold startOf; simp
    have hl := decDigits_len19 (u := u) (by omega)
    have hp := decDigits_pos u
    rw [hs]
    refine ⟨by simpa using decDigits_dig u, by simpa using hp, ?_, by rw [if_pos hn], by simp, by simp; omega⟩
    simp [valFrom_decDigits]
  · obtain ⟨u, rfl⟩ := Int.eq_ofNat_of_zero_le (by omega : 0 ≤ n)
    rw [Lib.itoa_nonneg, decDigits_start]
    have hl := decDigits_len19 (u := u) (by omega)
    have hp := decDigits_pos u
    refine ⟨by simpa using decDigits_dig u, by simpa using hp, ?_, by rw [if_neg hn], by omega, by omega⟩
    simp [valFrom_decDigits]

/-- What has been read at index k: only digits, of value v. -/
def ReadTo (l : List UInt8) (k v : Nat) : Prop := startOf l ≤ k ∧ (∀ c ∈ (l.take k).drop (startOf l), isDig c) ∧ valFrom 0 ((l.take k).drop (startOf l)) = v

theorem readTo_start (l : List UInt8) : ReadTo l (startOf l) 0 := by
  refine ⟨Nat.le_refl _, ?_, ?_⟩
  · intro c hc; rw [List.drop_eq_nil_of_le (by simp; omega)] at hc; simp at hc
  · rw [List.drop_eq_nil_of_le (by simp; omega)]; exact valFrom_nil 0

theorem take_drop_succ {l : List UInt8} {k f : Nat} {c : UInt8} (hf : f ≤ k) (hc : l[k]? = some c) : (l.take (k + 1)).drop f = (l.take k).drop f ++ [c] := by
  have hk : k < l.length := by
    rcases Nat.lt_or_ge k l.length with h | h
    · exact h
    · rw [List.getElem?_eq_none h] at hc; cases hc
  rw [List.take_add_one, hc, List.drop_append_of_le_length (by simp; omega)]
  rfl

theorem readTo_step {l : List UInt8} {k v : Nat} {c : UInt8} (h : ReadTo l k v) (hc : l[k]? = some c) (hd : isDig c) : ReadTo l (k + 1) (v * 10 + (c.toNat - 48)) := by
  obtain ⟨h1, h2, h3⟩ := h
  refine ⟨by omega, ?_, ?_⟩
  · rw [take_drop_succ h1 hc]
    intro x hx
    rcases List.mem_append.1 hx with hx | hx
    · exact h2 x hx
    · obtain rfl : x = c := by simpa using hx
      exact hd
  · rw [take_drop_succ h1 hc, valFrom_append, h3, valFrom_cons, valFrom_nil]

theorem mem_drop_at {l : List UInt8} {k f : Nat} {c : UInt8} (hf : f ≤ k) (hc : l[k]? = some c) : c ∈ l.drop f :=
  List.mem_of_getElem? (i := k - f) (by rw [List.getElem?_drop]; rw [show f + (k - f) = k by omega]; exact hc)

/-- A byte that is no digit. -/
theorem notNum_byte {l : List UInt8} {k v : Nat} {c : UInt8} (h : ReadTo l k v) (hc : l[k]? = some c) (hd : ¬ isDig c) : ∀ n, ¬ IsNum l n :=
  fun _ hn => hd ((isNum_parts hn).1 c (mem_drop_at h.1 hc))

/-- Too great. -/
theorem notNum_big {l : List UInt8} {k v : Nat} (h : ReadTo l k v) (hv : 9223372036854775808 < v) : ∀ n, ¬ IsNum l n := by
  intro n hn
  have hp := (isNum_parts hn).2.2.1
  have e : l.drop (startOf l) = (l.take k).drop (startOf l) ++ l.drop k := by
    have hf := h.1
    generalize startOf l = f at hf
    by_cases hk : k ≤ l.length
    · have := List.drop_append_of_le_length (l₂ := l.drop k) (show f ≤ (l.take k).length by simp; omega)
      rwa [List.take_append_drop] at this
    · rw [List.drop_eq_nil_of_le (by omega : l.length ≤ k), List.take_of_length_le (by omega)]; simp
  rw [e, valFrom_append, h.2.2] at hp
  have := valFrom_ge (l.drop k) v
  have := hn.1
  have := hn.2.1
  omega

theorem readTo_all {l : List UInt8} {v : Nat} (h : ReadTo l l.length v) {n : Int} (hn : IsNum l n) : n = if startOf l = 0 then (v : Int) else -(v : Int) := by
  obtain ⟨_, _, hp, hs, _⟩ := isNum_parts hn
  obtain ⟨_, _, h3⟩ := h
  rw [List.take_length] at h3
  rw [h3] at hp
  by_cases hneg : n < 0
  · rw [if_pos hneg] at hs; rw [hs, if_neg (by omega)]; omega
  · rw [if_neg hneg] at hs; rw [hs, if_pos rfl]; omega

theorem parse_valFrom : ∀ (l : List UInt8) (acc : Nat), (∀ c ∈ l, isDig c) → valFrom acc l < 18446744073709551616 → Lib.parseUint10 acc l = .ok (valFrom acc l)
  | [], acc, _, _ => by rw [valFrom_nil]; rfl
  | c :: r, acc, hd, hv => by
    have h := hd c (by simp)
    unfold isDig at h
    have hg := valFrom_ge r (acc * 10 + (c.toNat - 48))
    rw [valFrom_cons] at hv ⊢
    simp only [Lib.parseUint10]
    rw [if_pos h, if_neg (by omega), if_neg (by omega)]
    exact parse_valFrom r _ (fun x hx => hd x (by simp [hx])) hv

/-- strconv.Atoi reads the numeral of an int. -/
theorem atoi_isNum {l : List UInt8} {n : Int} (h : IsNum l n) : Lib.atoiAll l = .ok n := by
  obtain ⟨hd, hl, hv, hs, _, _⟩ := isNum_parts h
  obtain ⟨h0, h1, h2⟩ := h
  cases l with
  | nil => simp at hl
  | cons c r =>
    by_cases hn : n < 0
    · rw [if_pos hn] at hs
      have hc : c.toNat = 45 := by
        unfold startOf at hs
        split at hs
        · rename_i h; simpa using h
        · omega
      rw [hs] at hd hl hv
      simp only [List.drop_succ_cons, List.drop_zero] at hd hl hv
      have hp := parse_valFrom r 0 hd (by omega)
      have hm : Lib.parseMag r = .ok n.natAbs := by
        unfold Lib.parseMag
        rw [if_neg (by intro h; rw [h] at hl; simp at hl), hp, hv]
      simp only [Lib.atoiAll, hc, or_true, if_true, hm]
      rw [if_neg (by simp), if_neg (by simp; omega)]
      congr 1
      omega
    · rw [if_neg hn] at hs
      have hc : c.toNat ≠ 45 := by
        intro hc
        unfold startOf at hs
        rw [if_pos (by simpa using hc)] at hs
        omega
      rw [hs] at hd hl hv
      simp only [List.drop_zero] at hd hl hv
      have hdc := hd c (by simp)
      unfold isDig at hdc
      have hp := parse_valFrom (c :: r) 0 hd (by omega)
      have hm : Lib.parseMag (c :: r) = .ok n.natAbs := by
        unfold Lib.parseMag
        rw [if_neg (by simp), hp, hv]
      simp only [Lib.atoiAll]
      rw [if_neg (by omega), hm]
      simp only [hc, not_false_eq_true, true_and, false_and, if_false]
      rw [if_neg (by omega)]
      congr 1
      omega
end Go.Proofs.YtapdocfifgnjgaaDoor
namespace Go.Proofs.YtapdocfifgnjgaaDoor

/-- The parts of l at c. -/
def partsL (c : UInt8) : List UInt8 → List (List UInt8)
  | [] => [[]]
  | x :: r => if x = c then [] :: partsL c r else match partsL c r with
    | [] => [[x]]
    | p :: ps => (x :: p) :: ps

theorem parts_none {c : UInt8} : ∀ {l : List UInt8}, (∀ x ∈ l, x ≠ c) → partsL c l = [l]
  | [], _ => rfl
  | x :: r, h => by
    have h1 : x ≠ c := h x (by simp)
    rw [partsL, if_neg h1, parts_none (fun y hy => h y (by simp [hy]))]

theorem parts_cut {c : UInt8} (r : List UInt8) : ∀ {a : List UInt8}, (∀ x ∈ a, x ≠ c) → partsL c (a ++ c :: r) = a :: partsL c r
  | [], _ => by rw [List.nil_append, partsL, if_pos rfl]
  | x :: a, h => by
    have h1 : x ≠ c := h x (by simp)
    rw [List.cons_append, partsL, if_neg h1, parts_cut r (fun y hy => h y (by simp [hy]))]

theorem parts_pos {c : UInt8} (l : List UInt8) : 1 ≤ (partsL c l).length := by
  cases l with
  | nil => simp [partsL]
  | cons x r =>
    rw [partsL]
    split
    · simp
    · split <;> simp

theorem parts_len {c : UInt8} : ∀ (l : List UInt8), (partsL c l).length ≤ l.length + 1
  | [] => by simp [partsL]
  | x :: r => by
    have := parts_len (c := c) r
    rw [partsL]
    split
    · simp; omega
    · split <;> simp_all; omega

theorem parts_join {c : UInt8} : ∀ (l : List UInt8), Lib.join (partsL c l) [c] = l
  | [] => rfl
  | x :: r => by
    have ih := parts_join (c := c) r
    have hp := parts_pos (c := c) r
    rw [partsL]
    split
    · rename_i hx
      subst hx
      generalize partsL x r = q at ih hp
      cases q with
      | nil => simp at hp
      | cons p ps =>
        rw [Lib.join_cons] at ih
        rw [Lib.join_cons, Lib.joinTail, List.map_cons, List.flatten_cons]
        rw [Lib.joinTail] at ih
        simpa using ih
    · generalize partsL c r = q at ih hp
      cases q with
      | nil => simp at hp
      | cons p ps =>
        rw [Lib.join_cons] at ih
        rw [Lib.join_cons, List.cons_append, ih]

theorem occ_at {s : List UInt8} {c : UInt8} {i : Nat} : Lib.occAt s [c] i = true ↔ s[i]? = some c := by
  unfold Lib.occAt
  rw [← List.head?_drop]
  cases s.drop i with
  | nil => simp
  | cons x r =>
    have h : [c].isPrefixOf (x :: r) = (c == x) := by simp [List.isPrefixOf]
    rw [h, List.head?_cons, beq_iff_eq, Option.some.injEq]
    exact eq_comm

theorem splitK_parts (c : UInt8) : ∀ (n : Nat) (l : List UInt8), l.length ≤ n → Lib.splitK [c] 0 (Lib.count l [c]) l = partsL c l := by
  intro n
  induction n with
  | zero =>
    intro l hl
    obtain rfl : l = [] := List.eq_nil_of_length_eq_zero (by omega)
    rfl
  | succ n ih =>
    intro l hl
    rcases Lib.index_spec l [c] with ⟨h1, h2⟩ | ⟨i, h1, h2, h3, h4⟩
    · rw [Lib.count_miss h1, Lib.splitK]
      refine (parts_none fun x hx => ?_).symm
      rintro rfl
      obtain ⟨j, hj⟩ := List.getElem?_of_mem hx
      have hjl := (List.getElem?_eq_some_iff.1 hj).1
      have := h2 j (by omega)
      rw [occ_at.2 hj] at this
      cases this
    · have hi := occ_at.1 h3
      have hil := (List.getElem?_eq_some_iff.1 hi).1
      have hl2 : l = l.take i ++ c :: l.drop (i + 1) := by
        have e := List.take_append_drop i l
        have e2 : l.drop i = c :: l.drop (i + 1) := by
          rw [List.drop_eq_getElem_cons hil]
          congr 1
          exact (List.getElem?_eq_some_iff.1 hi).2
        rw [e2] at e
        exact e.symm
      have hno : ∀ x ∈ l.take i, x ≠ c := by
        rintro x hx rfl
        obtain ⟨j, hj⟩ := List.getElem?_of_mem hx
        have hji : j < i := by
          have := (List.getElem?_eq_some_iff.1 hj).1
          simp at this
          omega
        rw [List.getElem?_take, if_pos hji] at hj
        have := h4 j hji
        rw [occ_at.2 hj] at this
        cases this
      rw [Lib.count_hit (by simp) h1, Nat.add_comm, Lib.splitK]
      have hne : ¬ (Lib.index l [c] == -1) = true := by rw [h1]; simp
      rw [if_neg hne, h1]
      simp only [Int.toNat_natCast, Nat.add_zero, List.length_cons, List.length_nil, Nat.zero_add]
      rw [ih (l.drop (i + 1)) (by simp; omega)]
      conv => rhs; rw [hl2]
      rw [parts_cut _ hno]

/-- A list of texts as cells. -/
def strCells (ps : List (List UInt8)) : List Value := ps.map fun p => Value.string ⟨p.toArray⟩

theorem mk_toList (s : ByteArray) : (⟨s.data.toList.toArray⟩ : ByteArray) = s := by cases s; simp

theorem splitB_cells (s sep : ByteArray) (c : UInt8) (hsep : sep.data.toList = [c]) : (Lib.splitB sep 0 (Lib.countB s sep) s).map Value.string = strCells (partsL c s.data.toList) := by
  have h := Lib.splitB_data sep 0 (Lib.countB s sep) s
  have hc : Lib.countB s sep = Lib.count s.data.toList [c] := by
    unfold Lib.countB; rw [hsep]
  rw [hsep, hc, splitK_parts c _ _ (Nat.le_refl _)] at h
  unfold strCells
  rw [hc, ← h, List.map_map]
  refine List.map_congr_left fun x _ => ?_
  simp

theorem countB_parts (s sep : ByteArray) (c : UInt8) (hsep : sep.data.toList = [c]) : Lib.countB s sep + 1 = (partsL c s.data.toList).length := by
  have h := congrArg List.length (splitB_cells s sep c hsep)
  rw [List.length_map, strCells, List.length_map] at h
  rw [← h, Lib.splitB_all sep (by rw [Lib.size_eq, hsep]; simp) 0 _ s rfl]

/-- Where a split stands: fr: where the next part begins; k: how far the text is read; ps: the parts so far. -/
def PInv (c : UInt8) (l : List UInt8) (fr k : Nat) (ps : List (List UInt8)) : Prop :=
  (k ≤ l.length ∧ fr ≤ k ∧ (∀ x ∈ (l.drop fr).take (k - fr), x ≠ c) ∧ partsL c l = ps ++ partsL c (l.drop fr)) ∨ (k = l.length + 1 ∧ fr ≤ k ∧ partsL c l = ps)

theorem pinv_start (c : UInt8) (l : List UInt8) : PInv c l 0 0 [] := Or.inl ⟨Nat.zero_le _, Nat.le_refl _, by simp, by simp⟩

theorem pinv_more {c : UInt8} {l : List UInt8} {fr k : Nat} {ps : List (List UInt8)} (h : PInv c l fr k ps) (hk : k < l.length) (hne : l[k] ≠ c) : PInv c l fr (k + 1) ps := by
  rcases h with ⟨h1, h2, h3, h4⟩ | ⟨h1, _⟩
  · refine Or.inl ⟨by omega, by omega, ?_, h4⟩
    intro x hx
    rw [show k + 1 - fr = (k - fr) + 1 by omega, List.take_add_one, List.mem_append] at hx
    rcases hx with hx | hx
    · exact h3 x hx
    · rw [List.getElem?_drop, show fr + (k - fr) = k by omega, List.getElem?_eq_getElem hk] at hx
      simp at hx
      rw [hx]; exact hne
  · omega

theorem pinv_cut {c : UInt8} {l : List UInt8} {fr k : Nat} {ps : List (List UInt8)} (h : PInv c l fr k ps) (hk : k < l.length) (he : l[k] = c) : PInv c l (k + 1) (k + 1) (ps ++ [(l.drop fr).take (k - fr)]) := by
  rcases h with ⟨h1, h2, h3, h4⟩ | ⟨h1, _⟩
  · refine Or.inl ⟨by omega, Nat.le_refl _, by simp, ?_⟩
    have e : l.drop fr = (l.drop fr).take (k - fr) ++ c :: l.drop (k + 1) := by
      have e1 := List.take_append_drop (k - fr) (l.drop fr)
      rw [List.drop_drop, show fr + (k - fr) = k by omega, List.drop_eq_getElem_cons hk, he] at e1
      exact e1.symm
    rw [h4]
    conv => lhs; rw [e]
    rw [parts_cut _ h3, List.append_assoc]
    rfl
  · omega

theorem pinv_end {c : UInt8} {l : List UInt8} {fr k : Nat} {ps : List (List UInt8)} (h : PInv c l fr k ps) (hk : k = l.length) : PInv c l (k + 1) (k + 1) (ps ++ [(l.drop fr).take (k - fr)]) := by
  rcases h with ⟨h1, h2, h3, h4⟩ | ⟨h1, _⟩
  · refine Or.inr ⟨by omega, Nat.le_refl _, ?_⟩
    have e : (l.drop fr).take (k - fr) = l.drop fr := List.take_of_length_le (by simp; omega)
    rw [e] at h3 ⊢
    rw [h4, parts_none h3]
  · omega

theorem pinv_done {c : UInt8} {l : List UInt8} {fr k : Nat} {ps : List (List UInt8)} (h : PInv c l fr k ps) (hk : ¬ k ≤ l.length) : ps = partsL c l := by
  rcases h with ⟨h1, _⟩ | ⟨_, _, h⟩
  · omega
  · exact h.symm
theorem pinv_le {c : UInt8} {l : List UInt8} {fr k : Nat} {ps : List (List UInt8)} (h : PInv c l fr k ps) : ps.length ≤ l.length + 1 ∧ fr ≤ k ∧ k ≤ l.length + 1 := by
  have hp := parts_len (c := c) l
  rcases h with ⟨h1, h2, _, h4⟩ | ⟨h1, h2, h⟩
  · have := congrArg List.length h4
    simp at this
    omega
  · rw [h] at hp
    omega

theorem extract_mk (s : ByteArray) (a b : Nat) : s.extract a b = ⟨((s.data.toList.drop a).take (b - a)).toArray⟩ := by
  have h := Lib.extract_data s a b
  cases hs : s.extract a b with
  | mk d =>
    rw [hs] at h
    simp only at h
    rw [← h]
end Go.Proofs.YtapdocfifgnjgaaDoor
namespace Go.Proofs.YtapdocfifgnjgaaDoor
open Go.RowKit

theorem conv_one {P : Program} {src dst e : TypeId} (hs : P.underlying src = some (.slice e)) (he : P.underlying e = some (.int .u8)) (hd : P.underlying dst = some .string)
    (c : Nat) (hc : c < 256) (z : Int) (hz : z = (c : Int)) (cap : Nat) (w : World) :
    (convert src dst (.slice (some ⟨w.heap.size, 0, none⟩) 1 cap)).run P (w.alloc (.cells #[.int .u8 z] e)) = .ok (.string ⟨[UInt8.ofNat c].toArray⟩) (w.alloc (.cells #[.int .u8 z] e)) := by
  subst hz
  refine run_convert_bytes_back (w.alloc (.cells #[.int .u8 (c : Int)] e)) src dst e ⟨w.heap.size, 0, none⟩ cap [UInt8.ofNat c] hs he hd ?_
  intro j hj
  obtain rfl : j = 0 := by simpa using hj
  have h := World.cell?_alloc_mark w #[.int .u8 (c : Int)] e (0, 0) 0
  simp only [Addr.add, Nat.add_zero, if_true]
  rw [h]
  simp
  omega
end Go.Proofs.YtapdocfifgnjgaaDoor
namespace Go.Proofs.YtapdocfifgnjgaaDoor
open Go.RowKit

theorem ret_str {a b : List UInt8} (h : a = b) : Ending.returned (.string ⟨a.toArray⟩) = .returned (.string ⟨b.toArray⟩) := by rw [h]
theorem ret_add {a b : ByteArray} {c : List UInt8} (h : a ++ b = ⟨c.toArray⟩) : Ending.returned (.string (a ++ b)) = .returned (.string ⟨c.toArray⟩) := by rw [h]
theorem digInv_done {u v : Nat} {l : List UInt8} (h : DigInv u v l) (hv : v = 0) : l = Lib.decDigits u := by
  rcases h with ⟨_, _, h⟩ | ⟨h, _⟩
  · exact h
  · exact absurd hv h

set_option maxRecDepth 100000 in
set_option maxHeartbeats 400000 in
theorem specDigits_pos (u : Nat) (hu : u ≠ 0) (hb : u ≤ 9223372036854775807) (w : World) :
    Calls Tryd.prog 39 #[.int .i64 u] w fun e w' => e = .returned (.string ⟨(Lib.decDigits u).toArray⟩) ∧ Below w.heap.size w w' := by
  have hz : ((u : Int) == 0) = false := by simpa using hu
  go_enter Tryd.func39, Tryd.ntmps39
  go_wp2
  go_loopw [0, 4, 5] (fun n o d wr => ∃ (v : Nat) (l : List UInt8), v ≤ u ∧ n = .int .i64 v ∧ o = .string ⟨l.toArray⟩ ∧ DigInv u v l ∧ Below w.heap.size w wr) (fun n _ _ _ => (intOf n).toNat)
  case atStart => exact ⟨u, [], Nat.le_refl _, rfl, rfl, digInv_start hu, Below.refl _ _⟩
  case round =>
    obtain ⟨v, l, hv, rfl, rfl, hI, hB⟩ := hrel
    have hlen := digInv_len hI
    have hdec := decDigits_len (u := u) (by omega)
    by_cases h0 : v = 0
    · have hz0 : ((v : Int) != 0) = false := by simp [h0]
      have hlu : ¬ ((u : Int) < 0) := by omega
      have H0 := Lib.hid h0
      clear h0
      go_wp2
      go_ret
      exact ⟨ret_str (digInv_done hI H0.out), hB⟩
    · have hI2 := digInv_step hI h0
      have kc := conv_one Tryd.underlying22 Tryd.underlying5 Tryd.underlying9 (48 + v % 10) (by omega) (48 + (v : Int) % 10) (by omega) 1
      have hsum : 1 + l.length ≤ 9223372036854775807 := by omega
      go_wp2
      go_roundw
      case rel => exact ⟨v / 10, _, by omega, by go_num, rfl, by simpa using hI2, hB.alloc hB.size _⟩
      case measure => simp [intOf]; omega

set_option maxRecDepth 100000 in
set_option maxHeartbeats 400000 in
theorem specDigits_neg (u : Nat) (hu : u ≠ 0) (hb : u ≤ 9223372036854775808) (w : World) :
    Calls Tryd.prog 39 #[.int .i64 (-(u : Int))] w fun e w' => e = .returned (.string ⟨(45 :: Lib.decDigits u).toArray⟩) ∧ Below w.heap.size w w' := by
  have hz : ((-(u : Int)) == 0) = false := by simpa using hu
  go_enter Tryd.func39, Tryd.ntmps39
  go_wp2
  go_loopw [0, 4, 5] (fun n o d wr => ∃ (v : Nat) (l : List UInt8), v ≤ u ∧ n = .int .i64 (-(v : Int)) ∧ o = .string ⟨l.toArray⟩ ∧ DigInv u v l ∧ Below w.heap.size w wr) (fun n _ _ _ => (- intOf n).toNat)
  case atStart => exact ⟨u, [], Nat.le_refl _, rfl, rfl, digInv_start hu, Below.refl _ _⟩
  case round =>
    obtain ⟨v, l, hv, rfl, rfl, hI, hB⟩ := hrel
    have hlen := digInv_len hI
    have hdec := decDigits_len (u := u) hb
    by_cases h0 : v = 0
    · have hz0 : ((-(v : Int)) != 0) = false := by simp [h0]
      have hlu : (-(u : Int) < 0) := by omega
      have H0 := Lib.hid h0
      clear h0
      have hsum : 1 + l.length ≤ 9223372036854775807 := by omega
      go_wp2
      go_ret
      exact ⟨ret_add (by rw [digInv_done hI H0.out]; rfl), hB⟩
    · have hI2 := digInv_step hI h0
      have hsum : 1 + l.length ≤ 9223372036854775807 := by omega
      by_cases hd : 0 < v % 10
      · have kc := conv_one Tryd.underlying22 Tryd.underlying5 Tryd.underlying9 (48 + v % 10) (by omega) (48 + (v : Int) % 10) (by omega) 1
        go_wp2
        go_roundw
        case rel => exact ⟨v / 10, _, by omega, by go_num, rfl, by simpa using hI2, hB.alloc hB.size _⟩
        case measure => simp [intOf]; omega
      · have kc := conv_one Tryd.underlying22 Tryd.underlying5 Tryd.underlying9 (48 + v % 10) (by omega) (48 + -((v : Int) % 10)) (by omega) 1
        go_wp2
        go_roundw
        case rel => exact ⟨v / 10, _, by omega, by go_num, rfl, by simpa using hI2, hB.alloc hB.size _⟩
        case measure => simp [intOf]; omega
end Go.Proofs.YtapdocfifgnjgaaDoor
namespace Go.Proofs.YtapdocfifgnjgaaDoor
open Go.ChangeShapes Go.WideShapes Go.ChangeAt Go.RowKit

theorem own : ownKnob Tryd.prog.godebug = none := by kernel_rfl

theorem gPow : Tryd.prog.globalNamed "internal/strconv.uint64pow10" = some 2 := by kernel_rfl
theorem gPowType : (Tryd.prog.globals[2]?).map (·.type) = some 132 := by kernel_rfl
theorem cellsPow : Tryd.prog.cellsOf 132 = 20 := by kernel_rfl
theorem cellsU64 : Tryd.prog.cellsOf 24 = 1 := by kernel_rfl
theorem powData : (Rows.laid_internal_strconv_uint64pow10 : DataW Unit) = Lib.tabData .u64 Lib.pow10Tab := by kernel_rfl

/-- The numbers of a listed table, as cells. -/
def flatCell : DataW Unit → List Value
  | .lit (.int k n) => [Value.int k n]
  | _ => []
def flatRow : DataW Unit → List Value
  | .agg l => l.flatMap flatCell
  | d => flatCell d
def tabCells : DataW Unit → Array Value
  | .agg l => (l.flatMap flatRow).toArray
  | _ => #[]
def sentText : DataW Unit → List UInt8
  | .iface _ (.ptr (.agg [.lit (.string l)])) => l
  | _ => []
/-- So many blocks has the settled world. -/
noncomputable def low : Nat := (World.holding Tryd.prog default ⟨#[], #[], []⟩).heap.size
def setCells (cs : Array Value) : Obj → Obj
  | .cells _ t f => .cells cs t f
  | o => o
theorem gES : Tryd.prog.globalNamed "strconv.ErrSyntax" = some 0 := by kernel_rfl
theorem gESType : (Tryd.prog.globals[0]?).map (·.type) = some 101 := by kernel_rfl
theorem gER : Tryd.prog.globalNamed "strconv.ErrRange" = some 1 := by kernel_rfl
theorem gERType : (Tryd.prog.globals[1]?).map (·.type) = some 101 := by kernel_rfl
theorem cellsErr : Tryd.prog.cellsOf 141 = 1 := by kernel_rfl
theorem cellsStr : Tryd.prog.cellsOf 9 = 1 := by kernel_rfl
theorem star : "*" ++ "errors.errorString" = "*errors.errorString" := by decide
theorem rowErr (u : TypeId) (h : Tryd.prog.typeName? 3 u = some "*errors.errorString") : u = 139 :=
  typeName_ptr_named (nm := "errors.errorString") (by rw [star]; kernel_rfl) (by kernel_rfl) (by decide) u (by rw [star]; exact h)

/-- What the row's list gives of the two errors. -/
theorem errSyntax {r : List (String × DataW Unit)} {W : World} (h : laidMet Tryd.prog (("strconv.ErrSyntax", Rows.laid_strconv_ErrSyntax) :: r) W) : ∃ a, W.var? Tryd.prog "strconv.ErrSyntax" = some #[.iface 139 (.pointer (some a))] := by
  obtain ⟨a0, s0, hv0, -, -, -⟩ := laid_sentinel h gES gESType Tryd.underlying101 rowErr Tryd.underlying139 Tryd.underlying141 rfl rfl Tryd.underlying9 cellsErr cellsStr
  exact ⟨a0, hv0⟩
theorem errRange {r : List (String × DataW Unit)} {W : World} (h : laidMet Tryd.prog (("strconv.ErrRange", Rows.laid_strconv_ErrRange) :: r) W) : ∃ a, W.var? Tryd.prog "strconv.ErrRange" = some #[.iface 139 (.pointer (some a))] := by
  obtain ⟨a0, s0, hv0, -, -, -⟩ := laid_sentinel h gER gERType Tryd.underlying101 rowErr Tryd.underlying139 Tryd.underlying141 rfl rfl Tryd.underlying9 cellsErr cellsStr
  exact ⟨a0, hv0⟩

theorem var_lt {P : Program} {W : World} {name : String} {v : Value} {g : Nat} (hg : P.globalNamed name = some g) (h : W.var? P name = some #[v]) : g < W.heap.size := by
  have h0 := World.var?_cell hg h 0
  exact Lib.lt_of_cell (a := ⟨g, 0, none⟩) (by simpa using h0)
theorem tab_lt {P : Program} {W : World} {name : String} {k : IntKind} {zs : List Int} {g : Nat} (h : Lib.TabIs P W name k zs) (hg : P.globalNamed name = some g) (hi : 0 < zs.length) : g < W.heap.size :=
  Lib.lt_of_cell (h.cell hg 0 hi)
end Go.Proofs.YtapdocfifgnjgaaDoor
