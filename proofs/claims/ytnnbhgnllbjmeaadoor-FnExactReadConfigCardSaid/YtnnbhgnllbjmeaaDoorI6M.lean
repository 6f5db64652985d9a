/-
  How the program reads and writes decimals: plain mathematics.
-/
import Derived.Test.YtnnbhgnllbjmeaaDoorFixD
import Derived.Lib.CutLaws
import Derived.Lib.TrimByte
namespace Go.Proofs.YtnnbhgnllbjmeaaDoor
open Go.RowKit

/-- Cut at the first point. -/
theorem cut_point (c : UInt8) (l : List UInt8) : ((∀ x ∈ l, x ≠ c) ∧ Lib.cut l [c] = (l, [], false)) ∨ (∃ a b, l = a ++ c :: b ∧ (∀ x ∈ a, x ≠ c) ∧ Lib.cut l [c] = (a, b, true)) := by
  rcases Lib.index_spec l [c] with ⟨h1, h2⟩ | ⟨i, h1, h2, h3, h4⟩
  · refine Or.inl ⟨?_, by unfold Lib.cut; rw [h1, if_neg (by omega)]⟩
    rintro x hx rfl
    obtain ⟨j, hj⟩ := List.getElem?_of_mem hx
    have hjl := (List.getElem?_eq_some_iff.1 hj).1
    have := h2 j (by omega)
    rw [occ_at.2 hj] at this
    cases this
  · have hi := occ_at.1 h3
    have hil := (List.getElem?_eq_some_iff.1 hi).1
    have hl2 : l = l.take i ++ c :: l.drop (i + 1) := by
      have e := List.take_append_drop i l
      have e2 : l.drop i = c :: l.drop (i + 1) := by
        rw [List.drop_eq_getElem_cons hil]
        congr 1
        exact (List.getElem?_eq_some_iff.1 hi).2
      rw [e2] at e
      exact e.symm
    have hno : ∀ x ∈ l.take i, x ≠ c := by
      rintro x hx rfl
      obtain ⟨j, hj⟩ := List.getElem?_of_mem hx
      have hji : j < i := by
        have := (List.getElem?_eq_some_iff.1 hj).1
        simp at this
        omega
      rw [List.getElem?_take, if_pos hji] at hj
      have := h4 j hji
      rw [occ_at.2 hj] at this
      cases this
    refine Or.inr ⟨l.take i, l.drop (i + 1), hl2, hno, ?_⟩
    unfold Lib.cut
    rw [h1, if_pos (by omega)]
    simp
theorem pl_none {l : List UInt8} (h : ∀ x ∈ l, x ≠ 46) : bodyV (partsL 46 l) = (numV l).map fun n => 1000 * n := by
  rw [parts_none h]; rfl
theorem pl_no46 {b : List UInt8} {r : Int} (h : fracV b = some r) : ∀ x ∈ b, x ≠ 46 := by
  unfold fracV at h
  split at h
  · rename_i k
    exact dgB_no46 k.2.2
  · cases h
theorem pl_cut {a b : List UInt8} (h : ∀ x ∈ a, x ≠ 46) : bodyV (partsL 46 (a ++ 46 :: b)) = (numV a).bind fun n => (fracV b).map fun r => 1000 * n + r := by
  rw [parts_cut b h]
  cases hb : fracV b with
  | some r =>
    rw [parts_none (pl_no46 hb)]
    simp [bodyV, hb]
  | none =>
    have key : ∀ q : List (List UInt8), partsL 46 b = q → bodyV (a :: q) = none := by
      intro q hq
      match q, hq with
      | [], hq => have := parts_pos (c := 46) b; rw [hq] at this; simp at this
      | [x], hq =>
        have hj := parts_join (c := 46) b
        rw [hq, Lib.join_one] at hj
        subst hj
        simp [bodyV, hb]
      | _ :: _ :: _, _ => rfl
    rw [key _ rfl]
    simp
/-- What the first k places count, one behind the other; a place that is not written counts as 0. -/
def pA (ds : List UInt8) : Nat → Int
  | 0 => 0
  | k + 1 => pA ds k * 10 + (if k < ds.length then dV (ds.getD k 0) else 0)
theorem pA_frac {ds : List UInt8} (h0 : 1 ≤ ds.length) (h1 : ds.length ≤ 3) : pA ds 3 = fA ds ds.length := by
  match ds, h0, h1 with
  | [a], _, _ => simp [pA, fA, unitV]; omega
  | [a, b], _, _ => simp [pA, fA, unitV]; omega
  | [a, b, c], _, _ => simp [pA, fA, unitV]; omega
  | _ :: _ :: _ :: _ :: _, _, h => simp at h
theorem pA_le {ds : List UInt8} {k : Nat} (h : ∀ j, j < k → j < ds.length → dgB (ds.getD j 0) = true) (hk : k ≤ 3) : 0 ≤ pA ds k ∧ pA ds k ≤ 999 := by
  have hd : ∀ j, j < k → 0 ≤ (if j < ds.length then dV (ds.getD j 0) else 0) ∧ (if j < ds.length then dV (ds.getD j 0) else 0) ≤ 9 := by
    intro j h1
    split
    · rename_i h2
      have := h j h1 h2
      simpa only [dgB, decide_eq_true_eq] using this
    · omega
  match k with
  | 0 => simp [pA]
  | 1 =>
    have a := hd 0 (by omega)
    simp only [pA]
    omega
  | 2 =>
    have a := hd 0 (by omega)
    have b := hd 1 (by omega)
    simp only [pA]
    omega
  | 3 =>
    have a := hd 0 (by omega)
    have b := hd 1 (by omega)
    have c := hd 2 (by omega)
    simp only [pA]
    omega
/-- What reading the places ends in. -/
def plE (ds : List UInt8) : Ending :=
  match fracV ds with
  | some r => .returned (.tuple #[.int .i64 r, .bool true])
  | none => .returned (.tuple #[.int .i64 0, .bool false])
theorem plE_some {l : List UInt8} {n : Int} (h : fracV l = some n) : plE l = .returned (.tuple #[.int .i64 n, .bool true]) := by rw [plE, h]
theorem plE_none {l : List UInt8} (h : fracV l = none) : plE l = .returned (.tuple #[.int .i64 0, .bool false]) := by rw [plE, h]
theorem pl_in {ds : List UInt8} {r : Int} (h : fracV ds = some r) : 0 ≤ r ∧ r ≤ 999 := by
  unfold fracV at h
  split at h
  · rename_i k
    obtain rfl := Option.some.inj h
    rw [← pA_frac k.1 k.2.1]
    refine pA_le (fun j _ hj => ?_) (by omega)
    have hm : ds[j] ∈ ds := List.getElem_mem hj
    have := List.all_eq_true.mp k.2.2 _ hm
    rw [List.getD_eq_getElem?_getD, List.getElem?_eq_getElem hj]
    exact this
  · cases h
theorem pl_bad {ds : List UInt8} {k : Nat} (hk : k < ds.length) (h : dgB (ds.getD k 0) = false) : fracV ds = none := by
  unfold fracV
  rw [if_neg]
  rintro ⟨_, _, h2⟩
  have hm : ds[k] ∈ ds := List.getElem_mem hk
  have := List.all_eq_true.mp h2 _ hm
  rw [List.getD_eq_getElem?_getD, List.getElem?_eq_getElem hk] at h
  simp only [Option.getD_some] at h
  rw [this] at h
  cases h
theorem pl_all {ds : List UInt8} (h0 : 1 ≤ ds.length) (h1 : ds.length ≤ 3) (h : ∀ j, j < 3 → j < ds.length → dgB (ds.getD j 0) = true) : fracV ds = some (pA ds 3) := by
  have hall : ds.all dgB = true := by
    refine List.all_eq_true.mpr fun x hx => ?_
    obtain ⟨j, hj⟩ := List.getElem?_of_mem hx
    have hjl := (List.getElem?_eq_some_iff.1 hj).1
    have := h j (by omega) hjl
    rw [List.getD_eq_getElem?_getD, hj] at this
    exact this
  rw [fracV, if_pos ⟨h0, h1, hall⟩, pA_frac h0 h1]
theorem pl_zero : fracV [48] = some 0 := by decide
/-- The digits of a thousand and r. -/
theorem dec_thousand {r : Nat} (h : r < 1000) : Lib.decDigits (1000 + r) = [49, UInt8.ofNat (48 + r / 100), UInt8.ofNat (48 + r / 10 % 10), UInt8.ofNat (48 + r % 10)] := by
  rw [Lib.decDigits, dif_neg (by omega), Lib.decDigits, dif_neg (by omega), Lib.decDigits, dif_neg (by omega), Lib.decDigits_one (by omega)]
  rw [show (1000 + r) / 10 / 10 / 10 = 1 by omega, show (1000 + r) / 10 / 10 % 10 = r / 100 by omega, show (1000 + r) / 10 % 10 = r / 10 % 10 by omega, show (1000 + r) % 10 = r % 10 by omega]
  rfl
theorem dig48 {k : Nat} (h : k < 10) : (UInt8.ofNat (48 + k) == 48) = decide (k = 0) := by
  by_cases hk : k = 0
  · subst hk; rfl
  · rw [decide_eq_false hk, beq_eq_false_iff_ne]
    intro e
    have := congrArg UInt8.toNat e
    rw [dig_toNat h] at this
    have h2 : (48 : UInt8).toNat = 48 := rfl
    omega
/-- The places without the zeros at their end. -/
theorem trim_frac {r : Nat} (h0 : r ≠ 0) (h : r < 1000) : 46 :: Lib.trimRightB [UInt8.ofNat (48 + r / 100), UInt8.ofNat (48 + r / 10 % 10), UInt8.ofNat (48 + r % 10)] 48 = fracL r := by
  have a0 := dig48 (k := r / 100) (by omega)
  have a1 := dig48 (k := r / 10 % 10) (by omega)
  have a2 := dig48 (k := r % 10) (by omega)
  unfold Lib.trimRightB fracL
  rw [if_neg h0]
  simp only [List.reverse_cons, List.reverse_nil, List.nil_append, List.cons_append, List.dropWhile_cons, List.dropWhile_nil, a0, a1, a2, decide_eq_true_eq]
  by_cases h2 : r % 10 = 0
  · by_cases h3 : r / 10 % 10 = 0
    · have h4 : ¬ r / 100 = 0 := by omega
      simp [h2, h3, h4]
    · simp [h2, h3]
  · simp [h2]
theorem trim_len {x y z : UInt8} (c : UInt8 := 48) : (Lib.trimRightB [x, y, z] c).length ≤ 3 := by
  unfold Lib.trimRightB
  rw [List.length_reverse]
  exact (List.dropWhile_sublist _).length_le
/-- Where the text is cut: what stands before and behind the point. -/
theorem fixT_parts {n : Int} (h0 : -2147483647 ≤ n) (h1 : n ≤ 2147483647) (m : Nat) (hm : n.natAbs = m) : fixT n = (if n < 0 then [45] else []) ++ (Lib.itoa ((m : Int) / 1000) ++ fracL (m % 1000)) := by
  rw [fixT, if_pos ⟨h0, h1⟩, hm, List.append_assoc]
theorem rd_neg {l : List UInt8} : rdV (45 :: l) = (bodyV (partsL 46 l)).bind fun n => inV (-n) := by rw [rdV, if_pos (by simp)]; rfl
theorem rd_pos {l : List UInt8} (h : l.head? ≠ some 45) : rdV l = (bodyV (partsL 46 l)).bind inV := by rw [rdV, if_neg h]
end Go.Proofs.YtnnbhgnllbjmeaaDoor
