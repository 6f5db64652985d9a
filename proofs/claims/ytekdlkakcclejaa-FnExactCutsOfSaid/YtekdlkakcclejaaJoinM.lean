/-
  The join of a list of texts: plain mathematics.
-/
import Derived.Lib.Join
namespace Go.Proofs.Ytekdlkakcclejaa

def lensum (ps : List (List UInt8)) : Nat := (ps.map List.length).sum

theorem lensum_take_succ {ps : List (List UInt8)} {k : Nat} {p : List UInt8} (h : ps[k]? = some p) : lensum (ps.take (k + 1)) = lensum (ps.take k) + p.length := by
  unfold lensum
  rw [List.take_add_one, h]
  simp
theorem lensum_take_le (ps : List (List UInt8)) (k : Nat) : lensum (ps.take k) ≤ lensum ps := by
  have e : lensum ps = lensum (ps.take k) + lensum (ps.drop k) := by
    unfold lensum
    conv => lhs; rw [← List.take_append_drop k ps]
    rw [List.map_append, List.sum_append]
  omega

theorem joinTail_len (sep : List UInt8) : ∀ (r : List (List UInt8)), (Lib.joinTail sep r).length = r.length * sep.length + lensum r
  | [] => by simp [Lib.joinTail, lensum]
  | x :: r => by
    have ih := joinTail_len sep r
    unfold Lib.joinTail lensum at ih ⊢
    simp only [List.map_cons, List.flatten_cons, List.length_append, List.sum_cons, List.length_cons, ih, Nat.succ_mul]
    omega

theorem join_len_le (ps : List (List UInt8)) (sep : List UInt8) : (Lib.join ps sep).length ≤ ps.length * sep.length + lensum ps := by
  cases ps with
  | nil => simp [Lib.join_nil]
  | cons p r =>
    rw [Lib.join_cons, List.length_append, joinTail_len]
    have e : lensum (p :: r) = p.length + lensum r := by unfold lensum; rw [List.map_cons, List.sum_cons]
    rw [e, List.length_cons, Nat.succ_mul]
    omega

theorem joinTail_append (sep : List UInt8) (a b : List (List UInt8)) : Lib.joinTail sep (a ++ b) = Lib.joinTail sep a ++ Lib.joinTail sep b := by
  unfold Lib.joinTail
  rw [List.map_append, List.flatten_append]

theorem join_take_one {ps : List (List UInt8)} {p sep : List UInt8} (h : ps[0]? = some p) : Lib.join (ps.take 1) sep = p := by
  cases ps with
  | nil => cases h
  | cons q r =>
    obtain rfl : q = p := by simpa using h
    simp [Lib.join_one]

theorem join_take_succ {ps : List (List UInt8)} {k : Nat} {p sep : List UInt8} (hk : 1 ≤ k) (h : ps[k]? = some p) : Lib.join (ps.take (k + 1)) sep = Lib.join (ps.take k) sep ++ sep ++ p := by
  obtain ⟨j, rfl⟩ : ∃ j, k = j + 1 := ⟨k - 1, by omega⟩
  cases ps with
  | nil => cases h
  | cons q r =>
    rw [List.getElem?_cons_succ] at h
    rw [List.take_succ_cons, List.take_succ_cons, Lib.join_cons, Lib.join_cons, Lib.joinTail_take_succ sep r j p h]
    simp [List.append_assoc]

theorem join_take_le (ps : List (List UInt8)) (sep : List UInt8) (k : Nat) : (Lib.join (ps.take k) sep).length ≤ (Lib.join ps sep).length := by
  cases k with
  | zero => simp [Lib.join_nil]
  | succ j =>
    cases ps with
    | nil => simp
    | cons q r =>
      rw [List.take_succ_cons, Lib.join_cons, Lib.join_cons]
      have e : Lib.joinTail sep r = Lib.joinTail sep (r.take j) ++ Lib.joinTail sep (r.drop j) := by rw [← joinTail_append, List.take_append_drop]
      rw [e]
      simp only [List.length_append]
      omega
end Go.Proofs.Ytekdlkakcclejaa
