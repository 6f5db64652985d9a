/-
  Sorted lists and cuts: what the laws ask of them: plain mathematics.
-/
import Derived.Test.YtekdlkakcclejaaSrtM
namespace Go.Proofs.Ytekdlkakcclejaa
open Go.RowKit

theorem count_one {l : List Int} (h : l.Pairwise (· < ·)) {x : Int} (hx : x ∈ l) : l.count x = 1 := by
  have hn : l.Nodup := h.imp (fun {a b} hab => by omega)
  rw [hn.count, if_pos hx]
theorem sortZ_count (zs : List Int) (x : Int) : (sortZ zs).count x = zs.count x := (sortZ_perm zs).count_eq x
theorem distZ_count {zs : List Int} {x : Int} (hx : x ∈ zs) : (distZ zs).count x = 1 := count_one (distZ_srt zs) ((distZ_mem zs x).2 hx)
theorem lt_le {l : List Int} (h : l.Pairwise (· < ·)) : l.Pairwise (· ≤ ·) := h.imp (fun hab => Int.le_of_lt hab)
theorem rawZ_mem {A : List Int} {b : Nat} (hb : 0 < b) (hA : 0 < A.length) : ∀ j, j < b → ∀ x ∈ rawZ A b j, x ∈ A ∧ x < A.getD (A.length - 1) 0
  | 0, _, x, hx => by simp [rawZ] at hx
  | j + 1, hj, x, hx => by
    unfold rawZ at hx
    split at hx
    · rename_i h
      rcases List.mem_append.1 hx with hx | hx
      · exact rawZ_mem hb hA j (by omega) x hx
      · obtain rfl := List.mem_singleton.1 hx
        have hle : A.length * (j + 1) / b ≤ A.length := by
          refine Nat.div_le_of_le_mul ?_
          rw [Nat.mul_comm]
          exact Nat.mul_le_mul (by omega) (Nat.le_refl _)
        exact ⟨getD_mem (by omega), h.2⟩
    · exact rawZ_mem hb hA j (by omega) x hx
theorem cutsZ_mem {vs : List Int} {bins : Int} {x : Int} (h : x ∈ cutsZ vs bins) : x ∈ vs ∧ ∃ y ∈ vs, x < y := by
  unfold cutsZ at h
  split at h
  · rename_i hc
    have h1 := inZ_iff.1 hc.1
    have h2 := inZ_iff.1 hc.2
    have hl := sortZ_len vs
    have h3 := rawZ_mem (A := sortZ vs) (b := bins.toNat) (by omega) (by omega) (bins.toNat - 1) (by omega) x ((distZ_mem _ x).1 h)
    have hm := fun z => (sortZ_perm vs).mem_iff (a := z)
    exact ⟨(hm x).1 h3.1, _, (hm _).1 (getD_mem (by omega)), h3.2⟩
  · simp at h
theorem cutsZ_srt (vs : List Int) (bins : Int) : (cutsZ vs bins).Pairwise (· < ·) := by
  unfold cutsZ
  split
  · exact distZ_srt _
  · simp
theorem cutsZ_lt (vs : List Int) (bins : Int) : (cutsZ vs bins).length = 0 ∨ ((cutsZ vs bins).length : Int) < bins := by
  unfold cutsZ
  split
  · rename_i hc
    have h1 := inZ_iff.1 hc.1
    have h2 := distZ_len (rawZ (sortZ vs) bins.toNat (bins.toNat - 1))
    have h3 := rawZ_len (sortZ vs) bins.toNat (bins.toNat - 1)
    exact Or.inr (by omega)
  · exact Or.inl rfl
/-- How many are not above x. -/
def belZ (vs : List Int) (x : Int) (k : Nat) : Nat := (vs.take k).countP (fun y => decide (y ≤ x))
theorem belZ_succ {vs : List Int} {x y : Int} {k : Nat} (h : vs[k]? = some y) : belZ vs x (k + 1) = belZ vs x k + (if y ≤ x then 1 else 0) := by
  unfold belZ
  rw [List.take_add_one, h, List.countP_append]
  by_cases e : y ≤ x
  · rw [if_pos e]
    simp [e]
  · rw [if_neg e]
    simp [e]
theorem belZ_le (vs : List Int) (x : Int) (k : Nat) : belZ vs x k ≤ k := Nat.le_trans List.countP_le_length (by rw [List.length_take]; omega)
theorem belZ_cut {vs : List Int} {x : Int} (h : x ∈ vs ∧ ∃ y ∈ vs, x < y) : 0 < belZ vs x vs.length ∧ belZ vs x vs.length < vs.length := by
  unfold belZ
  rw [List.take_length]
  refine ⟨List.countP_pos_iff.2 ⟨x, h.1, by simp⟩, ?_⟩
  have h1 : vs.countP (fun y => decide (y ≤ x)) ≤ vs.length := List.countP_le_length
  have h2 : vs.countP (fun y => decide (y ≤ x)) ≠ vs.length := by
    intro e
    obtain ⟨y, hy, hxy⟩ := h.2
    have := List.countP_eq_length.1 e y hy
    simp only [decide_eq_true_eq] at this
    omega
  omega
end Go.Proofs.Ytekdlkakcclejaa
