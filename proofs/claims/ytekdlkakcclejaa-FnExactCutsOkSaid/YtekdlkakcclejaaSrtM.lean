/-
  Sorted lists, lists without duplicates, and cuts: plain mathematics.
-/
import Derived.Test.YtekdlkakcclejaaTabO
namespace Go.Proofs.Ytekdlkakcclejaa
open Go.RowKit

/-- Where x is put: behind the last that is not above it, from the end on. -/
def posK (out : List Int) (x : Int) : Nat → Nat
  | 0 => 0
  | k + 1 => if x < out.getD k 0 then posK out x k else k + 1
def insZ (out : List Int) (x : Int) : List Int := out.take (posK out x out.length) ++ [x] ++ out.drop (posK out x out.length)
/-- The numbers in order. -/
def sortZ (zs : List Int) : List Int := zs.foldl insZ []
theorem posK_le (out : List Int) (x : Int) : ∀ k, posK out x k ≤ k
  | 0 => Nat.le_refl _
  | k + 1 => by
    unfold posK
    split
    · exact Nat.le_succ_of_le (posK_le out x k)
    · exact Nat.le_refl _
theorem posK_up {out : List Int} {x : Int} {k : Nat} (h : x < out.getD k 0) : posK out x (k + 1) = posK out x k := by rw [posK, if_pos h]
theorem posK_at {out : List Int} {x : Int} {k : Nat} (h : ¬ x < out.getD k 0) : posK out x (k + 1) = k + 1 := by rw [posK, if_neg h]
theorem posK_low (out : List Int) (x : Int) : ∀ k, posK out x k = 0 ∨ ∃ j, posK out x k = j + 1 ∧ ¬ x < out.getD j 0
  | 0 => Or.inl rfl
  | k + 1 => by
    unfold posK
    split
    · exact posK_low out x k
    · rename_i h
      exact Or.inr ⟨k, rfl, h⟩
theorem posK_high (out : List Int) (x : Int) : ∀ k j, posK out x k ≤ j → j < k → x < out.getD j 0
  | 0, _, _, h => by omega
  | k + 1, j, h1, h2 => by
    unfold posK at h1
    split at h1
    · rename_i h
      by_cases e : j = k
      · subst e
        exact h
      · exact posK_high out x k j h1 (by omega)
    · omega
theorem insZ_len (out : List Int) (x : Int) : (insZ out x).length = out.length + 1 := by
  have := posK_le out x out.length
  simp only [insZ, List.length_append, List.length_take, List.length_drop, List.length_singleton]
  omega
theorem insZ_perm (out : List Int) (x : Int) : (insZ out x).Perm (x :: out) := by
  have h := List.perm_middle (a := x) (l₁ := out.take (posK out x out.length)) (l₂ := out.drop (posK out x out.length))
  rw [List.take_append_drop] at h
  simpa [insZ] using h
theorem getD_mem {l : List Int} {j : Nat} (h : j < l.length) : l.getD j 0 ∈ l := by
  rw [List.getD_eq_getElem?_getD, List.getElem?_eq_getElem h]
  exact List.getElem_mem h
theorem getD_eq {l : List Int} {j : Nat} (h : j < l.length) : l.getD j 0 = l[j] := by
  rw [List.getD_eq_getElem?_getD, List.getElem?_eq_getElem h]
  rfl
theorem srt_le {l : List Int} (h : l.Pairwise (· ≤ ·)) {i j : Nat} (hij : i ≤ j) (hj : j < l.length) : l.getD i 0 ≤ l.getD j 0 := by
  rw [getD_eq (by omega), getD_eq hj]
  by_cases e : i = j
  · subst e
    exact Int.le_refl _
  · exact List.pairwise_iff_getElem.1 h i j (by omega) hj (by omega)
theorem insZ_srt {out : List Int} (x : Int) (h : out.Pairwise (· ≤ ·)) : (insZ out x).Pairwise (· ≤ ·) := by
  have hp := posK_le out x out.length
  have hlow : ∀ a ∈ out.take (posK out x out.length), a ≤ x := by
    intro a ha
    obtain ⟨i, hi, rfl⟩ := List.mem_take_iff_getElem.1 ha
    rcases posK_low out x out.length with e | ⟨j, e, hj⟩
    · omega
    · have := srt_le h (i := i) (j := j) (by omega) (by omega)
      rw [getD_eq (by omega)] at this
      omega
  have hhigh : ∀ a ∈ out.drop (posK out x out.length), x < a := by
    intro a ha
    obtain ⟨i, hi, rfl⟩ := List.mem_drop_iff_getElem.1 ha
    have := posK_high out x out.length (posK out x out.length + i) (by omega) (by omega)
    rwa [getD_eq (by omega)] at this
  unfold insZ
  rw [List.append_assoc, List.pairwise_append]
  refine ⟨h.sublist (List.take_sublist _ _), ?_, fun a ha b hb => ?_⟩
  · rw [List.pairwise_append]
    refine ⟨by simp, h.sublist (List.drop_sublist _ _), fun a ha b hb => ?_⟩
    obtain rfl := List.mem_singleton.1 ha
    exact Int.le_of_lt (hhigh b hb)
  · have h1 := hlow a ha
    rcases List.mem_append.1 hb with hb | hb
    · obtain rfl := List.mem_singleton.1 hb
      exact h1
    · have := hhigh b hb
      omega
theorem foldl_ins (zs : List Int) : ∀ out : List Int, out.Pairwise (· ≤ ·) → (zs.foldl insZ out).Pairwise (· ≤ ·) ∧ (zs.foldl insZ out).Perm (out ++ zs) := by
  induction zs with
  | nil => intro out h; exact ⟨h, by simp⟩
  | cons z zs ih =>
    intro out h
    have h1 := ih (insZ out z) (insZ_srt z h)
    refine ⟨h1.1, h1.2.trans ?_⟩
    have h2 := (insZ_perm out z).append_right zs
    refine h2.trans ?_
    exact List.perm_middle.symm
theorem sortZ_srt (zs : List Int) : (sortZ zs).Pairwise (· ≤ ·) := (foldl_ins zs [] (by simp)).1
theorem sortZ_perm (zs : List Int) : (sortZ zs).Perm zs := by
  have h := (foldl_ins zs [] (by simp)).2
  rw [List.nil_append] at h
  exact h
theorem sortZ_len (zs : List Int) : (sortZ zs).length = zs.length := (sortZ_perm zs).length_eq
theorem sortZ_snoc (zs : List Int) (x : Int) : sortZ (zs ++ [x]) = insZ (sortZ zs) x := by
  unfold sortZ
  rw [List.foldl_append]
  rfl
theorem sortZ_take {zs : List Int} {k : Nat} (h : k < zs.length) : sortZ (zs.take (k + 1)) = insZ (sortZ (zs.take k)) (zs.getD k 0) := by
  rw [List.take_add_one, List.getElem?_eq_getElem h, getD_eq h]
  exact sortZ_snoc _ _
/-- What is in order and has the same numbers is the same. -/
theorem sortZ_uniq {zs l : List Int} (h : l.Pairwise (· ≤ ·)) (hp : l.Perm zs) : l = sortZ zs :=
  List.Perm.eq_of_pairwise (le := (· ≤ ·)) (fun a b _ _ h1 h2 => by omega) h (sortZ_srt zs) (hp.trans (sortZ_perm zs).symm)
/-- Those of the first k that are not as the one ahead. -/
def dedK (all : List Int) : Nat → List Int
  | 0 => []
  | k + 1 => if k = 0 ∨ all.getD k 0 ≠ all.getD (k - 1) 0 then dedK all k ++ [all.getD k 0] else dedK all k
def distZ (zs : List Int) : List Int := dedK (sortZ zs) (sortZ zs).length
theorem dedK_len (all : List Int) : ∀ k, (dedK all k).length ≤ k
  | 0 => Nat.le_refl _
  | k + 1 => by
    have := dedK_len all k
    unfold dedK
    split
    · rw [List.length_append, List.length_singleton]
      omega
    · omega
theorem distZ_len (zs : List Int) : (distZ zs).length ≤ zs.length := by
  have := dedK_len (sortZ zs) (sortZ zs).length
  rw [sortZ_len] at this
  unfold distZ
  rw [sortZ_len]
  exact this
theorem dedK_mem {all : List Int} (h : all.Pairwise (· ≤ ·)) : ∀ k, k ≤ all.length → (dedK all k).Pairwise (· < ·) ∧ (∀ x, x ∈ dedK all k ↔ x ∈ all.take k) ∧ (∀ x ∈ dedK all k, 0 < k ∧ x ≤ all.getD (k - 1) 0)
  | 0, _ => ⟨by simp [dedK], by simp [dedK], by simp [dedK]⟩
  | k + 1, hk => by
    obtain ⟨h1, h2, h3⟩ := dedK_mem h k (by omega)
    have et : all.take (k + 1) = all.take k ++ [all.getD k 0] := by rw [List.take_add_one, List.getElem?_eq_getElem (by omega), getD_eq (by omega)]; rfl
    unfold dedK
    by_cases hc : k = 0 ∨ all.getD k 0 ≠ all.getD (k - 1) 0
    · rw [if_pos hc]
      refine ⟨List.pairwise_append.2 ⟨h1, by simp, fun a ha b hb => ?_⟩, fun x => ?_, fun x hx => ⟨by omega, ?_⟩⟩
      · obtain rfl := List.mem_singleton.1 hb
        obtain ⟨hk0, hle⟩ := h3 a ha
        have := srt_le h (i := k - 1) (j := k) (by omega) (by omega)
        rcases hc with hc | hc
        · omega
        · omega
      · rw [et, List.mem_append, List.mem_append, h2 x]
      · show x ≤ all.getD k 0
        rcases List.mem_append.1 hx with hx | hx
        · obtain ⟨hk0, hle⟩ := h3 x hx
          have := srt_le h (i := k - 1) (j := k) (by omega) (by omega)
          omega
        · obtain rfl := List.mem_singleton.1 hx
          exact Int.le_refl _
    · rw [if_neg hc]
      have hk0 : ¬ k = 0 := fun e => hc (Or.inl e)
      have he : all.getD k 0 = all.getD (k - 1) 0 := by
        by_cases e : all.getD k 0 = all.getD (k - 1) 0
        · exact e
        · exact absurd (Or.inr e) hc
      refine ⟨h1, fun x => ?_, fun x hx => ⟨by omega, ?_⟩⟩
      · rw [et, List.mem_append, h2 x, List.mem_singleton]
        refine ⟨Or.inl, fun hx => ?_⟩
        rcases hx with hx | rfl
        · exact hx
        · rw [he, getD_eq (by omega)]
          exact List.mem_take_iff_getElem.2 ⟨k - 1, by omega, rfl⟩
      · show x ≤ all.getD k 0
        rw [he]
        exact (h3 x hx).2
theorem distZ_srt (zs : List Int) : (distZ zs).Pairwise (· < ·) := (dedK_mem (sortZ_srt zs) _ (Nat.le_refl _)).1
theorem distZ_mem (zs : List Int) (x : Int) : x ∈ distZ zs ↔ x ∈ zs := by
  rw [distZ, (dedK_mem (sortZ_srt zs) _ (Nat.le_refl _)).2.1, List.take_length]
  exact (sortZ_perm zs).mem_iff
/-- What rises and has the same members is the same. -/
theorem rise_uniq : ∀ {l m : List Int}, l.Pairwise (· < ·) → m.Pairwise (· < ·) → (∀ x, x ∈ l ↔ x ∈ m) → l = m
  | [], [], _, _, _ => rfl
  | [], b :: m, _, _, h => absurd ((h b).2 (by simp)) (by simp)
  | a :: l, [], _, _, h => absurd ((h a).1 (by simp)) (by simp)
  | a :: l, b :: m, h1, h2, h => by
    rw [List.pairwise_cons] at h1 h2
    have hab : a = b := by
      have e1 := (h a).1 (by simp)
      have e2 := (h b).2 (by simp)
      rcases List.mem_cons.1 e1 with e1 | e1
      · exact e1
      · rcases List.mem_cons.1 e2 with e2 | e2
        · exact e2.symm
        · have := h2.1 a e1
          have := h1.1 b e2
          omega
    subst hab
    congr 1
    refine rise_uniq h1.2 h2.2 fun x => ⟨fun hx => ?_, fun hx => ?_⟩
    · rcases List.mem_cons.1 ((h x).1 (by simp [hx])) with e | e
      · have := h1.1 x hx
        omega
      · exact e
    · rcases List.mem_cons.1 ((h x).2 (by simp [hx])) with e | e
      · have := h2.1 x hx
        omega
      · exact e
theorem distZ_uniq {zs l : List Int} (h : l.Pairwise (· < ·)) (hm : ∀ x, x ∈ l ↔ x ∈ zs) : l = distZ zs := rise_uniq h (distZ_srt zs) (fun x => (hm x).trans (distZ_mem zs x).symm)
/-- The cuts ahead of their order: those of the first j parts. -/
def rawZ (all : List Int) (b : Nat) : Nat → List Int
  | 0 => []
  | j + 1 => if 1 ≤ all.length * (j + 1) / b ∧ all.getD (all.length * (j + 1) / b - 1) 0 < all.getD (all.length - 1) 0 then rawZ all b j ++ [all.getD (all.length * (j + 1) / b - 1) 0] else rawZ all b j
def cutsZ (vs : List Int) (bins : Int) : List Int := if inZ bins 2 8 = true ∧ inZ (vs.length : Int) 1 40 = true then distZ (rawZ (sortZ vs) bins.toNat (bins.toNat - 1)) else []
theorem rawZ_len (all : List Int) (b : Nat) : ∀ j, (rawZ all b j).length ≤ j
  | 0 => Nat.le_refl _
  | j + 1 => by
    have := rawZ_len all b j
    unfold rawZ
    split
    · rw [List.length_append, List.length_singleton]
      omega
    · omega
theorem cutsZ_len (vs : List Int) (bins : Int) : (cutsZ vs bins).length ≤ 7 := by
  unfold cutsZ
  split
  · rename_i h
    have h1 := inZ_iff.1 h.1
    have h2 := distZ_len (rawZ (sortZ vs) bins.toNat (bins.toNat - 1))
    have h3 := rawZ_len (sortZ vs) bins.toNat (bins.toNat - 1)
    omega
  · simp
/-- The first k cuts are right. -/
def okCuts (zs : List Int) (k : Nat) : Bool := valB (zs.getD k 0) && (k == 0 || decide (zs.getD (k - 1) 0 < zs.getD k 0))
def cutsB (zs : List Int) : Bool := (List.range zs.length).all (okCuts zs) && decide (zs.length ≤ 7)
end Go.Proofs.Ytekdlkakcclejaa
