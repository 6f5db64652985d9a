/-
  Settings that are written, turned and read: plain mathematics.
-/
import Derived.Test.YtnnbhgnllbjmeaaDoorCfgM
namespace Go.Proofs.YtnnbhgnllbjmeaaDoor
open Go.RowKit

/-- The items of a text: its keys, and the empty line behind the last one. -/
def itemsC (C : Cfg) : List (Option Nat) := (keysC C).map some ++ [none]
theorem keys_lt {C : Cfg} {k : Nat} (h : k ∈ keysC C) : k < 7 ∧ (k = 6 → C.s ≠ []) := by
  unfold keysC at h
  split at h
  · simp at h; omega
  · rename_i hs
    simp at h
    exact ⟨by omega, fun _ => hs⟩
theorem keys_nodup (C : Cfg) : (keysC C).Nodup := by
  unfold keysC
  split <;> decide
theorem keys_all (C : Cfg) : (∀ k, k < 6 → k ∈ keysC C) ∧ (6 ∈ keysC C ∨ C.s = []) := by
  unfold keysC
  split
  · rename_i h
    exact ⟨fun k hk => by simp; omega, Or.inr h⟩
  · exact ⟨fun k hk => by simp; omega, Or.inl (by simp)⟩
theorem items_filter (C : Cfg) : (itemsC C).filterMap id = keysC C := by
  unfold itemsC
  rw [List.filterMap_append]
  have : ∀ l : List Nat, (l.map some).filterMap id = l := by
    intro l
    induction l with
    | nil => rfl
    | cons a t ih => simp [ih]
  rw [this]
  simp
theorem lineO_ne {C : Cfg} (h : okC C = true) {x : Option Nat} (hx : x ∈ itemsC C) : ∀ y ∈ lineO C x, y ≠ 10 := by
  cases x with
  | none => simp [lineO]
  | some k =>
    have hk : k ∈ keysC C := by
      unfold itemsC at hx
      simpa using hx
    exact lineL_ne h (keys_lt hk).1
theorem parts_text {C : Cfg} (h : okC C = true) : partsL 10 (textC C) = (itemsC C).map (lineO C) := by
  rw [textC, if_pos h, parts_lines _ (fun a ha => by
    obtain ⟨k, hk, rfl⟩ := List.mem_map.1 ha
    exact lineL_ne h (keys_lt hk).1)]
  unfold itemsC
  rw [List.map_append, List.map_map]
  rfl
/-- The items in some order say the settings. -/
theorem goC_items {C : Cfg} (h : okC C = true) {ks : List (Option Nat)} (hp : ks.Perm (itemsC C)) : goC (ks.map (lineO C)) 0 [] usualC = (C, 0, 0) := by
  have hf : (ks.filterMap id).Perm (keysC C) := by
    have := hp.filterMap id
    rwa [items_filter] at this
  rw [goC_lines h ks 0 [] usualC (fun k hk => by
    have hk2 : k ∈ keysC C := hf.mem_iff.1 (List.mem_filterMap.2 ⟨some k, hk, rfl⟩)
    exact ⟨(keys_lt hk2).1, (keys_lt hk2).2, by simp⟩) (hf.nodup_iff.2 (keys_nodup C))]
  rw [foldC_all (C := C) (fun k hk => (keys_lt (hf.mem_iff.1 hk)).1) (fun k hk => hf.mem_iff.2 ((keys_all C).1 k hk)) ((keys_all C).2.imp (fun h6 => hf.mem_iff.2 h6) id)]
theorem valueL_len {C : Cfg} (h : okC C = true) {k : Nat} (hk : k < 7) : (valueL k C).length ≤ 60 := by
  have ho := okC_iff.1 h
  have hit : ∀ z : Int, -9223372036854775808 ≤ z → z ≤ 9223372036854775807 → (Lib.itoa z).length ≤ 21 := Lib.itoa_length_le
  unfold valueL
  split
  · have : ∀ s : List Int, (Lib.join (s.map sgnT) [44]).length ≤ 2 * s.length := by
      intro s
      have hs : ∀ z : Int, (sgnT z).length = 1 := by
        intro z
        unfold sgnT
        split
        · rfl
        · split <;> rfl
      match s with
      | [] => simp [Lib.join_nil]
      | a :: r =>
        have ht : ∀ r : List Int, (Lib.joinTail [44] (r.map sgnT)).length = 2 * r.length := by
          intro r
          induction r with
          | nil => simp [Lib.joinTail]
          | cons b t ih =>
            simp only [Lib.joinTail, List.map_cons, List.flatten_cons, List.length_append, List.length_cons, List.length_nil] at ih ⊢
            have := hs b
            omega
        rw [List.map_cons, Lib.join_cons, List.length_append, ht, hs, List.length_cons]
        omega
    have := this C.s
    omega
  · split
    · have h1 := hit C.n (by omega) (by omega)
      have h2 := hit C.e (by omega) (by omega)
      simp only [List.length_append, List.length_cons, List.length_nil]
      omega
    · have hr := num_range h (by omega : k < 5)
      have := hit (numC k C) (by omega) (by omega)
      omega
theorem lineO_len {C : Cfg} (h : okC C = true) {x : Option Nat} (hx : x ∈ itemsC C) : (lineO C x).length ≤ 67 := by
  cases x with
  | none => simp [lineO]
  | some k =>
    have hk : k ∈ keysC C := by
      unfold itemsC at hx
      simpa using hx
    have h1 := valueL_len h (keys_lt hk).1
    have h2 := (wordL_ok k (keys_lt hk).1).2.2
    simp only [lineO, lineL, List.length_append, List.length_cons]
    omega
theorem items_len (C : Cfg) : (itemsC C).length ≤ 8 := by
  unfold itemsC keysC
  split <;> simp
theorem linesT_len : ∀ (L : List (List UInt8)) (n : Nat), (∀ a ∈ L, a.length ≤ n) → (linesT L).length ≤ (n + 1) * L.length
  | [], n, _ => by simp [linesT]
  | a :: r, n, h => by
    have ih := linesT_len r n (fun x hx => h x (by simp [hx]))
    have h1 := h a (by simp)
    rw [linesT, List.length_append, List.length_cons, List.length_cons, Nat.mul_succ]
    omega
theorem join_len_n (L : List (List UInt8)) (n : Nat) (c : UInt8) (h : ∀ a ∈ L, a.length ≤ n) : (Lib.join L [c]).length ≤ (n + 1) * L.length := by
  match L with
  | [] => simp [Lib.join_nil]
  | a :: r =>
    have ht : ∀ r : List (List UInt8), (∀ b ∈ r, b.length ≤ n) → (Lib.joinTail [c] r).length ≤ (n + 1) * r.length := by
      intro r hr
      induction r with
      | nil => simp [Lib.joinTail]
      | cons b t ih =>
        have h1 := hr b (by simp)
        have h2 := ih (fun x hx => hr x (by simp [hx]))
        simp only [Lib.joinTail, List.map_cons, List.flatten_cons, List.length_append, List.length_cons, List.length_nil] at h2 ⊢
        rw [Nat.mul_succ]
        omega
    have h1 := h a (by simp)
    have h2 := ht r (fun b hb => h b (by simp [hb]))
    rw [Lib.join_cons, List.length_append, List.length_cons, Nat.mul_succ]
    omega
theorem textC_len {C : Cfg} (h : okC C = true) : (textC C).length ≤ 600 := by
  rw [textC, if_pos h]
  have h1 := linesT_len ((keysC C).map fun k => lineL k C) 67 (fun a ha => by
    obtain ⟨k, hk, rfl⟩ := List.mem_map.1 ha
    exact lineO_len (C := C) h (x := some k) (by unfold itemsC; simpa using hk))
  have h2 := items_len C
  unfold itemsC at h2
  simp only [List.length_append, List.length_map, List.length_cons, List.length_nil] at h2
  rw [List.length_map] at h1
  have h3 : 68 * (keysC C).length ≤ 68 * 7 := Nat.mul_le_mul (Nat.le_refl _) (by omega)
  omega
/-- SETTINGS ARE READ AS THEY ARE WRITTEN. -/
theorem readC_text {C : Cfg} (h : okC C = true) : readC (textC C) = (C, 0, 0) := by
  have hl := textC_len h
  rw [readC, if_neg (by omega), parts_text h]
  exact goC_items h (List.Perm.refl _)
/-- .. IN WHATEVER ORDER THE LINES STAND. -/
theorem readC_turned {C : Cfg} (h : okC C = true) (k : Nat) : readC (Lib.join ((partsL 10 (textC C)).drop k ++ (partsL 10 (textC C)).take k) [10]) = (C, 0, 0) := by
  have he : (partsL 10 (textC C)).drop k ++ (partsL 10 (textC C)).take k = ((itemsC C).drop k ++ (itemsC C).take k).map (lineO C) := by
    rw [parts_text h, List.map_append, List.map_drop, List.map_take]
  have hperm : ((itemsC C).drop k ++ (itemsC C).take k).Perm (itemsC C) := by
    have := List.perm_append_comm (l₁ := (itemsC C).drop k) (l₂ := (itemsC C).take k)
    rwa [List.take_append_drop] at this
  have hmem : ∀ x ∈ (itemsC C).drop k ++ (itemsC C).take k, x ∈ itemsC C := fun x hx => hperm.mem_iff.1 hx
  have hne : ((itemsC C).drop k ++ (itemsC C).take k).map (lineO C) ≠ [] := by
    intro e
    have h1 := congrArg List.length e
    rw [List.length_map, hperm.length_eq] at h1
    unfold itemsC at h1
    simp at h1
  have hlen : (Lib.join (((itemsC C).drop k ++ (itemsC C).take k).map (lineO C)) [10]).length ≤ 4000 := by
    have h1 := join_len_n (((itemsC C).drop k ++ (itemsC C).take k).map (lineO C)) 67 10 (fun a ha => by
      obtain ⟨x, hx, rfl⟩ := List.mem_map.1 ha
      exact lineO_len h (hmem x hx))
    rw [List.length_map, hperm.length_eq] at h1
    have h2 := items_len C
    have h3 : 68 * (itemsC C).length ≤ 68 * 8 := Nat.mul_le_mul (Nat.le_refl _) h2
    omega
  rw [he, readC, if_neg (by omega), parts_joined 10 _ hne (fun a ha => by
    obtain ⟨x, hx, rfl⟩ := List.mem_map.1 ha
    exact lineO_ne h (hmem x hx))]
  exact goC_items h hperm

theorem sgnsV_ok : ∀ {L : List (List UInt8)} {s : List Int}, sgnsV L = some s → s.length = L.length ∧ ∀ z ∈ s, -1 ≤ z ∧ z ≤ 1
  | [], s, h => by
    obtain rfl : [] = s := by simpa [sgnsV] using h
    simp
  | a :: r, s, h => by
    rw [sgnsV] at h
    cases h1 : sgnV a with
    | none => rw [h1] at h; cases h
    | some z =>
      cases h2 : sgnsV r with
      | none => rw [h1, h2] at h; cases h
      | some t =>
        rw [h1, h2] at h
        obtain rfl : z :: t = s := by simpa using h
        have ih := sgnsV_ok h2
        have hz : -1 ≤ z ∧ z ≤ 1 := by
          unfold sgnV at h1
          split at h1
          · obtain rfl : 1 = z := by simpa using h1
            omega
          · split at h1
            · obtain rfl : 0 = z := by simpa using h1
              omega
            · split at h1
              · obtain rfl : -1 = z := by simpa using h1
                omega
              · cases h1
        refine ⟨by simp [ih.1], fun y hy => ?_⟩
        rcases List.mem_cons.1 hy with rfl | hy
        · exact hz
        · exact ih.2 y hy
theorem rateV_ok {l : List UInt8} (h : (rateV l).2.2 = 0) : 1 ≤ (rateV l).1 ∧ (rateV l).1 ≤ (rateV l).2.1 ∧ (rateV l).2.1 ≤ 1000 ∧ 1 ≤ (rateV l).2.1 := by
  revert h
  unfold rateV
  split
  · split
    · split
      · rename_i hc
        intro _
        have h1 := inZ_iff.1 hc.1
        have h2 := inZ_iff.1 hc.2.1
        exact ⟨h1.1, hc.2.2, h2.2, h2.1⟩
      · intro h; cases h
    · intro h; cases h
  · intro h; cases h
theorem layV_ok {D : Cfg} {k : Nat} {l : List UInt8} (hk : k < 7) (h : okC D = true) (h0 : (layV D k l).2 = 0) : okC (layV D k l).1 = true := by
  have ho := okC_iff.1 h
  rw [okC_iff]
  unfold layV at h0 ⊢
  by_cases h6 : k = 6
  · rw [if_pos h6] at h0 ⊢
    cases hs : signsV l with
    | none => rw [hs] at h0; cases h0
    | some s =>
      rw [hs] at h0
      simp only
      unfold signsV at hs
      split at hs
      · cases hs
      · have hk := sgnsV_ok hs
        exact ⟨ho.1, ho.2.1, ho.2.2.1, ho.2.2.2.1, ho.2.2.2.2.1, hk.2, ho.2.2.2.2.2.2.1, ho.2.2.2.2.2.2.2.1, by omega⟩
  · rw [if_neg h6] at h0 ⊢
    by_cases h5 : k = 5
    · rw [if_pos h5] at h0 ⊢
      have hr := rateV_ok h0
      exact ⟨ho.1, ho.2.1, ho.2.2.1, ho.2.2.2.1, ho.2.2.2.2.1, ho.2.2.2.2.2.1, ⟨hr.2.2.2, hr.2.2.1⟩, ⟨hr.1, hr.2.1⟩, ho.2.2.2.2.2.2.2.2⟩
    · rw [if_neg h5] at h0 ⊢
      cases hn : numV l with
      | none => rw [hn] at h0; cases h0
      | some z =>
        rw [hn] at h0
        simp only at h0 ⊢
        have hz : leastC k ≤ z ∧ z ≤ mostC k := by
          by_cases hi : inZ z (leastC k) (mostC k) = true
          · exact inZ_iff.1 hi
          · rw [if_neg hi] at h0; cases h0
        rcases (by omega : k = 0 ∨ k = 1 ∨ k = 2 ∨ k = 3 ∨ k = 4) with rfl | rfl | rfl | rfl | rfl <;> simp only [leastC, mostC, setC] at hz ⊢ <;> exact ⟨by omega, by omega, by omega, by omega, by omega, ho.2.2.2.2.2.1, by omega, by omega, by omega⟩
theorem goC_ok : ∀ {L : List (List UInt8)} {i : Nat} {met : List Nat} {D : Cfg}, okC D = true → (goC L i met D).2.1 = 0 → okC (goC L i met D).1 = true
  | [], i, met, D, h, _ => h
  | x :: t, i, met, D, h, h0 => by
    rw [goC] at h0 ⊢
    split at h0
    · rename_i hx
      rw [if_pos hx]
      exact goC_ok h h0
    · rename_i hx
      rw [if_neg hx]
      cases hs : splitEq x with
      | none => rw [hs] at h0; cases h0
      | some p =>
        obtain ⟨a, v⟩ := p
        rw [hs] at h0
        simp only at h0 ⊢
        cases hw : wordOf a with
        | none => rw [hw] at h0; cases h0
        | some k =>
          rw [hw] at h0
          simp only at h0 ⊢
          split at h0
          · cases h0
          · rename_i hm
            rw [if_neg hm]
            split at h0
            · rename_i hl
              rw [if_pos hl]
              exact goC_ok (layV_ok (wordOf_lt hw).1 h hl) h0
            · rename_i hl
              exact absurd h0 hl
/-- WHAT IS READ IS RIGHT. -/
theorem readC_ok {l : List UInt8} (h : (readC l).2.1 = 0) : okC (readC l).1 = true := by
  rw [readC] at h ⊢
  split at h
  · cases h
  · rename_i hl
    rw [if_neg hl]
    exact goC_ok okC_usual h
end Go.Proofs.YtnnbhgnllbjmeaaDoor
