/-
  The laws' own helpers on lists of numbers: equal, their size, their copy, their marks.
-/
import Derived.Test.YtekdlkakcclejaaCur
import Derived.Test.YtekdlkakcclejaaU
import Derived.Deep.QuietTactic
import Derived.BigQuiet
import Derived.RegionTactic
namespace Go.Proofs.Ytekdlkakcclejaa
open Go.RowKit

theorem infoInt : (Try.prog.info? 3).map (fun i => (i.zero, i.size, i.bytes)) = some (some (.int .i64 0), 1, 8) := by kernel_rfl

def intCells (zs : List Int) : List Value := zs.map fun z => Value.int .i64 z
theorem intCells_len (a : List Int) : (intCells a).length = a.length := List.length_map _
theorem intCells_at {zs : List Int} {j : Nat} {z : Int} (h : zs[j]? = some z) : (intCells zs)[j]? = some (.int .i64 z) := by
  unfold intCells
  rw [List.getElem?_map, h]
  rfl

/-- v reads as the numbers zs in w. -/
def IntRow (w : World) (v : Value) (zs : List Int) : Prop :=
  (zs = [] ∧ ∃ a c, v = .slice a 0 c) ∨ ∃ b off c, v = .slice (some ⟨b, off, none⟩) zs.length c ∧ zs.length ≤ 9223372036854775807 ∧ zs.length ≤ c ∧ (∀ (j : Nat) z, zs[j]? = some z → w.cell? ⟨b, off + j, none⟩ = some (.int .i64 z))

theorem intRow_of_owns {w : World} {base : Nat} {T : TypeId} {v : Value} {zs : List Int} (h : w.ownsRow base T 1 v zs.length (intCells zs)) (hl : zs.length ≤ 9223372036854775807) : IntRow w v zs := by
  rcases h.2 with ⟨rfl, h0⟩ | ⟨g, cap, cur, rfl, _, _, hnc, _, _, _⟩
  · exact Or.inl ⟨List.eq_nil_of_length_eq_zero h0, _, _, rfl⟩
  · refine Or.inr ⟨g, 0, cap, rfl, hl, hnc, fun j p hj => ?_⟩
    have hjl := (List.getElem?_eq_some_iff.1 hj).1
    rw [Nat.zero_add, h.cellAt j (by omega), intCells_at hj]
theorem IntRow.below {w w' : World} {v : Value} {zs : List Int} (h : IntRow w v zs) (hB : Below w.heap.size w w') : IntRow w' v zs := by
  rcases h with ⟨rfl, a, c, rfl⟩ | ⟨b, off, c, rfl, hl, hcap, hc⟩
  · exact Or.inl ⟨rfl, a, c, rfl⟩
  · refine Or.inr ⟨b, off, c, rfl, hl, hcap, fun j p hp => ?_⟩
    exact (hB.cell (p := ⟨b, off + j, none⟩) (World.block_lt_of_cell? w _ (hc j p hp))).trans (hc j p hp)
theorem intRow_form {w : World} {v : Value} {zs : List Int} (h : IntRow w v zs) : ∃ a c, v = .slice a zs.length c ∧ zs.length ≤ 9223372036854775807 ∧ (∀ (q : Nat) z, zs[q]? = some z → ∃ b off, a = some ⟨b, off, none⟩ ∧ w.cell? ⟨b, off + q, none⟩ = some (.int .i64 z)) := by
  rcases h with ⟨rfl, a, c, rfl⟩ | ⟨b, off, c, rfl, hl, _, hc⟩
  · exact ⟨a, c, rfl, by simp, by simp⟩
  · exact ⟨_, c, rfl, hl, fun q p hp => ⟨b, off, rfl, hc q p hp⟩⟩

set_option maxRecDepth 100000 in
theorem eqI_zero (w : World) (a b : Option Addr) (c d : Nat) :
    Calls Try.prog 23 #[.slice a 0 c, .slice b 0 d] w fun e w' => e = .returned (.bool true) ∧ w = w' := by
  go_enter Try.func23, Try.ntmps23
  go_wp2_with fail
  go_loop [5] (fun i => i = .int .i64 0) (fun _ => 0)
  case atStart => rfl
  case round =>
    subst hrel
    go_wp2_with fail
    go_ret
    exact ⟨rfl, rfl⟩

set_option maxRecDepth 100000 in
set_option maxHeartbeats 1000000 in
theorem eqI_some (w : World) (b1 o1 c1 b2 o2 c2 : Nat) (zs : List Int) (hl : zs.length ≤ 9223372036854775807)
    (h1 : ∀ (j : Nat) z, zs[j]? = some z → w.cell? ⟨b1, o1 + j, none⟩ = some (.int .i64 z)) (h2 : ∀ (j : Nat) z, zs[j]? = some z → w.cell? ⟨b2, o2 + j, none⟩ = some (.int .i64 z)) :
    Calls Try.prog 23 #[.slice (some ⟨b1, o1, none⟩) zs.length c1, .slice (some ⟨b2, o2, none⟩) zs.length c2] w fun e w' => e = .returned (.bool true) ∧ ∃ k, w' = w.drewN k := by
  have H1 := Lib.hid h1
  have H2 := Lib.hid h2
  clear h1 h2
  have HN : Hid (∃ n : Nat, zs.length = n) := ⟨_, rfl⟩
  obtain ⟨n, hn⟩ := HN.out
  rw [hn] at hl ⊢
  have HE := Lib.hid hn
  clear hn HN
  go_enter Try.func23, Try.ntmps23
  go_wp2_with fail
  go_loopw [4, 5] (fun _ i wr => ∃ (k q : Nat), k ≤ n ∧ i = .int .i64 k ∧ wr = w.drewN q) (fun _ i _ => n - (intOf i).toNat)
  case atStart => exact ⟨0, 0, Nat.zero_le _, rfl, rfl⟩
  case round =>
    obtain ⟨k, q, hk, rfl, rfl⟩ := hrel
    by_cases hlt : k < n
    · have hk1 : (k : Int) < n := by omega
      have hk0 : (0 : Int) ≤ k := by omega
      obtain ⟨p, hp⟩ : ∃ p, zs[k]? = some p := ⟨_, List.getElem?_eq_getElem (by rw [HE.out]; exact hlt)⟩
      have hc1 := H1.out k p hp
      have hc2 := H2.out k p hp
      have HP := Lib.hid hp
      clear hp
      go_wp2_with fail
      go_quiet (fail)
      go_wp2_with fail
      go_roundw
      case rel => exact ⟨k + 1, _, by omega, by go_num, rfl⟩
      case measure => simp [intOf]; omega
    · have hk1 : ¬ (k : Int) < n := by omega
      go_wp2_with fail
      go_ret
      exact ⟨rfl, q, rfl⟩

/-- TWO LISTS OF NUMBERS THAT READ ALIKE ARE EQUAL. -/
theorem eqI (w : World) (v1 v2 : Value) (zs : List Int) (h1 : IntRow w v1 zs) (h2 : IntRow w v2 zs) :
    Calls Try.prog 23 #[v1, v2] w fun e w' => e = .returned (.bool true) ∧ ∃ k, w' = w.drewN k := by
  rcases h1 with ⟨rfl, a, c, rfl⟩ | ⟨b1, o1, c1, rfl, hl, _, h1⟩
  · rcases h2 with ⟨_, b, d, rfl⟩ | ⟨b2, o2, c2, rfl, _, _, _⟩
    · exact (eqI_zero w a b c d).mono fun e w' ⟨he, hw⟩ => ⟨he, 0, hw ▸ rfl⟩
    · exact (eqI_zero w a _ c c2).mono fun e w' ⟨he, hw⟩ => ⟨he, 0, hw ▸ rfl⟩
  · rcases h2 with ⟨rfl, b, d, rfl⟩ | ⟨b2, o2, c2, rfl, _, _, h2⟩
    · exact (eqI_zero w _ b c1 d).mono fun e w' ⟨he, hw⟩ => ⟨he, 0, hw ▸ rfl⟩
    · exact eqI_some w b1 o1 c1 b2 o2 c2 zs hl h1 h2

theorem ret_intI {a b : Int} (h : a = b) : Ending.returned (.int .i64 a) = .returned (.int .i64 b) := by rw [h]

/-- The first j cells of a row are the numbers zs. -/
def FilledI (w : World) (base : Nat) (v : Value) (n : Nat) (zs : List Int) (j : Nat) : Prop := ∃ xs : List Value, w.ownsRow base 3 1 v n xs ∧ ∀ i p, i < j → zs[i]? = some p → xs[i]? = some (.int .i64 p)
theorem FilledI.cell {w : World} {base g cap : Nat} {n j : Nat} {zs : List Int} (h : FilledI w base (.slice (some ⟨g, 0, none⟩) n cap) n zs j) {i : Nat} (hi : i < n) : (∃ x, w.cell? ⟨g, i, none⟩ = some x) ∧ w.frozen? ⟨g, i, none⟩ = false := by
  obtain ⟨xs, ho, hx⟩ := h
  have hxl := ho.1
  refine ⟨⟨xs[i]'(by omega), ?_⟩, ho.frozenAt i⟩
  rw [ho.cellAt i (by omega), List.getElem?_eq_getElem (by omega)]
theorem FilledI.store {w : World} {base g cap : Nat} {n j : Nat} {zs : List Int} {p : Int} (h : FilledI w base (.slice (some ⟨g, 0, none⟩) n cap) n zs j) (hj : j < n) (hp : zs[j]? = some p) :
    FilledI (w.setCell ⟨g, j, none⟩ (.int .i64 p)) base (.slice (some ⟨g, 0, none⟩) n cap) n zs (j + 1) ∧ w.grownBy (w.setCell ⟨g, j, none⟩ (.int .i64 p)) (some g) := by
  obtain ⟨xs, ho, hx⟩ := h
  have hs := ho.stored j (.int .i64 p)
  have hxl := ho.1
  refine ⟨⟨_, hs.1, fun i q hi hq => ?_⟩, hs.2⟩
  rw [List.getElem?_set]
  by_cases e : j = i
  · subst e
    rw [hp] at hq
    obtain rfl := Option.some.inj hq
    rw [if_pos rfl, if_pos (by omega)]
  · rw [if_neg e]
    exact hx i q (by omega) hq
theorem FilledI.done {w : World} {base : Nat} {v : Value} {zs : List Int} (h : FilledI w base v zs.length zs zs.length) : w.ownsRow base 3 1 v zs.length (intCells zs) := by
  obtain ⟨xs, ho, hx⟩ := h
  have e : xs = intCells zs := by
    refine List.ext_getElem? fun i => ?_
    have hxl := ho.1
    by_cases hi : i < zs.length
    · rw [hx i zs[i] hi (List.getElem?_eq_getElem hi), intCells_at (List.getElem?_eq_getElem hi)]
    · rw [List.getElem?_eq_none (by omega), List.getElem?_eq_none (by rw [intCells_len]; omega)]
  rw [e] at ho
  exact ho

set_option maxRecDepth 100000 in
set_option maxHeartbeats 1000000 in
theorem toI_some (w : World) (b off c : Nat) (zs : List Int) (hl : zs.length ≤ 1048576)
    (hc : ∀ (j : Nat) p, zs[j]? = some p → w.cell? ⟨b, off + j, none⟩ = some (.int .i64 p)) :
    Calls Try.prog 22 #[.slice (some ⟨b, off, none⟩) zs.length c] w fun e w' => ∃ v, e = .returned v ∧ w'.ownsRow w.heap.size 3 1 v zs.length (intCells zs) ∧ Below w.heap.size w w' := by
  obtain ⟨i0, hi, hz0, hz1, hz2⟩ := info_parts infoInt
  have HC := Lib.hid hc
  clear hc
  have HF : Hid (∀ (w' : World) (v : Value) (n : Nat), zs.length = n → FilledI w' w.heap.size v n zs n → w'.ownsRow w.heap.size 3 1 v n (intCells zs)) := fun w' v n hn h => by
    subst hn; exact h.done
  obtain ⟨n, hn⟩ : ∃ n : Nat, zs.length = n := ⟨_, rfl⟩
  rw [hn] at hl ⊢
  have HE := Lib.hid hn
  clear hn
  go_enter Try.func22, Try.ntmps22
  go_wp2_with (at_make; refine wpList_make_full _ rfl _ _ 24 rfl w.heap.size 3 i0 (.int .i64 0) 1 Try.underlying24 hi hz0 hz1 .i64 .i64 _ _ n rfl rfl rfl rfl ?c1 ?c2 ?c3 ?_)
  case c1 => rw [hz2]; omega
  case c2 => unfold maxLen; omega
  case c3 => exact Nat.le_refl _
  intro w1 hown hg1
  have hB1 : Below w.heap.size w w1 := (Below.refl w.heap.size w).grown hg1 (Nat.le_refl _) (fun k hk => by cases hk)
  have hF1 : FilledI w1 w.heap.size (.slice (some ⟨w.heap.size, 0, none⟩) n n) n zs 0 := ⟨_, hown, fun i p hi => by omega⟩
  clear hown hg1
  go_wp2_with fail
  go_loopw [4] (fun i wr => ∃ (j : Nat), j ≤ n ∧ i = .int .i64 j ∧ FilledI wr w.heap.size (.slice (some ⟨w.heap.size, 0, none⟩) n n) n zs j ∧ Below w.heap.size w wr) (fun i _ => n - (intOf i).toNat)
  case atStart => exact ⟨0, Nat.zero_le _, rfl, hF1, hB1⟩
  case round =>
    obtain ⟨j, hj, rfl, hF, hB⟩ := hrel
    by_cases hlt : j < n
    · have hj1 : (j : Int) < n := by omega
      have hj0 : (0 : Int) ≤ j := by omega
      obtain ⟨p, hp⟩ : ∃ p, zs[j]? = some p := ⟨_, List.getElem?_eq_getElem (by rw [HE.out]; exact hlt)⟩
      have hcj0 := HC.out j p hp
      have hcj := (hB.cell (p := ⟨b, off + j, none⟩) (World.block_lt_of_cell? w _ hcj0)).trans hcj0
      obtain ⟨⟨x, hcx⟩, hfx⟩ := hF.cell hlt
      have HS := Lib.hid (hF.store hlt hp).1
      have HB := Lib.hid (hB.setCell (p := ⟨w.heap.size, j, none⟩) (Nat.le_refl _) (.int .i64 p))
      clear hF hp hcj0 hB hF1 hB1
      go_wp2_with fail
      go_roundw
      case rel => exact ⟨j + 1, by omega, by go_num, HS.out, HB.out⟩
      case measure => simp [intOf]; omega
    · obtain rfl : j = n := by omega
      have hj1 : ¬ (j : Int) < j := by omega
      go_wp2_with fail
      go_ret
      exact ⟨_, rfl, HF.out _ _ _ HE.out hF, hB⟩
set_option maxRecDepth 100000 in
theorem toI_zero (w : World) (a : Option Addr) (c : Nat) :
    Calls Try.prog 22 #[.slice a 0 c] w fun e w' => ∃ v, e = .returned v ∧ w'.ownsRow w.heap.size 3 1 v 0 [] ∧ Below w.heap.size w w' := by
  obtain ⟨i0, hi, hz0, hz1, hz2⟩ := info_parts infoInt
  go_enter Try.func22, Try.ntmps22
  go_wp2_with (at_make; refine wpList_make_full _ rfl _ _ 24 rfl w.heap.size 3 i0 (.int .i64 0) 1 Try.underlying24 hi hz0 hz1 .i64 .i64 _ _ 0 rfl rfl rfl rfl ?c1 ?c2 ?c3 ?_)
  case c1 => omega
  case c2 => unfold maxLen; omega
  case c3 => exact Nat.le_refl _
  intro w1 hown hg1
  have hB1 : Below w.heap.size w w1 := (Below.refl w.heap.size w).grown hg1 (Nat.le_refl _) (fun k hk => by cases hk)
  have hown0 : w1.ownsRow w.heap.size 3 1 (.slice (some ⟨w.heap.size, 0, none⟩) 0 0) 0 [] := by simpa [madeCells] using hown
  clear hg1 hown
  go_wp2_with fail
  go_loop [4] (fun i => i = .int .i64 0) (fun _ => 0)
  case atStart => rfl
  case round =>
    subst hrel
    go_wp2_with fail
    go_ret
    exact ⟨_, rfl, hown0, hB1⟩
/-- THE COPY OF A LIST OF NUMBERS. -/
theorem toI (w : World) (v : Value) (zs : List Int) (h : IntRow w v zs) (hl : zs.length ≤ 1048576) :
    Calls Try.prog 22 #[v] w fun e w' => ∃ v, e = .returned v ∧ w'.ownsRow w.heap.size 3 1 v zs.length (intCells zs) ∧ Below w.heap.size w w' := by
  rcases h with ⟨rfl, a, c, rfl⟩ | ⟨b, off, c, rfl, _, _, hc⟩
  · exact toI_zero w a c
  · exact toI_some w b off c zs hl hc

/-- The marks of numbers from k on, j of them. -/
def marksI (k j : Nat) : List Int := (List.range j).map fun i => ((k + i : Nat) : Int)
theorem marksI_len (k j : Nat) : (marksI k j).length = j := by simp [marksI]
theorem marksI_at {k j i : Nat} (h : i < j) : (marksI k j)[i]? = some ((k + i : Nat) : Int) := by simp [marksI, h]
theorem FilledI.below {w w' : World} {base n j : Nat} {v : Value} {zs : List Int} (h : FilledI w base v n zs j) (hB : Below w.heap.size w w') : FilledI w' base v n zs j := by
  obtain ⟨xs, ho, hx⟩ := h
  exact ⟨xs, ho.kept (row := none) ⟨hB.os, hB.tape, hB.output, hB.size, fun k hk _ => hB.block k hk⟩ (by cases hv : v.ownBlock <;> simp), hx⟩

set_option maxRecDepth 100000 in
set_option maxHeartbeats 1000000 in
theorem markI_some (w : World) (base g n cap k : Nat) (xs : List Value) (hown : w.ownsRow base 3 1 (.slice (some ⟨g, 0, none⟩) n cap) n xs) (hl : n ≤ 140737488355328) (hkl : k ≤ 140737488355328) :
    Calls Try.prog 24 #[.slice (some ⟨g, 0, none⟩) n cap, .int .i64 k] w fun e w' => e = .returned (.int .i64 ((k : Int) + n)) ∧ FilledI w' base (.slice (some ⟨g, 0, none⟩) n cap) n (marksI k n) n ∧ w.grownBy w' (some g) := by
  go_enter Try.func24, Try.ntmps24
  go_wp2_with fail
  go_loopw [1, 5] (fun q i wr => ∃ (j : Nat), j ≤ n ∧ i = .int .i64 j ∧ q = .int .i64 ((k : Int) + j) ∧ FilledI wr base (.slice (some ⟨g, 0, none⟩) n cap) n (marksI k n) j ∧ w.grownBy wr (some g)) (fun _ i _ => n - (intOf i).toNat)
  case atStart => exact ⟨0, Nat.zero_le _, rfl, by simp, ⟨xs, hown, fun i p hi => by omega⟩, grownBy_refl _ _⟩
  case round =>
    obtain ⟨j, hj, rfl, rfl, hF, hg⟩ := hrel
    by_cases hlt : j < n
    · have hj1 : (j : Int) < n := by omega
      have hj0 : (0 : Int) ≤ j := by omega
      obtain ⟨⟨x, hcx⟩, hfx⟩ := hF.cell hlt
      have hS := hF.store hlt (marksI_at hlt)
      rw [show ((k + j : Nat) : Int) = (k : Int) + j by omega] at hS
      have HS := Lib.hid hS.1
      have HG := Lib.hid (grownBy_trans hg hS.2)
      clear hS hF hg
      go_wp2_with fail
      go_roundw
      case rel => exact ⟨j + 1, by omega, by go_num, by go_num, HS.out, HG.out⟩
      case measure => simp [intOf]; omega
    · obtain rfl : j = n := by omega
      have hj1 : ¬ (j : Int) < j := by omega
      go_wp2_with fail
      go_ret
      exact ⟨rfl, hF, hg⟩
set_option maxRecDepth 100000 in
theorem markI_nil (w : World) (c k : Nat) :
    Calls Try.prog 24 #[.slice none 0 c, .int .i64 k] w fun e w' => e = .returned (.int .i64 k) ∧ w = w' := by
  go_enter Try.func24, Try.ntmps24
  go_wp2_with fail
  go_loop [1, 5] (fun q i => q = .int .i64 k ∧ i = .int .i64 0) (fun _ _ => 0)
  case atStart => exact ⟨rfl, rfl⟩
  case round =>
    obtain ⟨rfl, rfl⟩ := hrel
    go_wp2_with fail
    go_ret
    exact ⟨rfl, rfl⟩
/-- MARKING NUMBERS OF THE CALL's OWN. -/
theorem markI (w : World) (base n k : Nat) (v : Value) (xs : List Value) (hown : w.ownsRow base 3 1 v n xs) (hl : n ≤ 140737488355328) (hkl : k ≤ 140737488355328) :
    Calls Try.prog 24 #[v, .int .i64 k] w fun e w' => e = .returned (.int .i64 ((k : Int) + n)) ∧ w'.ownsRow base 3 1 v n (intCells (marksI k n)) ∧ w.grownBy w' v.ownBlock := by
  have hdone : ∀ (w' : World) (v : Value), FilledI w' base v n (marksI k n) n → w'.ownsRow base 3 1 v n (intCells (marksI k n)) := fun w' v h => by
    have hn := marksI_len k n
    have h2 : FilledI w' base v (marksI k n).length (marksI k n) (marksI k n).length := by rw [hn]; exact h
    have h3 := h2.done
    rw [hn] at h3
    exact h3
  rcases hown.2 with ⟨rfl, rfl⟩ | ⟨g, cap, cur, rfl, _⟩
  · exact (markI_nil w 0 k).mono fun e w' ⟨he, hw⟩ => ⟨by rw [he]; simp, hw ▸ by simpa [marksI, intCells] using World.ownsRow_nil w base 3 1, hw ▸ grownBy_refl _ _⟩
  · exact (markI_some w base g n cap k xs hown hl hkl).mono fun e w' ⟨he, hF, hg⟩ => ⟨he, hdone w' _ hF, hg⟩

set_option maxRecDepth 100000 in
set_option maxHeartbeats 1000000 in
theorem heldI_some (w : World) (b off c n k : Nat) (hl : n ≤ 140737488355328) (hkl : k ≤ 140737488355328)
    (hc : ∀ j, j < n → w.cell? ⟨b, off + j, none⟩ = some (.int .i64 ((k : Int) + j))) :
    Calls Try.prog 25 #[.slice (some ⟨b, off, none⟩) n c, .int .i64 k] w fun e w' => e = .returned (.int .i64 ((k : Int) + n)) ∧ ∃ q, w' = w.drewN q := by
  have HC := Lib.hid hc
  clear hc
  go_enter Try.func25, Try.ntmps25
  go_wp2_with fail
  go_loopw [1, 4, 5] (fun q _ i wr => ∃ (j z : Nat), j ≤ n ∧ i = .int .i64 j ∧ q = .int .i64 ((k : Int) + j) ∧ wr = w.drewN z) (fun _ _ i _ => n - (intOf i).toNat)
  case atStart => exact ⟨0, 0, Nat.zero_le _, rfl, by simp, rfl⟩
  case round =>
    obtain ⟨j, z, hj, rfl, rfl, rfl⟩ := hrel
    by_cases hlt : j < n
    · have hj1 : (j : Int) < n := by omega
      have hj0 : (0 : Int) ≤ j := by omega
      have hcj := HC.out j hlt
      go_wp2_with fail
      go_roundw
      case rel => exact ⟨j + 1, _, by omega, by go_num, by go_num, rfl⟩
      case measure => simp [intOf]; omega
    · obtain rfl : j = n := by omega
      have hj1 : ¬ (j : Int) < j := by omega
      go_wp2_with fail
      go_ret
      exact ⟨rfl, z, rfl⟩
set_option maxRecDepth 100000 in
theorem heldI_zero (w : World) (a : Option Addr) (c k : Nat) :
    Calls Try.prog 25 #[.slice a 0 c, .int .i64 k] w fun e w' => e = .returned (.int .i64 k) ∧ w = w' := by
  go_enter Try.func25, Try.ntmps25
  go_wp2_with fail
  go_loop [1, 4, 5] (fun q _ i => q = .int .i64 k ∧ i = .int .i64 0) (fun _ _ _ => 0)
  case atStart => exact ⟨rfl, rfl⟩
  case round =>
    obtain ⟨rfl, rfl⟩ := hrel
    go_wp2_with fail
    go_ret
    exact ⟨rfl, rfl⟩
/-- THE MARKS OF NUMBERS ARE HELD. -/
theorem heldI (w : World) (v : Value) (n k : Nat) (h : IntRow w v (marksI k n)) (hkl : k ≤ 140737488355328) (hnl : n ≤ 140737488355328) :
    Calls Try.prog 25 #[v, .int .i64 k] w fun e w' => e = .returned (.int .i64 ((k : Int) + n)) ∧ ∃ q, w' = w.drewN q := by
  have hn := marksI_len k n
  rcases h with ⟨h0, a, c, rfl⟩ | ⟨b, off, c, rfl, hl, _, hc⟩
  · rw [h0] at hn
    have hn0 : n = 0 := by simpa using hn.symm
    subst hn0
    exact (heldI_zero w a c k).mono fun e w' ⟨he, hw⟩ => ⟨by rw [he]; simp, 0, hw ▸ rfl⟩
  · rw [hn] at hl ⊢
    exact heldI_some w b off c n k hnl hkl (fun j hj => by
      rw [hc j _ (marksI_at hj)]
      congr 2)
end Go.Proofs.Ytekdlkakcclejaa
