/-
  The laws' own helpers on lists of texts: equal, marked, held.
-/
import Derived.Test.YtlhfnmcjolonfaaDoorPartsW
import Derived.Test.YtlhfnmcjolonfaaDoorDigW
import Derived.Deep.RegionHeld3
namespace Go.Proofs.YtlhfnmcjolonfaaDoor
open Go.RowKit

/-- v reads as the texts ps in w. -/
def StrRow (w : World) (v : Value) (ps : List (List UInt8)) : Prop :=
  (ps = [] ∧ ∃ a c, v = .slice a 0 c) ∨ ∃ b off c, v = .slice (some ⟨b, off, none⟩) ps.length c ∧ ps.length ≤ 140737488355328 ∧ ∀ (j : Nat) p, ps[j]? = some p → w.cell? ⟨b, off + j, none⟩ = some (.string ⟨p.toArray⟩)

theorem strRow_of_owns {w : World} {base : Nat} {T : TypeId} {v : Value} {ps : List (List UInt8)} (h : w.ownsRow base T 1 v ps.length (strCells ps)) (hl : ps.length ≤ 140737488355328) : StrRow w v ps := by
  rcases h.2 with ⟨rfl, h0⟩ | ⟨g, cap, cur, rfl, _, _, _, _, _, _⟩
  · exact Or.inl ⟨List.eq_nil_of_length_eq_zero h0, _, _, rfl⟩
  · refine Or.inr ⟨g, 0, cap, rfl, hl, fun j p hj => ?_⟩
    have hjl := (List.getElem?_eq_some_iff.1 hj).1
    rw [Nat.zero_add, h.cellAt j (by omega)]
    unfold strCells
    rw [List.getElem?_map, hj]
    rfl

set_option maxRecDepth 100000 in
theorem eqStr_zero (w : World) (a b : Option Addr) (c d : Nat) :
    Calls Tryd.prog 22 #[.slice a 0 c, .slice b 0 d] w fun e w' => e = .returned (.bool true) ∧ w = w' := by
  go_enter Tryd.func22, Tryd.ntmps22
  go_wp2_with fail
  go_loop [5] (fun i => i = .int .i64 0) (fun _ => 0)
  case atStart => rfl
  case round =>
    subst hrel
    go_wp2_with fail
    go_ret
    exact ⟨rfl, rfl⟩

set_option maxRecDepth 100000 in
set_option maxHeartbeats 1000000 in
theorem eqStr_some (w : World) (b1 o1 c1 b2 o2 c2 : Nat) (ps : List (List UInt8)) (hl : ps.length ≤ 140737488355328)
    (h1 : ∀ (j : Nat) p, ps[j]? = some p → w.cell? ⟨b1, o1 + j, none⟩ = some (.string ⟨p.toArray⟩)) (h2 : ∀ (j : Nat) p, ps[j]? = some p → w.cell? ⟨b2, o2 + j, none⟩ = some (.string ⟨p.toArray⟩)) :
    Calls Tryd.prog 22 #[.slice (some ⟨b1, o1, none⟩) ps.length c1, .slice (some ⟨b2, o2, none⟩) ps.length c2] w fun e w' => e = .returned (.bool true) ∧ ∃ k, w' = w.drewN k := by
  have H1 := Lib.hid h1
  have H2 := Lib.hid h2
  clear h1 h2
  have HN : Hid (∃ n : Nat, ps.length = n) := ⟨_, rfl⟩
  obtain ⟨n, hn⟩ := HN.out
  rw [hn] at hl ⊢
  have HE := Lib.hid hn
  clear hn HN
  go_enter Tryd.func22, Tryd.ntmps22
  go_wp2_with fail
  go_loopw [4, 5] (fun _ i wr => ∃ (k q : Nat), k ≤ n ∧ i = .int .i64 k ∧ wr = w.drewN q) (fun _ i _ => n - (intOf i).toNat)
  case atStart => exact ⟨0, 0, Nat.zero_le _, rfl, rfl⟩
  case round =>
    obtain ⟨k, q, hk, rfl, rfl⟩ := hrel
    by_cases hlt : k < n
    · have hk1 : (k : Int) < n := by omega
      have hk0 : (0 : Int) ≤ k := by omega
      obtain ⟨p, hp⟩ : ∃ p, ps[k]? = some p := ⟨_, List.getElem?_eq_getElem (by rw [HE.out]; exact hlt)⟩
      have hc1 := H1.out k p hp
      have hc2 := H2.out k p hp
      have HP := Lib.hid hp
      clear hp
      go_wp2_with fail
      go_quiet (fail)
      go_wp2_with fail
      go_roundw
      case rel => exact ⟨k + 1, _, by omega, by go_num, rfl⟩
      case measure => simp [intOf]; omega
    · have hk1 : ¬ (k : Int) < n := by omega
      go_wp2_with fail
      go_ret
      exact ⟨rfl, q, rfl⟩

/-- TWO LISTS THAT READ ALIKE ARE EQUAL. -/
theorem eqStr (w : World) (v1 v2 : Value) (ps : List (List UInt8)) (h1 : StrRow w v1 ps) (h2 : StrRow w v2 ps) :
    Calls Tryd.prog 22 #[v1, v2] w fun e w' => e = .returned (.bool true) ∧ ∃ k, w' = w.drewN k := by
  rcases h1 with ⟨rfl, a, c, rfl⟩ | ⟨b1, o1, c1, rfl, hl, h1⟩
  · rcases h2 with ⟨_, b, d, rfl⟩ | ⟨b2, o2, c2, rfl, _, _⟩
    · exact (eqStr_zero w a b c d).mono fun e w' ⟨he, hw⟩ => ⟨he, 0, hw ▸ rfl⟩
    · exact (eqStr_zero w a _ c c2).mono fun e w' ⟨he, hw⟩ => ⟨he, 0, hw ▸ rfl⟩
  · rcases h2 with ⟨rfl, b, d, rfl⟩ | ⟨b2, o2, c2, rfl, _, h2⟩
    · exact (eqStr_zero w _ b c1 d).mono fun e w' ⟨he, hw⟩ => ⟨he, 0, hw ▸ rfl⟩
    · exact eqStr_some w b1 o1 c1 b2 o2 c2 ps hl h1 h2

/-- The k-th mark. -/
def markOf (k : Nat) : List UInt8 := 109 :: Lib.decDigits k

set_option maxRecDepth 100000 in
set_option maxHeartbeats 1000000 in
theorem markText (u : Nat) (hu : u ≠ 0) (hb : u ≤ 9223372036854775807) (w : World) :
    Calls Tryd.prog 38 #[.int .i64 u] w fun e w' => e = .returned (.string ⟨(markOf u).toArray⟩) ∧ Below w.heap.size w w' := by
  have hz : ¬ ((u : Int) ≤ 0) := by omega
  go_enter Tryd.func38, Tryd.ntmps38
  go_wp2_with fail
  go_loopw [0, 3] (fun n o wr => ∃ (v : Nat) (l : List UInt8), v ≤ u ∧ n = .int .i64 v ∧ o = .string ⟨l.toArray⟩ ∧ DigInv u v l ∧ Below w.heap.size w wr) (fun n _ _ => (intOf n).toNat)
  case atStart => exact ⟨u, [], Nat.le_refl _, rfl, rfl, digInv_start hu, Below.refl _ _⟩
  case round =>
    obtain ⟨v, l, hv, rfl, rfl, hI, hB⟩ := hrel
    have hlen := digInv_len hI
    have hdec := decDigits_len (u := u) (by omega)
    have hsum : 1 + l.length ≤ 9223372036854775807 := by omega
    by_cases h0 : v = 0
    · have hz0 : ¬ (0 : Int) < v := by omega
      have H0 := Lib.hid h0
      clear h0
      go_wp2_with fail
      go_ret
      exact ⟨ret_add (by rw [digInv_done hI H0.out]; rfl), hB⟩
    · have hI2 := digInv_step hI h0
      have hz0 : (0 : Int) < v := by omega
      have kc := conv_one Tryd.underlying22 Tryd.underlying5 Tryd.underlying9 (48 + v % 10) (by omega) (48 + (v : Int) % 10) (by omega) 1
      go_wp2_with fail
      go_roundw
      case rel => exact ⟨v / 10, _, by omega, by go_num, rfl, by simpa using hI2, hB.alloc hB.size _⟩
      case measure => simp [intOf]; omega

theorem markTextI (z : Int) (u : Nat) (hz : z = u) (hu : u ≠ 0) (hb : u ≤ 9223372036854775807) (w : World) :
    Calls Tryd.prog 38 #[.int .i64 z] w fun e w' => e = .returned (.string ⟨(markOf u).toArray⟩) ∧ Below w.heap.size w w' := by
  subst hz
  exact markText u hu hb w

theorem grown_of_below {w w' : World} (h : Below w.heap.size w w') (r : Option Nat) : w.grownBy w' r := ⟨h.os, h.tape, h.output, h.size, fun k hk _ => h.block k hk⟩

/-- The marks from k on, j of them. -/
def marks (k j : Nat) : List (List UInt8) := (List.range j).map fun i => markOf (k + i)
theorem marks_len (k j : Nat) : (marks k j).length = j := by simp [marks]
theorem marks_at {k j i : Nat} (h : i < j) : (marks k j)[i]? = some (markOf (k + i)) := by simp [marks, h]

/-- j of the row's cells are marked, the others are as they were. -/
def Marked (w : World) (base : Nat) (T : TypeId) (v : Value) (n k j : Nat) : Prop := ∃ xs : List Value, w.ownsRow base T 1 v n xs ∧ ∀ i, i < j → xs[i]? = some (.string ⟨(markOf (k + i)).toArray⟩)

theorem strRow_of_marked {w : World} {base : Nat} {T : TypeId} {v : Value} {n k : Nat} (h : Marked w base T v n k n) (hl : n ≤ 140737488355328) : StrRow w v (marks k n) := by
  obtain ⟨xs, ho, hx⟩ := h
  have e : xs = strCells (marks k n) := by
    refine List.ext_getElem? fun i => ?_
    by_cases hi : i < n
    · rw [hx i hi, strCells, List.getElem?_map, marks_at hi]; rfl
    · have hxl := ho.1
      rw [List.getElem?_eq_none (by omega), List.getElem?_eq_none (by rw [strCells_len, marks_len]; omega)]
  rw [e] at ho
  have hn := marks_len k n
  refine strRow_of_owns (base := base) (T := T) ?_ (by omega)
  rw [hn]
  exact ho

theorem Marked.below {w w' : World} {base : Nat} {T : TypeId} {v : Value} {n k j : Nat} (h : Marked w base T v n k j) (hB : Below w.heap.size w w') : Marked w' base T v n k j := by
  obtain ⟨xs, ho, hx⟩ := h
  exact ⟨xs, ho.kept (grown_of_below hB none) (by cases hv : v.ownBlock <;> simp), hx⟩
theorem Marked.store {w : World} {base g cap : Nat} {T : TypeId} {n k j : Nat} (h : Marked w base T (.slice (some ⟨g, 0, none⟩) n cap) n k j) (hj : j < n) :
    Marked (w.setCell ⟨g, j, none⟩ (.string ⟨(markOf (k + j)).toArray⟩)) base T (.slice (some ⟨g, 0, none⟩) n cap) n k (j + 1) ∧ w.grownBy (w.setCell ⟨g, j, none⟩ (.string ⟨(markOf (k + j)).toArray⟩)) (some g) := by
  obtain ⟨xs, ho, hx⟩ := h
  have hs := ho.stored j (.string ⟨(markOf (k + j)).toArray⟩)
  refine ⟨⟨_, hs.1, fun i hi => ?_⟩, hs.2⟩
  have hxl := ho.1
  rw [List.getElem?_set]
  by_cases e : j = i
  · subst e
    rw [if_pos rfl, if_pos (by omega)]
  · rw [if_neg e]
    exact hx i (by omega)
theorem Marked.cell {w : World} {base g cap : Nat} {T : TypeId} {n k j : Nat} (h : Marked w base T (.slice (some ⟨g, 0, none⟩) n cap) n k j) {i : Nat} (hi : i < n) : (∃ x, w.cell? ⟨g, i, none⟩ = some x) ∧ w.frozen? ⟨g, i, none⟩ = false := by
  obtain ⟨xs, ho, hx⟩ := h
  have hxl := ho.1
  refine ⟨⟨xs[i]'(by omega), ?_⟩, ho.frozenAt i⟩
  rw [ho.cellAt i (by omega), List.getElem?_eq_getElem (by omega)]

set_option maxRecDepth 100000 in
set_option maxHeartbeats 1000000 in
theorem markStr_some (w : World) (base g n cap k : Nat) (xs : List Value) (hown : w.ownsRow base 9 1 (.slice (some ⟨g, 0, none⟩) n cap) n xs) (hk : 1 ≤ k) (hl : n ≤ 140737488355328) (hkl : k ≤ 140737488355328) :
    Calls Tryd.prog 23 #[.slice (some ⟨g, 0, none⟩) n cap, .int .i64 k] w fun e w' => e = .returned (.int .i64 ((k : Int) + n)) ∧ Marked w' base 9 (.slice (some ⟨g, 0, none⟩) n cap) n k n ∧ w.grownBy w' (some g) := by
  go_enter Tryd.func23, Tryd.ntmps23
  go_wp2_with fail
  go_loopw [1, 5] (fun q i wr => ∃ (j : Nat), j ≤ n ∧ i = .int .i64 j ∧ q = .int .i64 ((k : Int) + j) ∧ Marked wr base 9 (.slice (some ⟨g, 0, none⟩) n cap) n k j ∧ w.grownBy wr (some g)) (fun _ i _ => n - (intOf i).toNat)
  case atStart => exact ⟨0, Nat.zero_le _, rfl, by simp, ⟨xs, hown, fun i hi => by omega⟩, grownBy_refl _ _⟩
  case round =>
    obtain ⟨j, hj, rfl, rfl, hM, hg⟩ := hrel
    by_cases hlt : j < n
    · have hj1 : (j : Int) < n := by omega
      have hj0 : (0 : Int) ≤ j := by omega
      go_wp2_with fail
      refine (markTextI ((k : Int) + j) (k + j) (by omega) (by omega) (by omega) _).mono ?_
      rintro e w1 ⟨rfl, hB1⟩
      have hM1 := hM.below hB1
      obtain ⟨⟨x, hcx⟩, hfx⟩ := hM1.cell hlt
      have hS := hM1.store hlt
      have hg1 := grownBy_trans (grownBy_trans hg (grown_of_below hB1 (some g))) hS.2
      have HM := Lib.hid hS.1
      have HG := Lib.hid hg1
      clear hS hg1 hM1 hM hg
      go_wp2_with fail
      go_roundw
      case rel => exact ⟨j + 1, by omega, by go_num, by go_num, HM.out, HG.out⟩
      case measure => simp [intOf]; omega
    · obtain rfl : j = n := by omega
      have hj1 : ¬ (j : Int) < j := by omega
      go_wp2_with fail
      go_ret
      exact ⟨rfl, hM, hg⟩

set_option maxRecDepth 100000 in
theorem markStr_nil (w : World) (c k : Nat) :
    Calls Tryd.prog 23 #[.slice none 0 c, .int .i64 k] w fun e w' => e = .returned (.int .i64 k) ∧ w = w' := by
  go_enter Tryd.func23, Tryd.ntmps23
  go_wp2_with fail
  go_loop [1, 5] (fun q i => q = .int .i64 k ∧ i = .int .i64 0) (fun _ _ => 0)
  case atStart => exact ⟨rfl, rfl⟩
  case round =>
    obtain ⟨rfl, rfl⟩ := hrel
    go_wp2_with fail
    go_ret
    exact ⟨rfl, rfl⟩

/-- MARKING A ROW OF THE CALL's OWN. -/
theorem markStr (w : World) (base n k : Nat) (v : Value) (xs : List Value) (hown : w.ownsRow base 9 1 v n xs) (hk : 1 ≤ k) (hl : n ≤ 140737488355328) (hkl : k ≤ 140737488355328) :
    Calls Tryd.prog 23 #[v, .int .i64 k] w fun e w' => e = .returned (.int .i64 ((k : Int) + n)) ∧ Marked w' base 9 v n k n ∧ w.grownBy w' v.ownBlock := by
  have ho := hown
  rcases hown.2 with ⟨rfl, rfl⟩ | ⟨g, cap, cur, rfl, _⟩
  · exact (markStr_nil w 0 k).mono fun e w' ⟨he, hw⟩ => ⟨by rw [he]; simp, ⟨xs, hw ▸ ho, fun i hi => by omega⟩, hw ▸ grownBy_refl _ _⟩
  · exact markStr_some w base g n cap k xs ho hk hl hkl

theorem markTextS (W0 : World) (b o : Nat) (x : Value) (z : Int) (u : Nat) (hz : z = u) (hu : u ≠ 0) (hb : u ≤ 9223372036854775807) (w : World) (h : w.cell? ⟨b, o, none⟩ = some x ∧ Below W0.heap.size W0 w) :
    Calls Tryd.prog 38 #[.int .i64 z] w fun e w' => e = .returned (.string ⟨(markOf u).toArray⟩) ∧ w'.cell? ⟨b, o, none⟩ = some x ∧ Below W0.heap.size W0 w' := by
  refine (markTextI z u hz hu hb w).mono fun e w' ⟨he, hB⟩ => ⟨he, ?_, h.2.trans (hB.mono h.2.size)⟩
  exact (hB.cell (p := ⟨b, o, none⟩) (World.block_lt_of_cell? w _ h.1)).trans h.1

set_option maxRecDepth 100000 in
set_option maxHeartbeats 2000000 in
theorem heldStr_some (w : World) (b off c n k : Nat) (hk : 1 ≤ k) (hl : n ≤ 140737488355328) (hkl : k ≤ 140737488355328) (hb : b < w.heap.size)
    (hc : ∀ j, j < n → w.cell? ⟨b, off + j, none⟩ = some (.string ⟨(markOf (k + j)).toArray⟩)) :
    Calls Tryd.prog 24 #[.slice (some ⟨b, off, none⟩) n c, .int .i64 k] w fun e w' => e = .returned (.int .i64 ((k : Int) + n)) ∧ Below w.heap.size w w' := by
  have HC := Lib.hid hc
  clear hc
  go_enter Tryd.func24, Tryd.ntmps24
  go_wp2_with fail
  go_loopw [1, 4, 5] (fun q _ i wr => ∃ (j : Nat), j ≤ n ∧ i = .int .i64 j ∧ q = .int .i64 ((k : Int) + j) ∧ Below w.heap.size w wr) (fun _ _ i _ => n - (intOf i).toNat)
  case atStart => exact ⟨0, Nat.zero_le _, rfl, by simp, Below.refl _ _⟩
  case round =>
    obtain ⟨j, hj, rfl, rfl, hB⟩ := hrel
    by_cases hlt : j < n
    · have hj1 : (j : Int) < n := by omega
      have hj0 : (0 : Int) ≤ j := by omega
      have hcj : wr.cell? ⟨b, off + j, none⟩ = some (.string ⟨(markOf (k + j)).toArray⟩) := (hB.cell (p := ⟨b, off + j, none⟩) hb).trans (HC.out j hlt)
      have hbr : b < wr.heap.size := Nat.lt_of_lt_of_le hb hB.size
      go_wp2_with fail
      go_region_held3 (fun w' => w'.cell? ⟨b, off + j, none⟩ = some (.string ⟨(markOf (k + j)).toArray⟩) ∧ Below w.heap.size w w') (first | exact ⟨hcj, hB.drew⟩ | exact ⟨‹_›, ‹_›⟩ | go_keep)
        (first | (go_at_call 38; refine (markTextS w b (off + j) (.string ⟨(markOf (k + j)).toArray⟩) ((k : Int) + j) (k + j) (by omega) (by omega) (by omega) _ ?_).mono ?_; (first | exact ⟨hcj, hB.drew⟩ | exact ⟨‹_›, ‹_›⟩ | assumption); rintro e w1 ⟨rfl, hk1, hk2⟩))
      go_wp2_with fail
      go_roundw
      case rel => exact ⟨j + 1, by omega, by go_num, by go_num, hk2⟩
      case measure => simp [intOf]; omega
    · obtain rfl : j = n := by omega
      have hj1 : ¬ (j : Int) < j := by omega
      go_wp2_with fail
      go_ret
      exact ⟨rfl, hB⟩

set_option maxRecDepth 100000 in
theorem heldStr_zero (w : World) (a : Option Addr) (c k : Nat) :
    Calls Tryd.prog 24 #[.slice a 0 c, .int .i64 k] w fun e w' => e = .returned (.int .i64 k) ∧ w = w' := by
  go_enter Tryd.func24, Tryd.ntmps24
  go_wp2_with fail
  go_loop [1, 4, 5] (fun q _ i => q = .int .i64 k ∧ i = .int .i64 0) (fun _ _ _ => 0)
  case atStart => exact ⟨rfl, rfl⟩
  case round =>
    obtain ⟨rfl, rfl⟩ := hrel
    go_wp2_with fail
    go_ret
    exact ⟨rfl, rfl⟩

/-- THE MARKS ARE HELD. -/
theorem heldStr (w : World) (v : Value) (n k : Nat) (h : StrRow w v (marks k n)) (hk : 1 ≤ k) (hkl : k ≤ 140737488355328) :
    Calls Tryd.prog 24 #[v, .int .i64 k] w fun e w' => e = .returned (.int .i64 ((k : Int) + n)) ∧ Below w.heap.size w w' := by
  have hn := marks_len k n
  rcases h with ⟨h0, a, c, rfl⟩ | ⟨b, off, c, rfl, hl, hc⟩
  · rw [h0] at hn
    have hn0 : n = 0 := by simpa using hn.symm
    subst hn0
    exact (heldStr_zero w a c k).mono fun e w' ⟨he, hw⟩ => ⟨by rw [he]; simp, hw ▸ Below.refl _ _⟩
  · rw [hn] at hl ⊢
    by_cases h0 : n = 0
    · subst h0
      exact (heldStr_zero w _ c k).mono fun e w' ⟨he, hw⟩ => ⟨by rw [he]; simp, hw ▸ Below.refl _ _⟩
    · have hc' : ∀ j, j < n → w.cell? ⟨b, off + j, none⟩ = some (.string ⟨(markOf (k + j)).toArray⟩) := fun j hj => hc j _ (marks_at hj)
      exact heldStr_some w b off c n k hk hl hkl (World.block_lt_of_cell? w _ (hc' 0 (by omega))) hc'

theorem StrRow.below {w w' : World} {v : Value} {ps : List (List UInt8)} (h : StrRow w v ps) (hB : Below w.heap.size w w') : StrRow w' v ps := by
  rcases h with ⟨rfl, a, c, rfl⟩ | ⟨b, off, c, rfl, hl, hc⟩
  · exact Or.inl ⟨rfl, a, c, rfl⟩
  · refine Or.inr ⟨b, off, c, rfl, hl, fun j p hp => ?_⟩
    exact (hB.cell (p := ⟨b, off + j, none⟩) (World.block_lt_of_cell? w _ (hc j p hp))).trans (hc j p hp)
theorem StrRow.grown {w w' : World} {v : Value} {r : Option Nat} {ps : List (List UInt8)} (h : StrRow w v ps) (hg : w.grownBy w' r) (hne : v.ownBlock = none ∨ v.ownBlock ≠ r) : StrRow w' v ps := by
  rcases h with ⟨rfl, a, c, rfl⟩ | ⟨b, off, c, rfl, hl, hc⟩
  · exact Or.inl ⟨rfl, a, c, rfl⟩
  · refine Or.inr ⟨b, off, c, rfl, hl, fun j p hp => ?_⟩
    have hlt := World.block_lt_of_cell? w _ (hc j p hp)
    rw [World.cell?_of_block (w := w) (hg.block b hlt (by simpa [Value.ownBlock] using hne))]
    exact hc j p hp
end Go.Proofs.YtlhfnmcjolonfaaDoor
