/-
  A text of settings, as it is drawn for the laws.
-/
import Derived.Test.YtnnbhgnllbjmeaaGreatDoorCfgD
import Derived.Test.YtnnbhgnllbjmeaaGreatDoorCfgX
import Derived.Test.YtnnbhgnllbjmeaaGreatDoorPk2
import Derived.Test.YtnnbhgnllbjmeaaGreatDoorPk3
import Derived.Test.YtnnbhgnllbjmeaaGreatDoorPk1
import Derived.Test.YtnnbhgnllbjmeaaGreatDoorPk5
namespace Go.Proofs.YtnnbhgnllbjmeaaGreatDoor
open Go.RowKit

theorem tail_memL (c : UInt8) : ∀ {r : List (List UInt8)} {a : List UInt8}, a ∈ r → a.length ≤ (Lib.joinTail [c] r).length
  | [], _, h => by cases h
  | b :: t, a, h => by
    simp only [Lib.joinTail, List.map_cons, List.flatten_cons, List.length_append, List.length_cons, List.length_nil]
    rcases List.mem_cons.1 h with rfl | h
    · omega
    · have := tail_memL c h
      simp only [Lib.joinTail] at this
      omega
theorem parts_memL {c : UInt8} {l a : List UInt8} (h : a ∈ partsL c l) : a.length ≤ l.length := by
  have hj := parts_join (c := c) l
  have key : ∀ {L : List (List UInt8)}, a ∈ L → a.length ≤ (Lib.join L [c]).length := by
    intro L h
    cases L with
    | nil => cases h
    | cons b t =>
      rw [Lib.join_cons, List.length_append]
      rcases List.mem_cons.1 h with rfl | h
      · omega
      · have := tail_memL c h
        omega
  have := key h
  rw [hj] at this
  exact this
theorem textC_le (C : Cfg) : (textC C).length ≤ 600 := by
  by_cases h : okC C = true
  · exact textC_len h
  · rw [textC, if_neg h]
    simp
theorem own_nextS {w0 wr w' : World} {p n : Nat} {T : TypeId} {v : Value} {xs : List Value} (ho : wr.ownsRow w0.heap.size T 1 v n xs) (hp : p < w0.heap.size) (hg : wr.grownBy w' (some p)) : w'.ownsRow w0.heap.size T 1 v n xs := by
  refine ho.kept hg ?_
  cases hb : v.ownBlock with
  | none => exact Or.inl rfl
  | some g => exact Or.inr (fun e => by have := (ho.lt g hb).1; injection e with e; omega)
theorem own_slice {w : World} {base n : Nat} {T : TypeId} {v : Value} {xs : List Value} (ho : w.ownsRow base T 1 v n xs) (hn : 1 ≤ n) : ∃ g cap, v = .slice (some ⟨g, 0, none⟩) n cap ∧ n ≤ cap := by
  rcases ho.2 with ⟨_, h0⟩ | ⟨g, cap, cur, rfl, _, _, hnc, _, _, _⟩
  · omega
  · exact ⟨g, cap, rfl, hnc⟩
theorem row_put {w : World} {base g n cap i : Nat} {T : TypeId} {xs : List Value} (ho : w.ownsRow base T 1 (.slice (some ⟨g, 0, none⟩) n cap) n xs) (hi : i < n) : (∃ x, w.cell? ⟨g, i, none⟩ = some x) ∧ w.frozen? ⟨g, i, none⟩ = false ∧ g < w.heap.size := by
  have hl : xs.length = n := by have := ho.1; omega
  refine ⟨⟨xs[i], ?_⟩, ho.frozenAt i, (ho.lt g rfl).2⟩
  rw [ho.cellAt i (by omega), List.getElem?_eq_getElem (by omega)]
theorem strCells_set (ps : List (List UInt8)) (k : Nat) (t : ByteArray) : (strCells ps).set k (.string t) = strCells (ps.set k t.data.toList) := by
  unfold strCells
  rw [List.map_set, mk_toList]
theorem StrRow.drew8 {w : World} {v : Value} {ps : List (List UInt8)} (h : StrRow w v ps) : StrRow w.drew v ps := h
theorem grownBy_drew8 {a w : World} {r : Option Nat} (h : a.grownBy w r) : a.grownBy w.drew r := ⟨h.os, h.tape, h.output, h.size, h.block⟩
theorem row_drop {w : World} {base g n cap k : Nat} {ps : List (List UInt8)} (ho : w.ownsRow base 9 1 (.slice (some ⟨g, 0, none⟩) n cap) n (strCells ps)) (hk : k ≤ n) (hc : n ≤ cap) (hn : n ≤ 9223372036854775807) : StrRow w (.slice (some ⟨g, k, none⟩) (n - k) (cap - k)) (ps.drop k) := by
  have hl : ps.length = n := by have := ho.1; rw [strCells_len] at this; omega
  have e : (ps.drop k).length = n - k := by rw [List.length_drop, hl]
  refine Or.inr ⟨g, k, cap - k, by rw [e], by omega, by omega, fun j q hj => ?_⟩
  rw [List.getElem?_drop] at hj
  have hjl := (List.getElem?_eq_some_iff.1 hj).1
  rw [ho.cellAt (k + j) (by omega)]
  unfold strCells
  rw [List.getElem?_map, hj]
  rfl
theorem row_take {w : World} {base g n cap k : Nat} {ps : List (List UInt8)} (ho : w.ownsRow base 9 1 (.slice (some ⟨g, 0, none⟩) n cap) n (strCells ps)) (hk : k ≤ n) (hc : n ≤ cap) (hn : n ≤ 9223372036854775807) : StrRow w (.slice (some ⟨g, 0, none⟩) k cap) (ps.take k) := by
  have hl : ps.length = n := by have := ho.1; rw [strCells_len] at this; omega
  have e : (ps.take k).length = k := by rw [List.length_take, hl]; omega
  refine Or.inr ⟨g, 0, cap, by rw [e], by omega, by omega, fun j q hj => ?_⟩
  have hjl := (List.getElem?_eq_some_iff.1 hj).1
  rw [List.getElem?_take, if_pos (by omega)] at hj
  rw [Nat.zero_add, ho.cellAt j (by omega)]
  unfold strCells
  rw [List.getElem?_map, hj]
  rfl

set_option maxRecDepth 100000 in
set_option maxHeartbeats 8000000 in
theorem l8Lines (W w : World) (p : Nat) (hc : Cur W w p) :
    Calls Tryz.prog 36 #[.pointer (some ⟨p, 0, none⟩)] w fun e w' => StrOut 800000 e ∧ Cur W w' p ∧ w.grownBy w' (some p) := by
  go_enter Tryz.func36, Tryz.ntmps36
  go_wp2_with fail
  refine (l8Right W w p hc).mono ?_
  rintro e w1 ⟨⟨C, v, rfl, ho, hl5, _, _⟩, hc1, hg1⟩
  obtain ⟨a, c, rfl⟩ := ownsI_form ho
  simp only [cfgV]
  have R1 := intRow_of_owns ho (by omega)
  clear ho hc
  go_wp2_with fail
  refine (specConfigText C _ w1 R1).mono ?_
  rintro e w2 ⟨rfl, hB2⟩
  have hc2 := hc1.next hB2
  have hg2 := grownBy_trans hg1 (grown_of_below hB2 (some p))
  have hl := textC_le C
  have hp2 := hc2.lt
  clear R1 hB2 hc1 hg1
  go_wp2_with fail
  refine (specParts ⟨(textC C).toArray⟩ 10 w2 (by rw [size_toArr]; omega)).mono ?_
  rintro e w3 ⟨v3, rfl, ho3, hB3⟩
  have hc3 := hc2.next hB3
  have hg3 := grownBy_trans hg2 (grown_of_below hB3 (some p))
  have hw2 := hg2.size
  have ho3' : w3.ownsRow w2.heap.size 9 1 v3 (partsL 10 (textC C)).length (strCells (partsL 10 (textC C))) := ho3
  have h1 := parts_pos (c := 10) (textC C)
  have h2 := parts_len (c := 10) (textC C)
  have HPM := Lib.hid (fun (q : List UInt8) (hq : q ∈ partsL 10 (textC C)) => Nat.le_trans (parts_memL hq) hl)
  clear ho3 hB3 hc2 hg2
  generalize partsL 10 (textC C) = ps at ho3' h1 h2 HPM
  obtain ⟨N, hN⟩ : ∃ N, ps.length = N := ⟨_, rfl⟩
  rw [hN] at ho3' h1 h2
  have hN9 : N ≤ 601 := by omega
  obtain ⟨g, cap, rfl, hnc⟩ := own_slice ho3' h1
  have HPN := Lib.hid hN
  clear hN h2
  go_wp2_with fail
  refine (l1Below W w3 p 5 (by omega) (by omega) hc3).mono ?_
  rintro e w4 ⟨⟨m, hm, rfl⟩, hc4, hg4⟩
  have ho4 := own_nextS ho3' hp2 hg4
  have hG4 := grownBy_trans hg3 hg4
  clear ho3' hc3 hg3 hg4
  by_cases hm0 : m = 0
  · subst hm0
    go_wp2_with fail
    refine (l1Below W w4 p N (by omega) (by omega) hc4).mono ?_
    rintro e w5 ⟨⟨k, hk, rfl⟩, hc5, hg5⟩
    have ho5 := own_nextS ho4 hp2 hg5
    have hG5 := grownBy_trans hG4 hg5
    have hne : w5.heap.size ≠ p := by have := hc5.lt; omega
    have HLL := Lib.hid (strList (w := w5) (cs := #[.string ⟨#[114, 111, 117, 110, 100, 115, 61, 57]⟩, .string ⟨#[100, 101, 112, 116, 104, 61, 53]⟩, .string ⟨#[98, 105, 110, 115, 61, 49]⟩, .string ⟨#[108, 97, 109, 98, 100, 97, 61, 48]⟩, .string ⟨#[114, 111, 119, 115, 61, 120]⟩, .string ⟨#[114, 97, 116, 101, 61, 50, 47, 49]⟩, .string ⟨#[114, 97, 116, 101, 61, 49]⟩, .string ⟨#[114, 97, 116, 101, 61, 49, 47, 50, 47, 51]⟩, .string ⟨#[115, 105, 103, 110, 115, 61, 43, 44, 120]⟩, .string ⟨#[115, 105, 103, 110, 115, 61]⟩, .string ⟨#[115, 105, 103, 110, 115, 61, 43, 44, 43, 44, 48, 44, 48, 44, 45]⟩, .string ⟨#[104, 109, 61, 49]⟩, .string ⟨#[104, 109]⟩, .string ⟨#[61]⟩, .string ⟨#[114, 111, 117, 110, 100, 115, 61]⟩, .string ⟨#[114, 111, 117, 110, 100, 115, 61, 32, 49]⟩, .string ⟨#[114, 97, 116, 101, 61, 48, 47, 49]⟩, .string ⟨#[115, 105, 103, 110, 115, 61, 45, 44, 48]⟩]) (T := 9) (n := 18) 20 rfl (by decide))
    have HCL := Lib.hid (hc5.alloc (.cells #[.string ⟨#[114, 111, 117, 110, 100, 115, 61, 57]⟩, .string ⟨#[100, 101, 112, 116, 104, 61, 53]⟩, .string ⟨#[98, 105, 110, 115, 61, 49]⟩, .string ⟨#[108, 97, 109, 98, 100, 97, 61, 48]⟩, .string ⟨#[114, 111, 119, 115, 61, 120]⟩, .string ⟨#[114, 97, 116, 101, 61, 50, 47, 49]⟩, .string ⟨#[114, 97, 116, 101, 61, 49]⟩, .string ⟨#[114, 97, 116, 101, 61, 49, 47, 50, 47, 51]⟩, .string ⟨#[115, 105, 103, 110, 115, 61, 43, 44, 120]⟩, .string ⟨#[115, 105, 103, 110, 115, 61]⟩, .string ⟨#[115, 105, 103, 110, 115, 61, 43, 44, 43, 44, 48, 44, 48, 44, 45]⟩, .string ⟨#[104, 109, 61, 49]⟩, .string ⟨#[104, 109]⟩, .string ⟨#[61]⟩, .string ⟨#[114, 111, 117, 110, 100, 115, 61]⟩, .string ⟨#[114, 111, 117, 110, 100, 115, 61, 32, 49]⟩, .string ⟨#[114, 97, 116, 101, 61, 48, 47, 49]⟩, .string ⟨#[115, 105, 103, 110, 115, 61, 45, 44, 48]⟩] 9))
    have HOL := Lib.hid (ho5.alloc (.cells #[.string ⟨#[114, 111, 117, 110, 100, 115, 61, 57]⟩, .string ⟨#[100, 101, 112, 116, 104, 61, 53]⟩, .string ⟨#[98, 105, 110, 115, 61, 49]⟩, .string ⟨#[108, 97, 109, 98, 100, 97, 61, 48]⟩, .string ⟨#[114, 111, 119, 115, 61, 120]⟩, .string ⟨#[114, 97, 116, 101, 61, 50, 47, 49]⟩, .string ⟨#[114, 97, 116, 101, 61, 49]⟩, .string ⟨#[114, 97, 116, 101, 61, 49, 47, 50, 47, 51]⟩, .string ⟨#[115, 105, 103, 110, 115, 61, 43, 44, 120]⟩, .string ⟨#[115, 105, 103, 110, 115, 61]⟩, .string ⟨#[115, 105, 103, 110, 115, 61, 43, 44, 43, 44, 48, 44, 48, 44, 45]⟩, .string ⟨#[104, 109, 61, 49]⟩, .string ⟨#[104, 109]⟩, .string ⟨#[61]⟩, .string ⟨#[114, 111, 117, 110, 100, 115, 61]⟩, .string ⟨#[114, 111, 117, 110, 100, 115, 61, 32, 49]⟩, .string ⟨#[114, 97, 116, 101, 61, 48, 47, 49]⟩, .string ⟨#[115, 105, 103, 110, 115, 61, 45, 44, 48]⟩] 9))
    have HGL := Lib.hid (grownBy_trans hG5 (grownBy_alc w5 (.cells #[.string ⟨#[114, 111, 117, 110, 100, 115, 61, 57]⟩, .string ⟨#[100, 101, 112, 116, 104, 61, 53]⟩, .string ⟨#[98, 105, 110, 115, 61, 49]⟩, .string ⟨#[108, 97, 109, 98, 100, 97, 61, 48]⟩, .string ⟨#[114, 111, 119, 115, 61, 120]⟩, .string ⟨#[114, 97, 116, 101, 61, 50, 47, 49]⟩, .string ⟨#[114, 97, 116, 101, 61, 49]⟩, .string ⟨#[114, 97, 116, 101, 61, 49, 47, 50, 47, 51]⟩, .string ⟨#[115, 105, 103, 110, 115, 61, 43, 44, 120]⟩, .string ⟨#[115, 105, 103, 110, 115, 61]⟩, .string ⟨#[115, 105, 103, 110, 115, 61, 43, 44, 43, 44, 48, 44, 48, 44, 45]⟩, .string ⟨#[104, 109, 61, 49]⟩, .string ⟨#[104, 109]⟩, .string ⟨#[61]⟩, .string ⟨#[114, 111, 117, 110, 100, 115, 61]⟩, .string ⟨#[114, 111, 117, 110, 100, 115, 61, 32, 49]⟩, .string ⟨#[114, 97, 116, 101, 61, 48, 47, 49]⟩, .string ⟨#[115, 105, 103, 110, 115, 61, 45, 44, 48]⟩] 9) (some p)))
    clear ho4 hc4 hG4 hg5 ho5 hc5 hG5
    go_wp2_with fail
    generalize w5.alloc (.cells #[.string ⟨#[114, 111, 117, 110, 100, 115, 61, 57]⟩, .string ⟨#[100, 101, 112, 116, 104, 61, 53]⟩, .string ⟨#[98, 105, 110, 115, 61, 49]⟩, .string ⟨#[108, 97, 109, 98, 100, 97, 61, 48]⟩, .string ⟨#[114, 111, 119, 115, 61, 120]⟩, .string ⟨#[114, 97, 116, 101, 61, 50, 47, 49]⟩, .string ⟨#[114, 97, 116, 101, 61, 49]⟩, .string ⟨#[114, 97, 116, 101, 61, 49, 47, 50, 47, 51]⟩, .string ⟨#[115, 105, 103, 110, 115, 61, 43, 44, 120]⟩, .string ⟨#[115, 105, 103, 110, 115, 61]⟩, .string ⟨#[115, 105, 103, 110, 115, 61, 43, 44, 43, 44, 48, 44, 48, 44, 45]⟩, .string ⟨#[104, 109, 61, 49]⟩, .string ⟨#[104, 109]⟩, .string ⟨#[61]⟩, .string ⟨#[114, 111, 117, 110, 100, 115, 61]⟩, .string ⟨#[114, 111, 117, 110, 100, 115, 61, 32, 49]⟩, .string ⟨#[114, 97, 116, 101, 61, 48, 47, 49]⟩, .string ⟨#[115, 105, 103, 110, 115, 61, 45, 44, 48]⟩] 9) = wl at HLL HCL HOL HGL ⊢
    refine (l1Pick W wl p w5.heap.size 18 20 (by omega) (by omega) hne HLL.out HCL.out).mono ?_
    rintro e w6 ⟨⟨t, ht, rfl⟩, hc6, hg6⟩
    have HO6 := Lib.hid (own_nextS HOL.out hp2 hg6)
    have hG6 := grownBy_trans HGL.out hg6
    obtain ⟨⟨y, hy⟩, hf, hgl⟩ := row_put HO6.out hk
    have hk0 : (0 : Int) ≤ k := by omega
    have hk1 : (k : Int) < N := by omega
    have hgb : w2.heap.size ≤ g := (HO6.out.lt g rfl).1
    have HC := Lib.hid (Cur.far8 (k := k) (x := .string t) hc6 (Nat.lt_of_lt_of_le hp2 hgb))
    have HG := Lib.hid (grown_set8 (b := g) (k := k) (x := .string t) hG6 (Nat.le_trans hw2 hgb))
    have HS := Lib.hid (HO6.out.stored k (.string t)).1
    clear hg6 hc6 hG6 HLL HCL HOL HGL
    go_wp2_with fail
    generalize w6.setCell ⟨g, k, none⟩ (.string t) = w7 at HC HG HS ⊢
    have hs7 := HS.out
    rw [strCells_set] at hs7
    refine (specJoined w7 _ (ps.set k t.data.toList) ⟨#[10]⟩ (strRow_of_owns (by rw [List.length_set, HPN.out]; exact hs7) (by rw [List.length_set, HPN.out]; omega)) (by rw [List.length_set, HPN.out]; omega) ?_).mono ?_
    · refine Nat.le_trans (join_len_n _ 600 10 fun q hq => ?_) (by rw [List.length_set, HPN.out]; omega)
      rcases List.mem_or_eq_of_mem_set hq with hq | rfl
      · exact HPM.out q hq
      · rw [← Lib.size_eq]; omega
    rintro e w8 ⟨rfl, hB8⟩
    go_wp2_with fail
    go_ret
    refine ⟨⟨_, ?_, rfl⟩, HC.out.next hB8, grownBy_trans HG.out (grown_of_below hB8 (some p))⟩
    rw [size_toArr]
    refine Nat.le_trans (join_len_n _ 600 10 fun q hq => ?_) (by rw [List.length_set, HPN.out]; omega)
    rcases List.mem_or_eq_of_mem_set hq with hq | rfl
    · exact HPM.out q hq
    · rw [← Lib.size_eq]; omega
  by_cases hm1 : m = 1
  · subst hm1
    go_wp2_with fail
    refine (l1Below W w4 p N (by omega) (by omega) hc4).mono ?_
    rintro e w5 ⟨⟨k, hk, rfl⟩, hc5, hg5⟩
    have ho5 := own_nextS ho4 hp2 hg5
    have HG := Lib.hid (grownBy_trans hG4 hg5)
    have SD := Lib.hid (row_drop ho5 (Nat.le_of_lt hk) hnc (by omega))
    have ST := Lib.hid (row_take ho5 (Nat.le_of_lt hk) hnc (by omega))
    have hk0 : (0 : Int) ≤ k := by omega
    have hk1 : (k : Int) ≤ N := by omega
    have hk2 : (k : Int) ≤ cap := by omega
    have hk3 : (N : Int) ≤ cap := by omega
    have hck : ¬ cap = k := by omega
    have e1 := join_len_n (ps.drop k) 600 10 (fun q hq => HPM.out q (List.mem_of_mem_drop hq))
    have e2 := join_len_n (ps.take k) 600 10 (fun q hq => HPM.out q (List.mem_of_mem_take hq))
    rw [List.length_drop, HPN.out] at e1
    rw [List.length_take, HPN.out] at e2
    have hcat : ¬ 9223372036854775807 < (Lib.join (ps.drop k) [10]).length + (Lib.join (ps.take k) [10]).length := by omega
    have HE1 := Lib.hid e1
    have HE2 := Lib.hid e2
    clear e1 e2
    clear ho4 hc4 hG4 hg5 ho5
    go_wp2_with fail
    refine wp_region_noPanic ?_
    refine wp_region_held_drew (S := (fun _ => True)) (by kernel_rfl) trivial (fun hHeld => ?_)
    refine wpAnyH_take (i := 0) (oi := ?o1) (v := ?v1) ?hi1 ?hs1 ?hf1 ?hr1 ?hQ1 ?hy1 ?hS1 ?rest1
    case hi1 => rfl
    case hs1 => kernel_rfl
    case hf1 => kernel_rfl
    case hr1 => kernel_rfl
    case hQ1 => exact fun _ _ _ h => h
    case hS1 => assumption
    case hy1 =>
      refine Or.inl ⟨by kernel_rfl, ?_⟩
      intro w' hSw
      (try dsimp only at hSw)
      go_simp
      (try rfl)
    (try simp only [List.getElem_toArray, List.getElem_cons_zero, Act.put, List.setIfInBounds_toArray, List.set_cons_zero, List.set_cons_succ])
    refine wpAnyH_take (i := 1) (oi := ?o2) (v := ?v2) ?hi2 ?hs2 ?hf2 ?hr2 ?hQ2 ?hy2 ?hS2 ?rest2
    case hi2 => rfl
    case hs2 => kernel_rfl
    case hf2 => kernel_rfl
    case hr2 => kernel_rfl
    case hQ2 => exact fun _ _ _ h => h
    case hS2 => assumption
    case hy2 =>
      refine Or.inl ⟨by kernel_rfl, ?_⟩
      intro w' hSw
      (try dsimp only at hSw)
      go_simp
      (try rfl)
    (try simp only [List.getElem_toArray, List.getElem_cons_succ, List.getElem_cons_zero, Act.put, List.setIfInBounds_toArray, List.set_cons_zero, List.set_cons_succ])
    refine wpAnyH_take (i := 4) (oi := ?o3) (v := ?v3) ?hi3 ?hs3 ?hf3 ?hr3 ?hQ3 ?hy3 ?hS3 ?rest3
    case hi3 => rfl
    case hs3 => kernel_rfl
    case hf3 => kernel_rfl
    case hr3 => kernel_rfl
    case hQ3 => exact fun _ _ _ h => h
    case hS3 => assumption
    case hy3 =>
      refine Or.inl ⟨by kernel_rfl, ?_⟩
      intro w' hSw
      (try dsimp only at hSw)
      go_simp
      (try rfl)
    (try simp only [List.getElem_toArray, List.getElem_cons_succ, List.getElem_cons_zero, Act.put, List.setIfInBounds_toArray, List.set_cons_zero, List.set_cons_succ])
    refine wpAnyH_take (i := 5) (oi := ?o4) (v := ?v4) ?hi4 ?hs4 ?hf4 ?hr4 ?hQ4 ?hy4 ?hS4 ?rest4
    case hi4 => rfl
    case hs4 => kernel_rfl
    case hf4 => kernel_rfl
    case hr4 => kernel_rfl
    case hQ4 => exact fun _ _ _ h => h
    case hS4 => assumption
    case hy4 =>
      refine Or.inl ⟨by kernel_rfl, ?_⟩
      intro w' hSw
      (try dsimp only at hSw)
      go_simp
      (try rfl)
    (try simp only [List.getElem_toArray, List.getElem_cons_succ, List.getElem_cons_zero, Act.put, List.setIfInBounds_toArray, List.set_cons_zero, List.set_cons_succ])
    refine wpAnyH_take (i := 2) (oi := ?o5) (v := ?v5) ?hi5 ?hs5 ?hf5 ?hr5 ?hQ5 ?hy5 ?hS5 ?rest5
    case hi5 => rfl
    case hs5 => kernel_rfl
    case hf5 => kernel_rfl
    case hr5 => kernel_rfl
    case hQ5 => exact fun _ _ _ h => h
    case hS5 => assumption
    case hy5 =>
      refine Or.inl ⟨by kernel_rfl, ?_⟩
      intro w' hSw
      (try dsimp only at hSw)
      go_simp
      (try rfl)
    (try simp only [List.getElem_toArray, List.getElem_cons_succ, List.getElem_cons_zero, Act.put, List.setIfInBounds_toArray, List.set_cons_zero, List.set_cons_succ])
    refine wpAnyH_take (i := 6) (oi := ?o6) (v := ?v6) ?hi6 ?hs6 ?hf6 ?hr6 ?hQ6 ?hy6 ?hS6 ?rest6
    case hi6 => rfl
    case hs6 => kernel_rfl
    case hf6 => kernel_rfl
    case hr6 => kernel_rfl
    case hQ6 => exact fun _ _ _ h => h
    case hS6 => assumption
    case hy6 =>
      refine Or.inl ⟨by kernel_rfl, ?_⟩
      intro w' hSw
      (try dsimp only at hSw)
      go_simp
      (try rfl)
    (try simp only [List.getElem_toArray, List.getElem_cons_succ, List.getElem_cons_zero, Act.put, List.setIfInBounds_toArray, List.set_cons_zero, List.set_cons_succ])
    refine wpAnyH_ready (rs := [3]) (by kernel_rfl) (by simp) ?_
    refine AllReadyH.cons rfl (fun K hK => ?_) AllReadyH.nil
    go_simp
    refine (specJoined w5.drew _ (ps.drop k) ⟨#[10]⟩ (SD.out.drew8) (by rw [List.length_drop, HPN.out]; omega) ?_).mono ?_
    · exact Nat.le_trans (join_len_n _ 600 10 (fun q hq => HPM.out q (List.mem_of_mem_drop hq))) (by rw [List.length_drop, HPN.out]; omega)
    rintro e w6 ⟨rfl, hB6⟩
    have HC6 := Lib.hid ((hc5.drew8).next hB6)
    have HG6 := Lib.hid (grownBy_trans (grownBy_drew8 HG.out) (grown_of_below hB6 (some p)))
    have ST6 := Lib.hid (StrRow.below (w := w5.drew) ST.out.drew8 hB6)
    clear hB6
    refine hK.out _ _ trivial (fun hHeld => ?_)
    clear hK K
    refine wpAnyH_ready (rs := [7]) (by kernel_rfl) (by simp) ?_
    refine AllReadyH.cons rfl (fun K hK => ?_) AllReadyH.nil
    go_simp
    refine (specJoined w6 _ (ps.take k) ⟨#[10]⟩ (ST6.out) (by rw [List.length_take, HPN.out]; omega) ?_).mono ?_
    · exact Nat.le_trans (join_len_n _ 600 10 (fun q hq => HPM.out q (List.mem_of_mem_take hq))) (by rw [List.length_take, HPN.out]; omega)
    rintro e w7 ⟨rfl, hB7⟩
    have HC7 := Lib.hid (HC6.out.next hB7)
    have HG7 := Lib.hid (grownBy_trans HG6.out (grown_of_below hB7 (some p)))
    clear hB7
    refine hK.out _ _ trivial (fun hHeld => ?_)
    clear hK K
    refine wpAnyH_take (i := 8) (oi := ?o7) (v := ?v7) ?hi7 ?hs7 ?hf7 ?hr7 ?hQ7 ?hy7 ?hS7 ?rest7
    case hi7 => rfl
    case hs7 => kernel_rfl
    case hf7 => kernel_rfl
    case hr7 => kernel_rfl
    case hQ7 => exact fun _ _ _ h => h
    case hS7 => assumption
    case hy7 =>
      refine Or.inl ⟨by kernel_rfl, ?_⟩
      intro w' hSw
      (try dsimp only at hSw)
      go_simp
      (try rfl)
    (try simp only [List.getElem_toArray, List.getElem_cons_succ, List.getElem_cons_zero, Act.put, List.setIfInBounds_toArray, List.set_cons_zero, List.set_cons_succ])
    refine wpAnyH_take (i := 9) (oi := ?o8) (v := ?v8) ?hi8 ?hs8 ?hf8 ?hr8 ?hQ8 ?hy8 ?hS8 ?rest8
    case hi8 => rfl
    case hs8 => kernel_rfl
    case hf8 => kernel_rfl
    case hr8 => kernel_rfl
    case hQ8 => exact fun _ _ _ h => h
    case hS8 => assumption
    case hy8 =>
      refine Or.inl ⟨by kernel_rfl, ?_⟩
      intro w' hSw
      (try dsimp only at hSw)
      go_simp
      (try rfl)
    (try simp only [List.getElem_toArray, List.getElem_cons_succ, List.getElem_cons_zero, Act.put, List.setIfInBounds_toArray, List.set_cons_zero, List.set_cons_succ])
    refine wpAnyH_done (by kernel_rfl) ?_ _
    refine NoPanic.normal ?_
    go_wp2_with fail
    go_ret
    refine ⟨⟨_, ?_, rfl⟩, HC7.out, HG7.out⟩
    rw [ByteArray.size_append, size_toArr, size_toArr]
    have e1' := HE1.out
    have e2' := HE2.out
    omega
  · have x0 : ¬ (m : Int) = 0 := by omega
    have x1 : ¬ (m : Int) = 1 := by omega
    have HO4 := Lib.hid ho4
    clear ho4
    go_wp2_with fail
    refine (specJoined w4 _ ps ⟨#[10]⟩ (strRow_of_owns (by rw [HPN.out]; exact HO4.out) (by rw [HPN.out]; omega)) (by rw [HPN.out]; omega) ?_).mono ?_
    · exact Nat.le_trans (join_len_n _ 600 10 HPM.out) (by rw [HPN.out]; omega)
    rintro e w5 ⟨rfl, hB5⟩
    go_wp2_with fail
    go_ret
    refine ⟨⟨_, ?_, rfl⟩, hc4.next hB5, grownBy_trans hG4 (grown_of_below hB5 (some p))⟩
    rw [size_toArr]
    exact Nat.le_trans (join_len_n _ 600 10 HPM.out) (by rw [HPN.out]; omega)
set_option maxRecDepth 100000 in
theorem drawReadConfig (w : World) (v : Value) (n : Nat) (hb : Bytes w v n) :
    Calls Tryz.prog 11 #[v] w fun e w' => StrOut 800002 e ∧ Below w.heap.size w w' := by
  go_enter Tryz.func11, Tryz.ntmps11
  go_wp2_with fail
  refine (l1New w v n hb).mono ?_
  rintro e w1 ⟨rfl, hc1, _⟩
  go_wp2_with fail
  refine (l8Lines w w1 _ hc1).mono ?_
  rintro e w2 ⟨⟨s, hs, rfl⟩, hc2, _⟩
  clear hc1
  go_wp2_with fail
  refine (l7Turned w w2 _ s (by omega) hc2).mono ?_
  rintro e w3 ⟨⟨t, ht, rfl⟩, hc3, _⟩
  go_wp2_with fail
  go_ret
  exact ⟨⟨t, by omega, rfl⟩, cur_below hc3⟩
end Go.Proofs.YtnnbhgnllbjmeaaGreatDoor
