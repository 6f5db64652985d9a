/-
  The draw of a text of rows, turned a little.
-/
import Derived.Test.YtklhkebpgoajgaaDoorCsvD
import Derived.Test.YtklhkebpgoajgaaDoorCsvS
import Derived.Deep.RegionHeld3
import Derived.Deep.RegionWith
namespace Go.Proofs.YtklhkebpgoajgaaDoor
open Go.RowKit

theorem Cur.drew {W w : World} {p : Nat} (h : Cur W w p) : Cur W w.drew p := ⟨h.1, h.2.1.drew, h.2.2⟩
theorem Cur.drewN {W w : World} {p : Nat} (h : Cur W w p) (n : Nat) : Cur W (w.drewN n) p := ⟨h.1, ⟨h.2.1.os, h.2.1.tape, h.2.1.output, h.2.1.size, h.2.1.block⟩, h.2.2⟩
theorem grownBy_drew {a w : World} {r : Option Nat} (h : a.grownBy w r) : a.grownBy w.drew r := ⟨h.os, h.tape, h.output, h.size, h.block⟩
theorem strOut_sub {s t : ByteArray} {M : Nat} (h : t.size ≤ s.size) (hM : s.size ≤ M) : StrOut M (.returned (.string t)) := ⟨t, by omega, rfl⟩

set_option maxRecDepth 100000 in
set_option maxHeartbeats 4000000 in
theorem l7Turned (W w : World) (p : Nat) (s : ByteArray) (hs : s.size ≤ 4000000) (hc : Cur W w p) :
    Calls Tryd.prog 34 #[.pointer (some ⟨p, 0, none⟩), .string s] w fun e w' => StrOut (s.size + 2) e ∧ Cur W w' p ∧ w.grownBy w' (some p) := by
  go_enter Tryd.func34, Tryd.ntmps34
  go_wp2_with fail
  refine (l1Below W _ p (s.size + 1) (by omega) (by omega) hc).mono ?_
  rintro e w1 ⟨⟨m, hm, rfl⟩, hc1, hg1⟩
  have hm1 : (m : Int) ≤ s.size := by omega
  have hm0 : (0 : Int) ≤ m := by omega
  have hmn : m ≤ s.size := by omega
  go_wp2_with fail
  refine (l1Below W _ p 6 (by omega) (by omega) hc1).mono ?_
  rintro e w2 ⟨⟨x, hx, rfl⟩, hc2, hg2⟩
  have hG := grownBy_trans hg1 hg2
  clear hg1 hg2 hc1
  by_cases hx0 : x = 0
  · obtain rfl := hx0
    have hne : w2.heap.size ≠ p := by have := hc2.lt; omega
    have HG := Lib.hid hG
    go_wp2_with fail
    go_region_with (go_at_call 45; refine (l1Pick W _ p w2.heap.size 9 2 (by omega) (by omega) hne ?_ ?_).mono ?_; (show ∀ j, j < 9 → ∃ s : ByteArray, s.size ≤ 2 ∧ (w2.alloc _).cell? ⟨w2.heap.size, j, none⟩ = some (.string s); exact strList 2 rfl (by decide)); (first | exact (hc2.alloc _).drew | exact hc2.alloc _ | exact hc2.drew.alloc _); rintro e w3 ⟨⟨t, ht, rfl⟩, hc3, hg3⟩)
    have hz : ((s.extract 0 m ++ t) ++ s.extract m s.size).size ≤ s.size + 2 := by
      rw [ByteArray.size_append, ByteArray.size_append, ByteArray.size_extract, ByteArray.size_extract]
      omega
    go_wp2_with fail
    go_ret
    exact ⟨⟨_, hz, rfl⟩, hc3, grownBy_trans (grownBy_trans HG.out (grownBy_drew (grownBy_alloc _ _ _))) hg3⟩
  · have hxa : ¬ (x : Int) = 0 := by omega
    by_cases hx1 : x = 1
    · obtain rfl := hx1
      have hz : (s.extract 0 m).size ≤ s.size := by rw [ByteArray.size_extract]; omega
      go_wp2_with fail
      go_ret
      exact ⟨strOut_sub hz (by omega), hc2, hG⟩
    · have hxb : ¬ (x : Int) = 1 := by omega
      go_wp2_with fail
      go_ret
      exact ⟨strOut_sub (Nat.le_refl _) (by omega), hc2, hG⟩

theorem Cur.next {W w w' : World} {p : Nat} (h : Cur W w p) (hB : Below w.heap.size w w') : Cur W w' p := h.grown (grown_of_below hB none) (fun _ e => by cases e)
theorem rowsGood_text {rows : List (List (List UInt8))} (h : RowsGood 3 rows) : (csvT rows).length ≤ 400 ∧ (∀ r ∈ rows, r.length ≤ 9223372036854775807) ∧ (∀ r ∈ rows, ∀ p ∈ r, p.length ≤ 1099511627776) := by
  obtain ⟨h1, h2⟩ := h
  refine ⟨?_, fun r hr => by have := (h2 r hr).2.1; omega, fun r hr p hp => by have := (h2 r hr).2.2 p hp; omega⟩
  have key : ∀ L : List (List (List UInt8)), (∀ r ∈ L, r ≠ [] ∧ r.length ≤ 3 ∧ ∀ p ∈ r, p.length ≤ 10) → (csvT L).length ≤ 100 * L.length := by
    intro L hL
    induction L with
    | nil => simp [csvT]
    | cons r t ih =>
      have h3 := rowT_w r
      have h4 : fieldsW r ≤ 23 * r.length := by
        have h5 := (hL r (by simp)).2.2
        clear h3 ih hL
        induction r with
        | nil => simp [fieldsW]
        | cons f u ihu =>
          have := h5 f (by simp)
          have := ihu (fun p hp => h5 p (by simp [hp]))
          rw [fieldsW, List.length_cons]
          omega
      have h6 := (hL r (by simp)).2.1
      have := ih (fun x hx => hL x (by simp [hx]))
      rw [csvT]
      simp only [List.length_append, List.length_cons]
      omega
  have := key rows h2
  omega
/-- The first j bytes are all one. -/
def OneB (w : World) (base : Nat) (v : Value) (n j : Nat) : Prop := ∃ xs : List Value, w.ownsRow base 5 1 v n xs ∧ ∀ i, i < j → xs[i]? = some (.int .u8 97)
theorem OneB.cell {w : World} {base g cap : Nat} {n j : Nat} (h : OneB w base (.slice (some ⟨g, 0, none⟩) n cap) n j) {i : Nat} (hi : i < n) : (∃ x, w.cell? ⟨g, i, none⟩ = some x) ∧ w.frozen? ⟨g, i, none⟩ = false := by
  obtain ⟨xs, ho, hx⟩ := h
  have hxl := ho.1
  refine ⟨⟨xs[i]'(by omega), ?_⟩, ho.frozenAt i⟩
  rw [ho.cellAt i (by omega), List.getElem?_eq_getElem (by omega)]
theorem OneB.store {w : World} {base g cap : Nat} {n j : Nat} (h : OneB w base (.slice (some ⟨g, 0, none⟩) n cap) n j) (hj : j < n) : OneB (w.setCell ⟨g, j, none⟩ (.int .u8 97)) base (.slice (some ⟨g, 0, none⟩) n cap) n (j + 1) := by
  obtain ⟨xs, ho, hx⟩ := h
  have hs := ho.stored j (.int .u8 97)
  have hxl := ho.1
  refine ⟨_, hs.1, fun i hi => ?_⟩
  rw [List.getElem?_set]
  by_cases e : j = i
  · subst e
    rw [if_pos rfl, if_pos (by omega)]
  · rw [if_neg e]
    exact hx i (by omega)
theorem OneB.done {w : World} {base g cap : Nat} {n : Nat} (h : OneB w base (.slice (some ⟨g, 0, none⟩) n cap) n n) : ByRow w base (.slice (some ⟨g, 0, none⟩) n cap) (List.replicate n 97) := by
  obtain ⟨xs, ho, hx⟩ := h
  have hxl := ho.1
  have e : xs = Lib.byteCells (List.replicate n 97) := by
    refine List.ext_getElem? fun i => ?_
    by_cases hi : i < n
    · rw [hx i hi, Lib.byteCells, List.getElem?_map, List.getElem?_replicate, if_pos hi]
      rfl
    · rw [List.getElem?_eq_none (by omega), List.getElem?_eq_none (by simp [Lib.byteCells]; omega)]
  rw [e] at ho
  exact ⟨by rw [List.length_replicate]; exact ho, g, cap, by rw [List.length_replicate]⟩

set_option maxRecDepth 100000 in
set_option maxHeartbeats 4000000 in
theorem drawReadCsv (w : World) (v : Value) (n : Nat) (hb : Bytes w v n) :
    Calls Tryd.prog 15 #[v] w fun e w' => StrOut 4100 e ∧ Below w.heap.size w w' := by
  obtain ⟨i0, hi, hz0, hz1, hz2⟩ := info_parts infoU8
  go_enter Tryd.func15, Tryd.ntmps15
  go_wp2_with fail
  refine (l1New w v n hb).mono ?_
  rintro e w1 ⟨rfl, hc1, hB1⟩
  clear hB1
  go_wp2_with fail
  refine (l7Rows w _ _ hc1).mono ?_
  rintro e w2 ⟨u, rows, rfl, hO, hg⟩
  have ht := rowsGood_text hg
  have hS2 := hO.out.row (by have := hg.1; omega) ht.2.1
  have hc2 := hO.cur
  have HT := Lib.hid ht
  have hl : (csvT rows).length ≤ 400 := ht.1
  clear hO hg hc1 ht
  go_wp2_with fail
  refine (specCsvText w2 u rows hS2 (by omega) HT.out.2.2).mono ?_
  rintro e w3 ⟨rfl, hB3⟩
  have hc3 := hc2.next hB3
  have hsz : (⟨(csvT rows).toArray⟩ : ByteArray).size ≤ 400 := by rw [toArr_size]; exact hl
  generalize (⟨(csvT rows).toArray⟩ : ByteArray) = s at hsz
  clear hc2 hB3 hS2
  go_wp2_with fail
  refine (l7Turned w w3 _ s (by omega) hc3).mono ?_
  rintro e w4 ⟨⟨t, ht, rfl⟩, hc4, _⟩
  clear hc3
  go_wp2_with fail
  refine (l1Once w w4 _ 40 (by omega) (by omega) hc4).mono ?_
  rintro e w5 ⟨⟨b, rfl⟩, hc5, _⟩
  clear hc4
  cases b with
  | false =>
    go_wp2_with fail
    go_ret
    exact ⟨⟨t, by omega, rfl⟩, cur_below hc5⟩
  | true =>
    go_wp2_with fail
    refine (l1Below w w5 _ 2 (by omega) (by omega) hc5).mono ?_
    rintro e w6 ⟨⟨x, hx, rfl⟩, hc6, _⟩
    clear hc5
    obtain ⟨N, hN⟩ : ∃ N : Nat, (4000 : Int) + (x : Int) = (N : Int) := ⟨4000 + x, by omega⟩
    have hN1 : N ≤ 4001 := by omega
    have hB6 := cur_below hc6
    clear hc6
    go_wp2_with (at_make; refine wpList_make_full _ rfl _ _ 22 rfl w.heap.size 5 i0 (.int .u8 0) 1 Tryd.underlying22 hi hz0 hz1 .i64 .i64 _ _ N rfl rfl rfl rfl ?c1 ?c2 ?c3 ?_)
    case c1 => rw [hz2]; omega
    case c2 => unfold maxLen; omega
    case c3 => exact hB6.size
    intro w7 hown hg7
    have hB7 : Below w.heap.size w w7 := hB6.grown hg7 hB6.size (fun k hk => by cases hk)
    have hF7 : OneB w7 w.heap.size (.slice (some ⟨w6.heap.size, 0, none⟩) N N) N 0 := ⟨_, hown, fun i hi => by omega⟩
    have hle := hB6.size
    clear hown hg7 hN hB6
    go_wp2_with fail
    go_loopw [6] (fun i wr => ∃ j : Nat, j ≤ N ∧ i = .int .i64 j ∧ OneB wr w.heap.size (.slice (some ⟨w6.heap.size, 0, none⟩) N N) N j ∧ Below w.heap.size w wr) (fun i _ => N - (intOf i).toNat)
    case atStart => exact ⟨0, Nat.zero_le _, rfl, hF7, hB7⟩
    case round =>
      clear hF7 hB7
      obtain ⟨j, hj, rfl, hF, hB⟩ := hrel
      by_cases hlt : j < N
      · have hj1 : (j : Int) < N := by omega
        have hj0 : (0 : Int) ≤ j := by omega
        obtain ⟨⟨y, hcy⟩, hfy⟩ := hF.cell hlt
        have HS := Lib.hid (hF.store hlt)
        have HB := Lib.hid (hB.setCell (p := ⟨w6.heap.size, j, none⟩) hle (.int .u8 97))
        clear hF hB
        go_wp2_with fail
        go_roundw
        case rel => exact ⟨j + 1, by omega, by go_num, HS.out, HB.out⟩
        case measure => simp [intOf]; omega
      · obtain rfl : j = N := by omega
        have hj1 : ¬ (j : Int) < j := by omega
        have kc := byRow_conv Tryd.underlying22 Tryd.underlying5 Tryd.underlying9 hF.done
        clear hF
        go_wp2_with fail
        go_ret
        exact ⟨⟨_, by simp [ByteArray.size]; omega, rfl⟩, hB⟩
end Go.Proofs.YtklhkebpgoajgaaDoor
