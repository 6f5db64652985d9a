/-
  The laws' own helpers on lists of texts: equal, their size, their copy, their marks.
-/
import Derived.Test.YtgknkjiifcnkpaaPk1
import Derived.Deep.QuietTactic
import Derived.Deep.RegionHeld3
import Derived.BigQuiet
import Derived.RegionTactic
import Derived.Lib.AppendStr
import Derived.Laws.IdiomStrings
import Derived.Laws.BytesArg
namespace Go.Proofs.Ytgknkjiifcnkpaa
open Go.RowKit

theorem infoU8 : (Try.prog.info? 5).map (fun i => (i.zero, i.size, i.bytes)) = some (some (.int .u8 0), 1, 1) := by kernel_rfl

/-- v reads as the texts ps in w. -/
def StrRow (w : World) (v : Value) (ps : List (List UInt8)) : Prop :=
  (ps = [] ∧ ∃ a c, v = .slice a 0 c) ∨ ∃ b off c, v = .slice (some ⟨b, off, none⟩) ps.length c ∧ ps.length ≤ 9223372036854775807 ∧ ps.length ≤ c ∧ (∀ (j : Nat) p, ps[j]? = some p → w.cell? ⟨b, off + j, none⟩ = some (.string ⟨p.toArray⟩))

theorem strRow_of_owns {w : World} {base : Nat} {T : TypeId} {v : Value} {ps : List (List UInt8)} (h : w.ownsRow base T 1 v ps.length (strCells ps)) (hl : ps.length ≤ 9223372036854775807) : StrRow w v ps := by
  rcases h.2 with ⟨rfl, h0⟩ | ⟨g, cap, cur, rfl, _, _, hnc, _, _, _⟩
  · exact Or.inl ⟨List.eq_nil_of_length_eq_zero h0, _, _, rfl⟩
  · refine Or.inr ⟨g, 0, cap, rfl, hl, hnc, fun j p hj => ?_⟩
    have hjl := (List.getElem?_eq_some_iff.1 hj).1
    rw [Nat.zero_add, h.cellAt j (by omega)]
    unfold strCells
    rw [List.getElem?_map, hj]
    rfl
theorem StrRow.below {w w' : World} {v : Value} {ps : List (List UInt8)} (h : StrRow w v ps) (hB : Below w.heap.size w w') : StrRow w' v ps := by
  rcases h with ⟨rfl, a, c, rfl⟩ | ⟨b, off, c, rfl, hl, hcap, hc⟩
  · exact Or.inl ⟨rfl, a, c, rfl⟩
  · refine Or.inr ⟨b, off, c, rfl, hl, hcap, fun j p hp => ?_⟩
    exact (hB.cell (p := ⟨b, off + j, none⟩) (World.block_lt_of_cell? w _ (hc j p hp))).trans (hc j p hp)

set_option maxRecDepth 100000 in
theorem eqStr_zero (w : World) (a b : Option Addr) (c d : Nat) :
    Calls Try.prog 72 #[.slice a 0 c, .slice b 0 d] w fun e w' => e = .returned (.bool true) ∧ w = w' := by
  go_enter Try.func72, Try.ntmps72
  go_wp2_with fail
  go_loop [5] (fun i => i = .int .i64 0) (fun _ => 0)
  case atStart => rfl
  case round =>
    subst hrel
    go_wp2_with fail
    go_ret
    exact ⟨rfl, rfl⟩

set_option maxRecDepth 100000 in
set_option maxHeartbeats 1000000 in
theorem eqStr_some (w : World) (b1 o1 c1 b2 o2 c2 : Nat) (ps : List (List UInt8)) (hl : ps.length ≤ 9223372036854775807)
    (h1 : ∀ (j : Nat) p, ps[j]? = some p → w.cell? ⟨b1, o1 + j, none⟩ = some (.string ⟨p.toArray⟩)) (h2 : ∀ (j : Nat) p, ps[j]? = some p → w.cell? ⟨b2, o2 + j, none⟩ = some (.string ⟨p.toArray⟩)) :
    Calls Try.prog 72 #[.slice (some ⟨b1, o1, none⟩) ps.length c1, .slice (some ⟨b2, o2, none⟩) ps.length c2] w fun e w' => e = .returned (.bool true) ∧ ∃ k, w' = w.drewN k := by
  have H1 := Lib.hid h1
  have H2 := Lib.hid h2
  clear h1 h2
  have HN : Hid (∃ n : Nat, ps.length = n) := ⟨_, rfl⟩
  obtain ⟨n, hn⟩ := HN.out
  rw [hn] at hl ⊢
  have HE := Lib.hid hn
  clear hn HN
  go_enter Try.func72, Try.ntmps72
  go_wp2_with fail
  go_loopw [4, 5] (fun _ i wr => ∃ (k q : Nat), k ≤ n ∧ i = .int .i64 k ∧ wr = w.drewN q) (fun _ i _ => n - (intOf i).toNat)
  case atStart => exact ⟨0, 0, Nat.zero_le _, rfl, rfl⟩
  case round =>
    obtain ⟨k, q, hk, rfl, rfl⟩ := hrel
    by_cases hlt : k < n
    · have hk1 : (k : Int) < n := by omega
      have hk0 : (0 : Int) ≤ k := by omega
      obtain ⟨p, hp⟩ : ∃ p, ps[k]? = some p := ⟨_, List.getElem?_eq_getElem (by rw [HE.out]; exact hlt)⟩
      have hc1 := H1.out k p hp
      have hc2 := H2.out k p hp
      have HP := Lib.hid hp
      clear hp
      go_wp2_with fail
      go_quiet (fail)
      go_wp2_with fail
      go_roundw
      case rel => exact ⟨k + 1, _, by omega, by go_num, rfl⟩
      case measure => simp [intOf]; omega
    · have hk1 : ¬ (k : Int) < n := by omega
      go_wp2_with fail
      go_ret
      exact ⟨rfl, q, rfl⟩

/-- TWO LISTS THAT READ ALIKE ARE EQUAL. -/
theorem eqStr (w : World) (v1 v2 : Value) (ps : List (List UInt8)) (h1 : StrRow w v1 ps) (h2 : StrRow w v2 ps) :
    Calls Try.prog 72 #[v1, v2] w fun e w' => e = .returned (.bool true) ∧ ∃ k, w' = w.drewN k := by
  rcases h1 with ⟨rfl, a, c, rfl⟩ | ⟨b1, o1, c1, rfl, hl, _, h1⟩
  · rcases h2 with ⟨_, b, d, rfl⟩ | ⟨b2, o2, c2, rfl, _, _, _⟩
    · exact (eqStr_zero w a b c d).mono fun e w' ⟨he, hw⟩ => ⟨he, 0, hw ▸ rfl⟩
    · exact (eqStr_zero w a _ c c2).mono fun e w' ⟨he, hw⟩ => ⟨he, 0, hw ▸ rfl⟩
  · rcases h2 with ⟨rfl, b, d, rfl⟩ | ⟨b2, o2, c2, rfl, _, _, h2⟩
    · exact (eqStr_zero w _ b c1 d).mono fun e w' ⟨he, hw⟩ => ⟨he, 0, hw ▸ rfl⟩
    · exact eqStr_some w b1 o1 c1 b2 o2 c2 ps hl h1 h2

theorem ret_int {a b : Int} (h : a = b) : Ending.returned (.int .i64 a) = .returned (.int .i64 b) := by rw [h]

/-- What the size counts. -/
def SzOut (tot : Nat) (left : Nat) (e : Ending) : Prop := (tot ≤ left ∧ e = .returned (.int .i64 ((left : Int) - tot))) ∨ (left < tot ∧ e = .returned (.int .i64 (-1)))

set_option maxRecDepth 100000 in
theorem szStr_zero (w : World) (a : Option Addr) (c left : Nat) (hleft : left ≤ 1048576) :
    Calls Try.prog 66 #[.slice a 0 c, .int .i64 left] w fun e w' => e = .returned (.int .i64 left) ∧ w = w' := by
  have h0 : ¬ (left : Int) < 0 := by omega
  go_enter Try.func66, Try.ntmps66
  go_wp2_with fail
  go_loop [1, 4, 5] (fun q _ i => q = .int .i64 left ∧ i = .int .i64 0) (fun _ _ _ => 0)
  case atStart => exact ⟨by simp, rfl⟩
  case round =>
    obtain ⟨rfl, rfl⟩ := hrel
    go_wp2_with fail
    go_ret
    exact ⟨rfl, rfl⟩

set_option maxRecDepth 100000 in
theorem szStr_over (w : World) (a : Option Addr) (n c left : Nat) (hleft : left ≤ 1048576) (hn : n ≤ 9223372036854775807) (h : left < n) :
    Calls Try.prog 66 #[.slice a n c, .int .i64 left] w fun e w' => e = .returned (.int .i64 (-1)) ∧ w = w' := by
  have h0 : (left : Int) - n < 0 := by omega
  go_enter Try.func66, Try.ntmps66
  go_wp2_with fail
  go_ret
  exact ⟨rfl, rfl⟩

set_option maxRecDepth 100000 in
set_option maxHeartbeats 1000000 in
theorem szStr_some (w : World) (b off c left : Nat) (ps : List (List UInt8)) (hleft : left ≤ 1048576) (hl : ps.length ≤ left) (hsz : ∀ p ∈ ps, p.length ≤ 9223372036854775807)
    (hc : ∀ (j : Nat) p, ps[j]? = some p → w.cell? ⟨b, off + j, none⟩ = some (.string ⟨p.toArray⟩)) :
    Calls Try.prog 66 #[.slice (some ⟨b, off, none⟩) ps.length c, .int .i64 left] w fun e w' => SzOut (ps.length + lensum ps) left e ∧ w = w' := by
  have HC := Lib.hid hc
  have HZ := Lib.hid hsz
  clear hc hsz
  obtain ⟨n, hn⟩ : ∃ n : Nat, ps.length = n := ⟨_, rfl⟩
  rw [hn] at hl ⊢
  have HE := Lib.hid hn
  clear hn
  have h0 : ¬ (left : Int) - n < 0 := by omega
  go_enter Try.func66, Try.ntmps66
  go_wp2_with fail
  go_loop [1, 4, 5] (fun q _ i => ∃ (k m : Nat), k ≤ n ∧ i = .int .i64 k ∧ q = .int .i64 m ∧ m + n + lensum (ps.take k) = left) (fun _ _ i => n - (intOf i).toNat)
  case atStart => exact ⟨0, left - n, Nat.zero_le _, rfl, by go_num, by simp [lensum]; omega⟩
  case round =>
    obtain ⟨k, m, hk, rfl, rfl, hm⟩ := hrel
    have HMM := Lib.hid hm
    have hm1 : m ≤ left := by omega
    clear hm
    by_cases hlt : k < n
    · have hk1 : (k : Int) < n := by omega
      have hk0 : (0 : Int) ≤ k := by omega
      obtain ⟨p, hp⟩ : ∃ p, ps[k]? = some p := ⟨_, List.getElem?_eq_getElem (by rw [HE.out]; exact hlt)⟩
      have hck := HC.out k p hp
      have hpz := HZ.out p (List.mem_of_getElem? hp)
      have HS : Hid (lensum (ps.take (k + 1)) = lensum (ps.take k) + p.length) := lensum_take_succ hp
      have HLE : Hid (lensum (ps.take (k + 1)) ≤ lensum ps) := lensum_take_le ps (k + 1)
      clear hp
      by_cases hneg : (m : Int) - p.length < 0
      · go_wp2_with fail
        go_ret
        refine ⟨Or.inr ⟨?_, rfl⟩, rfl⟩
        have h1 := HMM.out
        have h2 := HS.out
        have h3 := HLE.out
        omega
      · go_wp2_with fail
        go_round
        case rel =>
          refine ⟨k + 1, m - p.length, by omega, by go_num, by go_num, ?_⟩
          have h1 := HMM.out
          have h2 := HS.out
          omega
        case measure => simp [intOf]; omega
    · obtain rfl : k = n := by omega
      have hk1 : ¬ (k : Int) < k := by omega
      go_wp2_with fail
      go_ret
      have h1 := HMM.out
      have e : ps.take k = ps := List.take_of_length_le (by rw [HE.out]; exact Nat.le_refl _)
      rw [e] at h1
      exact ⟨Or.inl ⟨by omega, ret_int (by omega)⟩, rfl⟩

/-- THE SIZE OF A LIST OF TEXTS. -/
theorem szStr (w : World) (v : Value) (left : Nat) (ps : List (List UInt8)) (h : StrRow w v ps) (hleft : left ≤ 1048576) (hsz : ∀ p ∈ ps, p.length ≤ 9223372036854775807) :
    Calls Try.prog 66 #[v, .int .i64 left] w fun e w' => SzOut (ps.length + lensum ps) left e ∧ w = w' := by
  rcases h with ⟨rfl, a, c, rfl⟩ | ⟨b, off, c, rfl, hl, _, hc⟩
  · exact (szStr_zero w a c left hleft).mono fun e w' ⟨he, hw⟩ => ⟨Or.inl ⟨by simp [lensum], by rw [he]; simp [lensum]⟩, hw⟩
  · by_cases ho : left < ps.length
    · exact (szStr_over w _ ps.length c left hleft (by omega) ho).mono fun e w' ⟨he, hw⟩ => ⟨Or.inr ⟨by omega, he⟩, hw⟩
    · exact szStr_some w b off c left ps hleft (by omega) hsz hc

/-- The first j cells of a row are the texts ps. -/
def Filled (w : World) (base : Nat) (v : Value) (n : Nat) (ps : List (List UInt8)) (j : Nat) : Prop := ∃ xs : List Value, w.ownsRow base 9 1 v n xs ∧ ∀ i p, i < j → ps[i]? = some p → xs[i]? = some (.string ⟨p.toArray⟩)

theorem Filled.cell {w : World} {base g cap : Nat} {n j : Nat} {ps : List (List UInt8)} (h : Filled w base (.slice (some ⟨g, 0, none⟩) n cap) n ps j) {i : Nat} (hi : i < n) : (∃ x, w.cell? ⟨g, i, none⟩ = some x) ∧ w.frozen? ⟨g, i, none⟩ = false := by
  obtain ⟨xs, ho, hx⟩ := h
  have hxl := ho.1
  refine ⟨⟨xs[i]'(by omega), ?_⟩, ho.frozenAt i⟩
  rw [ho.cellAt i (by omega), List.getElem?_eq_getElem (by omega)]
theorem Filled.store {w : World} {base g cap : Nat} {n j : Nat} {ps : List (List UInt8)} {p : List UInt8} (h : Filled w base (.slice (some ⟨g, 0, none⟩) n cap) n ps j) (hj : j < n) (hp : ps[j]? = some p) :
    Filled (w.setCell ⟨g, j, none⟩ (.string ⟨p.toArray⟩)) base (.slice (some ⟨g, 0, none⟩) n cap) n ps (j + 1) := by
  obtain ⟨xs, ho, hx⟩ := h
  have hs := ho.stored j (.string ⟨p.toArray⟩)
  have hxl := ho.1
  refine ⟨_, hs.1, fun i q hi hq => ?_⟩
  rw [List.getElem?_set]
  by_cases e : j = i
  · subst e
    rw [hp] at hq
    obtain rfl := Option.some.inj hq
    rw [if_pos rfl, if_pos (by omega)]
  · rw [if_neg e]
    exact hx i q (by omega) hq
theorem Filled.done {w : World} {base : Nat} {v : Value} {ps : List (List UInt8)} (h : Filled w base v ps.length ps ps.length) : w.ownsRow base 9 1 v ps.length (strCells ps) := by
  obtain ⟨xs, ho, hx⟩ := h
  have e : xs = strCells ps := by
    refine List.ext_getElem? fun i => ?_
    have hxl := ho.1
    by_cases hi : i < ps.length
    · rw [hx i ps[i] hi (List.getElem?_eq_getElem hi), strCells, List.getElem?_map, List.getElem?_eq_getElem hi]; rfl
    · rw [List.getElem?_eq_none (by omega), List.getElem?_eq_none (by rw [strCells_len]; omega)]
  rw [e] at ho
  exact ho

set_option maxRecDepth 100000 in
set_option maxHeartbeats 1000000 in
theorem toStr_some (w : World) (b off c : Nat) (ps : List (List UInt8)) (hl : ps.length ≤ 1048576)
    (hc : ∀ (j : Nat) p, ps[j]? = some p → w.cell? ⟨b, off + j, none⟩ = some (.string ⟨p.toArray⟩)) :
    Calls Try.prog 69 #[.slice (some ⟨b, off, none⟩) ps.length c] w fun e w' => ∃ v, e = .returned v ∧ w'.ownsRow w.heap.size 9 1 v ps.length (strCells ps) ∧ Below w.heap.size w w' := by
  obtain ⟨i0, hi, hz0, hz1, hz2⟩ := info_parts infoStr
  have HC := Lib.hid hc
  clear hc
  have HF : Hid (∀ (w' : World) (v : Value) (n : Nat), ps.length = n → Filled w' w.heap.size v n ps n → w'.ownsRow w.heap.size 9 1 v n (strCells ps)) := fun w' v n hn h => by
    subst hn; exact h.done
  obtain ⟨n, hn⟩ : ∃ n : Nat, ps.length = n := ⟨_, rfl⟩
  rw [hn] at hl ⊢
  have HE := Lib.hid hn
  clear hn
  go_enter Try.func69, Try.ntmps69
  go_wp2_with (at_make; refine wpList_make_full _ rfl _ _ 31 rfl w.heap.size 9 i0 (.string ByteArray.empty) 1 Try.underlying31 hi hz0 hz1 .i64 .i64 _ _ n rfl rfl rfl rfl ?c1 ?c2 ?c3 ?_)
  case c1 => rw [hz2]; omega
  case c2 => unfold maxLen; omega
  case c3 => exact Nat.le_refl _
  intro w1 hown hg1
  have hB1 : Below w.heap.size w w1 := (Below.refl w.heap.size w).grown hg1 (Nat.le_refl _) (fun k hk => by cases hk)
  have hF1 : Filled w1 w.heap.size (.slice (some ⟨w.heap.size, 0, none⟩) n n) n ps 0 := ⟨_, hown, fun i p hi => by omega⟩
  clear hown hg1
  go_wp2_with fail
  go_loopw [4] (fun i wr => ∃ (j : Nat), j ≤ n ∧ i = .int .i64 j ∧ Filled wr w.heap.size (.slice (some ⟨w.heap.size, 0, none⟩) n n) n ps j ∧ Below w.heap.size w wr) (fun i _ => n - (intOf i).toNat)
  case atStart => exact ⟨0, Nat.zero_le _, rfl, hF1, hB1⟩
  case round =>
    obtain ⟨j, hj, rfl, hF, hB⟩ := hrel
    by_cases hlt : j < n
    · have hj1 : (j : Int) < n := by omega
      have hj0 : (0 : Int) ≤ j := by omega
      obtain ⟨p, hp⟩ : ∃ p, ps[j]? = some p := ⟨_, List.getElem?_eq_getElem (by rw [HE.out]; exact hlt)⟩
      have hcj0 := HC.out j p hp
      have hcj := (hB.cell (p := ⟨b, off + j, none⟩) (World.block_lt_of_cell? w _ hcj0)).trans hcj0
      obtain ⟨⟨x, hcx⟩, hfx⟩ := hF.cell hlt
      have HS := Lib.hid (hF.store hlt hp)
      have HB := Lib.hid (hB.setCell (p := ⟨w.heap.size, j, none⟩) (Nat.le_refl _) (.string ⟨p.toArray⟩))
      clear hF hp hcj0 hB hF1 hB1
      go_wp2_with fail
      go_roundw
      case rel => exact ⟨j + 1, by omega, by go_num, HS.out, HB.out⟩
      case measure => simp [intOf]; omega
    · obtain rfl : j = n := by omega
      have hj1 : ¬ (j : Int) < j := by omega
      go_wp2_with fail
      go_ret
      exact ⟨_, rfl, HF.out _ _ _ HE.out hF, hB⟩

set_option maxRecDepth 100000 in
theorem toStr_zero (w : World) (a : Option Addr) (c : Nat) :
    Calls Try.prog 69 #[.slice a 0 c] w fun e w' => ∃ v, e = .returned v ∧ w'.ownsRow w.heap.size 9 1 v 0 [] ∧ Below w.heap.size w w' := by
  obtain ⟨i0, hi, hz0, hz1, hz2⟩ := info_parts infoStr
  go_enter Try.func69, Try.ntmps69
  go_wp2_with (at_make; refine wpList_make_full _ rfl _ _ 31 rfl w.heap.size 9 i0 (.string ByteArray.empty) 1 Try.underlying31 hi hz0 hz1 .i64 .i64 _ _ 0 rfl rfl rfl rfl ?c1 ?c2 ?c3 ?_)
  case c1 => omega
  case c2 => unfold maxLen; omega
  case c3 => exact Nat.le_refl _
  intro w1 hown hg1
  have hB1 : Below w.heap.size w w1 := (Below.refl w.heap.size w).grown hg1 (Nat.le_refl _) (fun k hk => by cases hk)
  have hown0 : w1.ownsRow w.heap.size 9 1 (.slice (some ⟨w.heap.size, 0, none⟩) 0 0) 0 [] := by simpa [madeCells] using hown
  clear hg1 hown
  go_wp2_with fail
  go_loop [4] (fun i => i = .int .i64 0) (fun _ => 0)
  case atStart => rfl
  case round =>
    subst hrel
    go_wp2_with fail
    go_ret
    exact ⟨_, rfl, hown0, hB1⟩

/-- THE COPY OF A LIST OF TEXTS. -/
theorem toStr (w : World) (v : Value) (ps : List (List UInt8)) (h : StrRow w v ps) (hl : ps.length ≤ 1048576) :
    Calls Try.prog 69 #[v] w fun e w' => ∃ v, e = .returned v ∧ w'.ownsRow w.heap.size 9 1 v ps.length (strCells ps) ∧ Below w.heap.size w w' := by
  rcases h with ⟨rfl, a, c, rfl⟩ | ⟨b, off, c, rfl, _, _, hc⟩
  · exact toStr_zero w a c
  · exact toStr_some w b off c ps hl hc

/-- The k-th mark. -/
def markOf (k : Nat) : List UInt8 := 109 :: Lib.decDigits k

set_option maxRecDepth 100000 in
set_option maxHeartbeats 1000000 in
theorem markText (u : Nat) (hu : u ≠ 0) (hb : u ≤ 9223372036854775807) (w : World) :
    Calls Try.prog 92 #[.int .i64 u] w fun e w' => e = .returned (.string ⟨(markOf u).toArray⟩) ∧ Below w.heap.size w w' := by
  have hz : ¬ ((u : Int) ≤ 0) := by omega
  go_enter Try.func92, Try.ntmps92
  go_wp2_with fail
  go_loopw [0, 3] (fun n o wr => ∃ (v : Nat) (l : List UInt8), v ≤ u ∧ n = .int .i64 v ∧ o = .string ⟨l.toArray⟩ ∧ DigInv u v l ∧ Below w.heap.size w wr) (fun n _ _ => (intOf n).toNat)
  case atStart => exact ⟨u, [], Nat.le_refl _, rfl, rfl, digInv_start hu, Below.refl _ _⟩
  case round =>
    obtain ⟨v, l, hv, rfl, rfl, hI, hB⟩ := hrel
    have hlen := digInv_len hI
    have hdec := decDigits_len (u := u) (by omega)
    have hsum : 1 + l.length ≤ 9223372036854775807 := by omega
    by_cases h0 : v = 0
    · have hz0 : ¬ (0 : Int) < v := by omega
      have H0 := Lib.hid h0
      clear h0
      go_wp2_with fail
      go_ret
      exact ⟨ret_add (by rw [digInv_done hI H0.out]; rfl), hB⟩
    · have hI2 := digInv_step hI h0
      have hz0 : (0 : Int) < v := by omega
      have kc := conv_one Try.underlying22 Try.underlying5 Try.underlying9 (48 + v % 10) (by omega) (48 + (v : Int) % 10) (by omega) 1
      go_wp2_with fail
      go_roundw
      case rel => exact ⟨v / 10, _, by omega, by go_num, rfl, by simpa using hI2, hB.alloc hB.size _⟩
      case measure => simp [intOf]; omega

theorem markTextI (z : Int) (u : Nat) (hz : z = u) (hu : u ≠ 0) (hb : u ≤ 9223372036854775807) (w : World) :
    Calls Try.prog 92 #[.int .i64 z] w fun e w' => e = .returned (.string ⟨(markOf u).toArray⟩) ∧ Below w.heap.size w w' := by
  subst hz
  exact markText u hu hb w

theorem grown_of_below {w w' : World} (h : Below w.heap.size w w') (r : Option Nat) : w.grownBy w' r := ⟨h.os, h.tape, h.output, h.size, fun k hk _ => h.block k hk⟩

/-- The marks from k on, j of them. -/
def marks (k j : Nat) : List (List UInt8) := (List.range j).map fun i => markOf (k + i)
theorem marks_len (k j : Nat) : (marks k j).length = j := by simp [marks]
theorem marks_at {k j i : Nat} (h : i < j) : (marks k j)[i]? = some (markOf (k + i)) := by simp [marks, h]

/-- j of the row's cells are marked, the others are as they were. -/
def Marked (w : World) (base : Nat) (T : TypeId) (v : Value) (n k j : Nat) : Prop := ∃ xs : List Value, w.ownsRow base T 1 v n xs ∧ ∀ i, i < j → xs[i]? = some (.string ⟨(markOf (k + i)).toArray⟩)

theorem strRow_of_marked {w : World} {base : Nat} {T : TypeId} {v : Value} {n k : Nat} (h : Marked w base T v n k n) (hl : n ≤ 140737488355328) : StrRow w v (marks k n) := by
  obtain ⟨xs, ho, hx⟩ := h
  have e : xs = strCells (marks k n) := by
    refine List.ext_getElem? fun i => ?_
    by_cases hi : i < n
    · rw [hx i hi, strCells, List.getElem?_map, marks_at hi]; rfl
    · have hxl := ho.1
      rw [List.getElem?_eq_none (by omega), List.getElem?_eq_none (by rw [strCells_len, marks_len]; omega)]
  rw [e] at ho
  have hn := marks_len k n
  refine strRow_of_owns (base := base) (T := T) ?_ (by omega)
  rw [hn]
  exact ho

theorem Marked.below {w w' : World} {base : Nat} {T : TypeId} {v : Value} {n k j : Nat} (h : Marked w base T v n k j) (hB : Below w.heap.size w w') : Marked w' base T v n k j := by
  obtain ⟨xs, ho, hx⟩ := h
  exact ⟨xs, ho.kept (grown_of_below hB none) (by cases hv : v.ownBlock <;> simp), hx⟩
theorem Marked.store {w : World} {base g cap : Nat} {T : TypeId} {n k j : Nat} (h : Marked w base T (.slice (some ⟨g, 0, none⟩) n cap) n k j) (hj : j < n) :
    Marked (w.setCell ⟨g, j, none⟩ (.string ⟨(markOf (k + j)).toArray⟩)) base T (.slice (some ⟨g, 0, none⟩) n cap) n k (j + 1) ∧ w.grownBy (w.setCell ⟨g, j, none⟩ (.string ⟨(markOf (k + j)).toArray⟩)) (some g) := by
  obtain ⟨xs, ho, hx⟩ := h
  have hs := ho.stored j (.string ⟨(markOf (k + j)).toArray⟩)
  refine ⟨⟨_, hs.1, fun i hi => ?_⟩, hs.2⟩
  have hxl := ho.1
  rw [List.getElem?_set]
  by_cases e : j = i
  · subst e
    rw [if_pos rfl, if_pos (by omega)]
  · rw [if_neg e]
    exact hx i (by omega)
theorem Marked.cell {w : World} {base g cap : Nat} {T : TypeId} {n k j : Nat} (h : Marked w base T (.slice (some ⟨g, 0, none⟩) n cap) n k j) {i : Nat} (hi : i < n) : (∃ x, w.cell? ⟨g, i, none⟩ = some x) ∧ w.frozen? ⟨g, i, none⟩ = false := by
  obtain ⟨xs, ho, hx⟩ := h
  have hxl := ho.1
  refine ⟨⟨xs[i]'(by omega), ?_⟩, ho.frozenAt i⟩
  rw [ho.cellAt i (by omega), List.getElem?_eq_getElem (by omega)]

set_option maxRecDepth 100000 in
set_option maxHeartbeats 1000000 in
theorem markStr_some (w : World) (base g n cap k : Nat) (xs : List Value) (hown : w.ownsRow base 9 1 (.slice (some ⟨g, 0, none⟩) n cap) n xs) (hk : 1 ≤ k) (hl : n ≤ 140737488355328) (hkl : k ≤ 140737488355328) :
    Calls Try.prog 73 #[.slice (some ⟨g, 0, none⟩) n cap, .int .i64 k] w fun e w' => e = .returned (.int .i64 ((k : Int) + n)) ∧ Marked w' base 9 (.slice (some ⟨g, 0, none⟩) n cap) n k n ∧ w.grownBy w' (some g) := by
  go_enter Try.func73, Try.ntmps73
  go_wp2_with fail
  go_loopw [1, 5] (fun q i wr => ∃ (j : Nat), j ≤ n ∧ i = .int .i64 j ∧ q = .int .i64 ((k : Int) + j) ∧ Marked wr base 9 (.slice (some ⟨g, 0, none⟩) n cap) n k j ∧ w.grownBy wr (some g)) (fun _ i _ => n - (intOf i).toNat)
  case atStart => exact ⟨0, Nat.zero_le _, rfl, by simp, ⟨xs, hown, fun i hi => by omega⟩, grownBy_refl _ _⟩
  case round =>
    obtain ⟨j, hj, rfl, rfl, hM, hg⟩ := hrel
    by_cases hlt : j < n
    · have hj1 : (j : Int) < n := by omega
      have hj0 : (0 : Int) ≤ j := by omega
      go_wp2_with fail
      refine (markTextI ((k : Int) + j) (k + j) (by omega) (by omega) (by omega) _).mono ?_
      rintro e w1 ⟨rfl, hB1⟩
      have hM1 := hM.below hB1
      obtain ⟨⟨x, hcx⟩, hfx⟩ := hM1.cell hlt
      have hS := hM1.store hlt
      have hg1 := grownBy_trans (grownBy_trans hg (grown_of_below hB1 (some g))) hS.2
      have HM := Lib.hid hS.1
      have HG := Lib.hid hg1
      clear hS hg1 hM1 hM hg
      go_wp2_with fail
      go_roundw
      case rel => exact ⟨j + 1, by omega, by go_num, by go_num, HM.out, HG.out⟩
      case measure => simp [intOf]; omega
    · obtain rfl : j = n := by omega
      have hj1 : ¬ (j : Int) < j := by omega
      go_wp2_with fail
      go_ret
      exact ⟨rfl, hM, hg⟩

set_option maxRecDepth 100000 in
theorem markStr_nil (w : World) (c k : Nat) :
    Calls Try.prog 73 #[.slice none 0 c, .int .i64 k] w fun e w' => e = .returned (.int .i64 k) ∧ w = w' := by
  go_enter Try.func73, Try.ntmps73
  go_wp2_with fail
  go_loop [1, 5] (fun q i => q = .int .i64 k ∧ i = .int .i64 0) (fun _ _ => 0)
  case atStart => exact ⟨rfl, rfl⟩
  case round =>
    obtain ⟨rfl, rfl⟩ := hrel
    go_wp2_with fail
    go_ret
    exact ⟨rfl, rfl⟩

/-- MARKING A ROW OF THE CALL's OWN. -/
theorem markStr (w : World) (base n k : Nat) (v : Value) (xs : List Value) (hown : w.ownsRow base 9 1 v n xs) (hk : 1 ≤ k) (hl : n ≤ 140737488355328) (hkl : k ≤ 140737488355328) :
    Calls Try.prog 73 #[v, .int .i64 k] w fun e w' => e = .returned (.int .i64 ((k : Int) + n)) ∧ Marked w' base 9 v n k n ∧ w.grownBy w' v.ownBlock := by
  have ho := hown
  rcases hown.2 with ⟨rfl, rfl⟩ | ⟨g, cap, cur, rfl, _⟩
  · exact (markStr_nil w 0 k).mono fun e w' ⟨he, hw⟩ => ⟨by rw [he]; simp, ⟨xs, hw ▸ ho, fun i hi => by omega⟩, hw ▸ grownBy_refl _ _⟩
  · exact markStr_some w base g n cap k xs ho hk hl hkl

theorem markTextS (W0 : World) (b o : Nat) (x : Value) (z : Int) (u : Nat) (hz : z = u) (hu : u ≠ 0) (hb : u ≤ 9223372036854775807) (w : World) (h : w.cell? ⟨b, o, none⟩ = some x ∧ Below W0.heap.size W0 w) :
    Calls Try.prog 92 #[.int .i64 z] w fun e w' => e = .returned (.string ⟨(markOf u).toArray⟩) ∧ w'.cell? ⟨b, o, none⟩ = some x ∧ Below W0.heap.size W0 w' := by
  refine (markTextI z u hz hu hb w).mono fun e w' ⟨he, hB⟩ => ⟨he, ?_, h.2.trans (hB.mono h.2.size)⟩
  exact (hB.cell (p := ⟨b, o, none⟩) (World.block_lt_of_cell? w _ h.1)).trans h.1

end Go.Proofs.Ytgknkjiifcnkpaa
