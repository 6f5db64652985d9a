/-
  The laws' own helpers on lists of lists of texts: their size, their copy, their marks.
-/
import Derived.Test.YtklhkebpgoajgaaDoorRowSS
namespace Go.Proofs.YtklhkebpgoajgaaDoor
open Go.RowKit

/-- What the size of a list of rows counts. -/
def szL (L : List (List (List UInt8))) : Nat := (L.map fun r => r.length + lensum r).sum
theorem szL_take_succ {L : List (List (List UInt8))} {k : Nat} {p : List (List UInt8)} (h : L[k]? = some p) : szL (L.take (k + 1)) = szL (L.take k) + (p.length + lensum p) := by
  unfold szL
  rw [List.take_add_one, h, List.map_append, List.sum_append]
  simp
theorem szL_take_le (L : List (List (List UInt8))) (k : Nat) : szL (L.take k) ≤ szL L := by
  have e : szL L = szL (L.take k) + szL (L.drop k) := by
    unfold szL
    rw [← List.sum_append, ← List.map_append, List.take_append_drop]
  omega
theorem szL_mem {L : List (List (List UInt8))} {r : List (List UInt8)} (h : r ∈ L) : r.length + lensum r ≤ szL L := by
  induction L with
  | nil => cases h
  | cons a t ih =>
    have e : szL (a :: t) = (a.length + lensum a) + szL t := by simp [szL]
    rcases List.mem_cons.1 h with rfl | h
    · omega
    · have := ih h
      omega

theorem szStr_fits (w : World) (v : Value) (left : Nat) (ps : List (List UInt8)) (h : StrRow w v ps) (hleft : left ≤ 1048576) (hsz : ∀ p ∈ ps, p.length ≤ 9223372036854775807) (hf : ps.length + lensum ps ≤ left) :
    Calls Tryd.prog 40 #[v, .int .i64 left] w fun e w' => e = .returned (.int .i64 ((left - (ps.length + lensum ps) : Nat) : Int)) ∧ w = w' :=
  (szStr w v left ps h hleft hsz).mono fun e w' ⟨he, hw⟩ => ⟨by
    rcases he with ⟨_, he⟩ | ⟨hlt, _⟩
    · rw [he]
      exact ret_int (by omega)
    · omega, hw⟩
theorem szStr_not (w : World) (v : Value) (left : Nat) (ps : List (List UInt8)) (h : StrRow w v ps) (hleft : left ≤ 1048576) (hsz : ∀ p ∈ ps, p.length ≤ 9223372036854775807) (hf : left < ps.length + lensum ps) :
    Calls Tryd.prog 40 #[v, .int .i64 left] w fun e w' => e = .returned (.int .i64 (-1)) ∧ w = w' :=
  (szStr w v left ps h hleft hsz).mono fun e w' ⟨he, hw⟩ => ⟨by
    rcases he with ⟨hle, _⟩ | ⟨_, he⟩
    · omega
    · exact he, hw⟩

set_option maxRecDepth 100000 in
theorem szSS_zero (w : World) (a : Option Addr) (c left : Nat) (hleft : left ≤ 1048576) :
    Calls Tryd.prog 19 #[.slice a 0 c, .int .i64 left] w fun e w' => e = .returned (.int .i64 left) ∧ w = w' := by
  have h0 : ¬ (left : Int) < 0 := by omega
  go_enter Tryd.func19, Tryd.ntmps19
  go_wp2_with fail
  go_loop [1, 4, 5] (fun q _ i => q = .int .i64 left ∧ i = .int .i64 0) (fun _ _ _ => 0)
  case atStart => exact ⟨by simp, rfl⟩
  case round =>
    obtain ⟨rfl, rfl⟩ := hrel
    go_wp2_with fail
    go_ret
    exact ⟨rfl, rfl⟩

set_option maxRecDepth 100000 in
theorem szSS_over (w : World) (a : Option Addr) (n c left : Nat) (hleft : left ≤ 1048576) (hn : n ≤ 9223372036854775807) (h : left < n) :
    Calls Tryd.prog 19 #[.slice a n c, .int .i64 left] w fun e w' => e = .returned (.int .i64 (-1)) ∧ w = w' := by
  have h0 : (left : Int) - n < 0 := by omega
  go_enter Tryd.func19, Tryd.ntmps19
  go_wp2_with fail
  go_ret
  exact ⟨rfl, rfl⟩

set_option maxRecDepth 100000 in
set_option maxHeartbeats 1000000 in
theorem szSS_some (w : World) (b off c left : Nat) (L : List (List (List UInt8))) (hleft : left ≤ 1048576) (hl : L.length ≤ left) (hsz : ∀ r ∈ L, ∀ p ∈ r, p.length ≤ 9223372036854775807)
    (hc : ∀ (j : Nat) row, L[j]? = some row → ∃ u, w.cell? ⟨b, off + j, none⟩ = some u ∧ StrRow w u row) :
    Calls Tryd.prog 19 #[.slice (some ⟨b, off, none⟩) L.length c, .int .i64 left] w fun e w' => SzOut (L.length + szL L) left e ∧ w = w' := by
  have HC := Lib.hid hc
  have HZ := Lib.hid hsz
  clear hc hsz
  obtain ⟨n, hn⟩ : ∃ n : Nat, L.length = n := ⟨_, rfl⟩
  rw [hn] at hl ⊢
  have HE := Lib.hid hn
  clear hn
  have h0 : ¬ (left : Int) - n < 0 := by omega
  go_enter Tryd.func19, Tryd.ntmps19
  go_wp2_with fail
  go_loop [1, 4, 5] (fun q _ i => ∃ (k m : Nat), k ≤ n ∧ i = .int .i64 k ∧ q = .int .i64 m ∧ m + n + szL (L.take k) = left) (fun _ _ i => n - (intOf i).toNat)
  case atStart => exact ⟨0, left - n, Nat.zero_le _, rfl, by go_num, by simp [szL]; omega⟩
  case round =>
    obtain ⟨k, m, hk, rfl, rfl, hm⟩ := hrel
    have HMM := Lib.hid hm
    have hm1 : m ≤ left := by omega
    clear hm
    by_cases hlt : k < n
    · have hk1 : (k : Int) < n := by omega
      have hk0 : (0 : Int) ≤ k := by omega
      obtain ⟨p, hp⟩ : ∃ p, L[k]? = some p := ⟨_, List.getElem?_eq_getElem (by rw [HE.out]; exact hlt)⟩
      obtain ⟨u, hck, hru⟩ := HC.out k p hp
      have hpz := HZ.out p (List.mem_of_getElem? hp)
      have HS : Hid (szL (L.take (k + 1)) = szL (L.take k) + (p.length + lensum p)) := szL_take_succ hp
      have HLE : Hid (szL (L.take (k + 1)) ≤ szL L) := szL_take_le L (k + 1)
      clear hp
      by_cases hneg : m < p.length + lensum p
      · have HK := Lib.hid (szStr_not w u m p hru (by omega) hpz hneg)
        clear hru hpz
        go_wp2_with fail
        refine HK.out.mono ?_
        rintro e w1 ⟨rfl, rfl⟩
        go_wp2_with fail
        go_ret
        refine ⟨Or.inr ⟨?_, rfl⟩, rfl⟩
        have h1 := HMM.out
        have h2 := HS.out
        have h3 := HLE.out
        omega
      · have HK := Lib.hid (szStr_fits w u m p hru (by omega) hpz (by omega))
        obtain ⟨r, hr⟩ : ∃ r : Nat, m - (p.length + lensum p) = r := ⟨_, rfl⟩
        rw [hr] at HK
        have HR : Hid (m = r + (p.length + lensum p)) := Lib.hid (by omega)
        have hr0 : ¬ (r : Int) < 0 := by omega
        clear hru hpz hr hneg
        go_wp2_with fail
        refine HK.out.mono ?_
        rintro e w1 ⟨rfl, rfl⟩
        go_wp2_with fail
        go_round
        case rel =>
          refine ⟨k + 1, r, by omega, by go_num, rfl, ?_⟩
          have h1 := HMM.out
          have h2 := HS.out
          have h3 := HR.out
          omega
        case measure => simp [intOf]; omega
    · obtain rfl : k = n := by omega
      have hk1 : ¬ (k : Int) < k := by omega
      go_wp2_with fail
      go_ret
      have h1 := HMM.out
      have e : L.take k = L := List.take_of_length_le (by rw [HE.out]; exact Nat.le_refl _)
      rw [e] at h1
      exact ⟨Or.inl ⟨by omega, ret_int (by omega)⟩, rfl⟩

/-- THE SIZE OF A LIST OF ROWS. -/
theorem szSS (w : World) (v : Value) (left : Nat) (L : List (List (List UInt8))) (h : SSRow w v L) (hleft : left ≤ 1048576) (hsz : ∀ r ∈ L, ∀ p ∈ r, p.length ≤ 9223372036854775807) :
    Calls Tryd.prog 19 #[v, .int .i64 left] w fun e w' => SzOut (L.length + szL L) left e ∧ w = w' := by
  rcases h with ⟨rfl, a, c, rfl⟩ | ⟨b, off, c, rfl, hl, _, hc⟩
  · exact (szSS_zero w a c left hleft).mono fun e w' ⟨he, hw⟩ => ⟨Or.inl ⟨by simp [szL], by rw [he]; simp [szL]⟩, hw⟩
  · by_cases ho : left < L.length
    · exact (szSS_over w _ L.length c left hleft (by omega) ho).mono fun e w' ⟨he, hw⟩ => ⟨Or.inr ⟨by omega, he⟩, hw⟩
    · exact szSS_some w b off c left L hleft (by omega) hsz hc

/-- The first j rows are copied. -/
def SSFilled (w : World) (base : Nat) (v : Value) (n : Nat) (L : List (List (List UInt8))) (j : Nat) : Prop :=
  ∃ vs : List Value, w.ownsRow base 45 1 v n vs ∧ RowsOwn w base 9 (vs.take j) ((L.take j).map strCells)
theorem SSFilled.done {w : World} {base : Nat} {v : Value} {L : List (List (List UInt8))} (h : SSFilled w base v L.length L L.length) : SSOwn w base v L := by
  obtain ⟨vs, ho, hr⟩ := h
  have hlen := ho.1
  rw [List.take_of_length_le (by omega), List.take_of_length_le (Nat.le_refl _)] at hr
  exact ⟨vs, ho, hr⟩
theorem SSFilled.cell {w : World} {base g cap : Nat} {n j : Nat} {L : List (List (List UInt8))} (h : SSFilled w base (.slice (some ⟨g, 0, none⟩) n cap) n L j) {i : Nat} (hi : i < n) : (∃ x, w.cell? ⟨g, i, none⟩ = some x) ∧ w.frozen? ⟨g, i, none⟩ = false := by
  obtain ⟨xs, ho, hx⟩ := h
  have hxl := ho.1
  refine ⟨⟨xs[i]'(by omega), ?_⟩, ho.frozenAt i⟩
  rw [ho.cellAt i (by omega), List.getElem?_eq_getElem (by omega)]
theorem SSFilled.below {w w' : World} {base n j : Nat} {v : Value} {L : List (List (List UInt8))} (h : SSFilled w base v n L j) (hB : Below w.heap.size w w') : SSFilled w' base v n L j := by
  obtain ⟨vs, ho, hr⟩ := h
  exact ⟨vs, ho.kept (grown_of_below hB none) (by cases hv : v.ownBlock <;> simp), hr.below hB⟩
theorem SSFilled.step {wr w : World} {base g cap : Nat} {n j : Nat} {L : List (List (List UInt8))} {p : List (List UInt8)} {u : Value} (h : SSFilled wr base (.slice (some ⟨g, 0, none⟩) n cap) n L j) (hB : Below wr.heap.size wr w) (hj : j < n) (hp : L[j]? = some p)
    (hu : w.ownsRow wr.heap.size 9 1 u p.length (strCells p)) (hlo : base ≤ wr.heap.size) :
    SSFilled (w.setCell ⟨g, j, none⟩ u) base (.slice (some ⟨g, 0, none⟩) n cap) n L (j + 1) := by
  obtain ⟨vs, ho0, hr0⟩ := h
  have ho := ho0.kept (grown_of_below hB none) (Or.inr (by simp [Value.ownBlock]))
  have hr := hr0.below hB
  have hs := ho.stored j u
  have hxl := ho.1
  have hT : 9 ≠ 45 := by decide
  have hr2 := hr.outer ho hT hs.2
  have hu2 : (w.setCell ⟨g, j, none⟩ u).ownsRow base 9 1 u (strCells p).length (strCells p) := by
    rw [strCells_len]
    refine World.ownsRow.mono (hu.kept hs.2 ?_) hlo
    cases hb : u.ownBlock with
    | none => exact Or.inl rfl
    | some b => exact Or.inr (fun e => owns_apart hu ho hT b hb e.symm)
  refine ⟨_, hs.1, ?_⟩
  have e1 : (vs.set j u).take (j + 1) = vs.take j ++ [u] := by
    have hjv : j < vs.length := by omega
    rw [List.take_add_one, List.getElem?_set_self hjv, List.take_set_of_le (Nat.le_refl _)]
    rfl
  have e2 : (L.take (j + 1)).map strCells = (L.take j).map strCells ++ [strCells p] := by
    rw [List.take_add_one, hp, List.map_append]
    rfl
  rw [e1, e2]
  exact hr2.snoc (lo := wr.heap.size) hu2 (fun i x b hx hb => (hr0.lt hx hb).2) (fun b hb => (hu.lt b hb).1)

theorem owns_slice {w : World} {base s n : Nat} {T : TypeId} {v : Value} {xs : List Value} (h : w.ownsRow base T s v n xs) : ∃ a m c, v = .slice a m c := by
  rcases h.2 with ⟨rfl, _⟩ | ⟨g, cap, cur, rfl, _⟩
  · exact ⟨_, _, _, rfl⟩
  · exact ⟨_, _, _, rfl⟩

theorem toStrP (w : World) (v : Value) (ps : List (List UInt8)) (h : StrRow w v ps) (hl : ps.length ≤ 1048576) :
    Calls Tryd.prog 41 #[v] w fun e w' => ∃ u, e = .returned u ∧ w'.ownsRow w.heap.size 9 1 u ps.length (strCells ps) ∧ Below w.heap.size w w' := toStr w v ps h hl

set_option maxRecDepth 100000 in
set_option maxHeartbeats 1000000 in
theorem toSS_some (w : World) (b off c : Nat) (L : List (List (List UInt8))) (hl : L.length ≤ 1048576) (hrl : ∀ r ∈ L, r.length ≤ 1048576)
    (hc : ∀ (j : Nat) row, L[j]? = some row → ∃ u, w.cell? ⟨b, off + j, none⟩ = some u ∧ StrRow w u row) :
    Calls Tryd.prog 20 #[.slice (some ⟨b, off, none⟩) L.length c] w fun e w' => ∃ v, e = .returned v ∧ SSOwn w' w.heap.size v L ∧ Below w.heap.size w w' := by
  obtain ⟨i0, hi, hz0, hz1, hz2⟩ := info_parts infoSlS
  have HC := Lib.hid hc
  have HRL := Lib.hid hrl
  clear hc hrl
  have HF : Hid (∀ (w' : World) (v : Value) (n : Nat), L.length = n → SSFilled w' w.heap.size v n L n → SSOwn w' w.heap.size v L) := fun w' v n hn h => by
    subst hn; exact h.done
  obtain ⟨n, hn⟩ : ∃ n : Nat, L.length = n := ⟨_, rfl⟩
  rw [hn] at hl ⊢
  have HE := Lib.hid hn
  clear hn
  go_enter Tryd.func20, Tryd.ntmps20
  go_wp2_with (at_make; refine wpList_make_full _ rfl _ _ 24 rfl w.heap.size 45 i0 (.slice none 0 0) 1 Tryd.underlying24 hi hz0 hz1 .i64 .i64 _ _ n rfl rfl rfl rfl ?c1 ?c2 ?c3 ?_)
  case c1 => rw [hz2]; omega
  case c2 => unfold maxLen; omega
  case c3 => exact Nat.le_refl _
  intro w1 hown hg1
  have hB1 : Below w.heap.size w w1 := (Below.refl w.heap.size w).grown hg1 (Nat.le_refl _) (fun k hk => by cases hk)
  have hF1 : SSFilled w1 w.heap.size (.slice (some ⟨w.heap.size, 0, none⟩) n n) n L 0 := ⟨_, hown, by simpa using RowsOwn.nil _ _ _⟩
  clear hown hg1
  go_wp2_with fail
  go_loopw [4] (fun i wr => ∃ (j : Nat), j ≤ n ∧ i = .int .i64 j ∧ SSFilled wr w.heap.size (.slice (some ⟨w.heap.size, 0, none⟩) n n) n L j ∧ Below w.heap.size w wr) (fun i _ => n - (intOf i).toNat)
  case atStart => exact ⟨0, Nat.zero_le _, rfl, hF1, hB1⟩
  case round =>
    obtain ⟨j, hj, rfl, hF, hB⟩ := hrel
    by_cases hlt : j < n
    · have hj1 : (j : Int) < n := by omega
      have hj0 : (0 : Int) ≤ j := by omega
      obtain ⟨p, hp⟩ : ∃ p, L[j]? = some p := ⟨_, List.getElem?_eq_getElem (by rw [HE.out]; exact hlt)⟩
      have hpl := HRL.out p (List.mem_of_getElem? hp)
      obtain ⟨u0, hcj0, hru0⟩ := HC.out j p hp
      have hcj := (hB.cell (p := ⟨b, off + j, none⟩) (World.block_lt_of_cell? w _ hcj0)).trans hcj0
      have hru := hru0.below hB
      have HK := Lib.hid (toStrP wr u0 p hru hpl)
      have HP := Lib.hid hp
      clear hp hcj0 hru0 hru hF1 hB1
      go_wp2_with fail
      refine HK.out.mono ?_
      rintro e w2 ⟨u, rfl, hu, hB2⟩
      obtain ⟨a2, n2, c2, rfl⟩ := owns_slice hu
      obtain ⟨⟨x, hcx⟩, hfx⟩ := (hF.below hB2).cell hlt
      have HS := Lib.hid (hF.step hB2 hlt HP.out hu hB.size)
      have HB := Lib.hid ((hB.trans (hB2.mono hB.size)).setCell (p := ⟨w.heap.size, j, none⟩) (Nat.le_refl _) (.slice a2 n2 c2))
      clear hF hu hB2 hB hcj
      go_wp2_with fail
      go_roundw
      case rel => exact ⟨j + 1, by omega, by go_num, HS.out, HB.out⟩
      case measure => simp [intOf]; omega
    · obtain rfl : j = n := by omega
      have hj1 : ¬ (j : Int) < j := by omega
      go_wp2_with fail
      go_ret
      exact ⟨_, rfl, HF.out _ _ _ HE.out hF, hB⟩

set_option maxRecDepth 100000 in
theorem toSS_zero (w : World) (a : Option Addr) (c : Nat) :
    Calls Tryd.prog 20 #[.slice a 0 c] w fun e w' => ∃ v, e = .returned v ∧ SSOwn w' w.heap.size v [] ∧ Below w.heap.size w w' := by
  obtain ⟨i0, hi, hz0, hz1, hz2⟩ := info_parts infoSlS
  go_enter Tryd.func20, Tryd.ntmps20
  go_wp2_with (at_make; refine wpList_make_full _ rfl _ _ 24 rfl w.heap.size 45 i0 (.slice none 0 0) 1 Tryd.underlying24 hi hz0 hz1 .i64 .i64 _ _ 0 rfl rfl rfl rfl ?c1 ?c2 ?c3 ?_)
  case c1 => omega
  case c2 => unfold maxLen; omega
  case c3 => exact Nat.le_refl _
  intro w1 hown hg1
  have hB1 : Below w.heap.size w w1 := (Below.refl w.heap.size w).grown hg1 (Nat.le_refl _) (fun k hk => by cases hk)
  have hown0 : SSOwn w1 w.heap.size (.slice (some ⟨w.heap.size, 0, none⟩) 0 0) [] := ⟨[], by simpa [madeCells] using hown, RowsOwn.nil _ _ _⟩
  clear hg1 hown
  go_wp2_with fail
  go_loop [4] (fun i => i = .int .i64 0) (fun _ => 0)
  case atStart => rfl
  case round =>
    subst hrel
    go_wp2_with fail
    go_ret
    exact ⟨_, rfl, hown0, hB1⟩

/-- THE COPY OF A LIST OF ROWS. -/
theorem toSS (w : World) (v : Value) (L : List (List (List UInt8))) (h : SSRow w v L) (hl : L.length ≤ 1048576) (hrl : ∀ r ∈ L, r.length ≤ 1048576) :
    Calls Tryd.prog 20 #[v] w fun e w' => ∃ u, e = .returned u ∧ SSOwn w' w.heap.size u L ∧ Below w.heap.size w w' := by
  rcases h with ⟨rfl, a, c, rfl⟩ | ⟨b, off, c, rfl, _, _, hc⟩
  · exact toSS_zero w a c
  · exact toSS_some w b off c L hl hrl hc
end Go.Proofs.YtklhkebpgoajgaaDoor
