/-
  The laws' own helpers on lists of lists of numbers: equal, their size, their copy, their marks.
-/
import Derived.Test.YtgknkjiifcnkpaaPk2
import Derived.Test.YtgknkjiifcnkpaaPk1
namespace Go.Proofs.Ytgknkjiifcnkpaa
open Go.RowKit

/-- v reads as the rows L in w. -/
def IIRow (w : World) (v : Value) (L : List (List Int)) : Prop :=
  (L = [] ∧ ∃ a c, v = .slice a 0 c) ∨ ∃ b off c, v = .slice (some ⟨b, off, none⟩) L.length c ∧ L.length ≤ 9223372036854775807 ∧ L.length ≤ c ∧ (∀ (j : Nat) row, L[j]? = some row → ∃ u, w.cell? ⟨b, off + j, none⟩ = some u ∧ IntRow w u row)

theorem IIRow.below {w w' : World} {v : Value} {L : List (List Int)} (h : IIRow w v L) (hB : Below w.heap.size w w') : IIRow w' v L := by
  rcases h with ⟨rfl, a, c, rfl⟩ | ⟨b, off, c, rfl, hl, hcap, hc⟩
  · exact Or.inl ⟨rfl, a, c, rfl⟩
  · refine Or.inr ⟨b, off, c, rfl, hl, hcap, fun j p hp => ?_⟩
    obtain ⟨u, hu, hr⟩ := hc j p hp
    exact ⟨u, (hB.cell (p := ⟨b, off + j, none⟩) (World.block_lt_of_cell? w _ hu)).trans hu, hr.below hB⟩

theorem infoSlI : (Try.prog.info? 24).map (fun i => (i.zero, i.size, i.bytes)) = some (some (.slice none 0 0), 1, 24) := by kernel_rfl

/-- v is a list of lists of the call's own that reads as L. -/
def IIOwn (w : World) (base : Nat) (v : Value) (L : List (List Int)) : Prop :=
  ∃ vs : List Value, w.ownsRow base 24 1 v L.length vs ∧ RowsOwn w base 3 vs (L.map intCells)

theorem IIOwn.below {w w' : World} {base : Nat} {v : Value} {L : List (List Int)} (h : IIOwn w base v L) (hB : Below w.heap.size w w') : IIOwn w' base v L := by
  obtain ⟨vs, ho, hr⟩ := h
  exact ⟨vs, ho.kept (grown_of_below hB none) (by cases hv : v.ownBlock <;> simp), hr.below hB⟩
theorem iiRow_of {w : World} {base : Nat} {v : Value} {vs : List Value} {L : List (List Int)} (ho : w.ownsRow base 24 1 v L.length vs) (hr : ∀ (j : Nat) u row, vs[j]? = some u → L[j]? = some row → IntRow w u row) (hl : L.length ≤ 9223372036854775807) : IIRow w v L := by
  rcases ho.2 with ⟨rfl, h0⟩ | ⟨g, cap, cur, rfl, _, _, hnc, _, _, _⟩
  · exact Or.inl ⟨List.eq_nil_of_length_eq_zero h0, _, _, rfl⟩
  · refine Or.inr ⟨g, 0, cap, rfl, hl, hnc, fun j p hj => ?_⟩
    have hjl := (List.getElem?_eq_some_iff.1 hj).1
    have hlen := ho.1
    have hu : vs[j]? = some vs[j] := List.getElem?_eq_getElem (by omega)
    refine ⟨vs[j], ?_, hr j _ p hu hj⟩
    rw [Nat.zero_add, ho.cellAt j (by omega)]
    exact hu
theorem IIOwn.row {w : World} {base : Nat} {v : Value} {L : List (List Int)} (h : IIOwn w base v L) (hl : L.length ≤ 9223372036854775807) (hr : ∀ row ∈ L, row.length ≤ 9223372036854775807) : IIRow w v L := by
  obtain ⟨vs, ho, hR⟩ := h
  refine iiRow_of ho (fun j u row hu hj => ?_) hl
  have hc : (L.map intCells)[j]? = some (intCells row) := by rw [List.getElem?_map, hj]; rfl
  have := hR.2.1 j u _ hu hc
  rw [intCells_len] at this
  exact intRow_of_owns this (hr row (List.mem_of_getElem? hj))

set_option maxRecDepth 100000 in
theorem eqII_zero (w : World) (a b : Option Addr) (c d : Nat) :
    Calls Try.prog 71 #[.slice a 0 c, .slice b 0 d] w fun e w' => e = .returned (.bool true) ∧ w = w' := by
  go_enter Try.func71, Try.ntmps71
  go_wp2_with fail
  go_loop [5] (fun i => i = .int .i64 0) (fun _ => 0)
  case atStart => rfl
  case round =>
    subst hrel
    go_wp2_with fail
    go_ret
    exact ⟨rfl, rfl⟩

set_option maxRecDepth 100000 in
set_option maxHeartbeats 1000000 in
theorem eqII_some (w : World) (b1 o1 c1 b2 o2 c2 : Nat) (L : List (List Int)) (hl : L.length ≤ 9223372036854775807)
    (h1 : ∀ (j : Nat) row, L[j]? = some row → ∃ u, w.cell? ⟨b1, o1 + j, none⟩ = some u ∧ IntRow w u row) (h2 : ∀ (j : Nat) row, L[j]? = some row → ∃ u, w.cell? ⟨b2, o2 + j, none⟩ = some u ∧ IntRow w u row) :
    Calls Try.prog 71 #[.slice (some ⟨b1, o1, none⟩) L.length c1, .slice (some ⟨b2, o2, none⟩) L.length c2] w fun e w' => e = .returned (.bool true) ∧ ∃ k, w' = w.drewN k := by
  have H1 := Lib.hid h1
  have H2 := Lib.hid h2
  clear h1 h2
  have HN : Hid (∃ n : Nat, L.length = n) := ⟨_, rfl⟩
  obtain ⟨n, hn⟩ := HN.out
  rw [hn] at hl ⊢
  have HE := Lib.hid hn
  clear hn HN
  go_enter Try.func71, Try.ntmps71
  go_wp2_with fail
  go_loopw [4, 5] (fun _ i wr => ∃ (k q : Nat), k ≤ n ∧ i = .int .i64 k ∧ wr = w.drewN q) (fun _ i _ => n - (intOf i).toNat)
  case atStart => exact ⟨0, 0, Nat.zero_le _, rfl, rfl⟩
  case round =>
    obtain ⟨k, q, hk, rfl, rfl⟩ := hrel
    by_cases hlt : k < n
    · have hk1 : (k : Int) < n := by omega
      have hk0 : (0 : Int) ≤ k := by omega
      obtain ⟨p, hp⟩ : ∃ p, L[k]? = some p := ⟨_, List.getElem?_eq_getElem (by rw [HE.out]; exact hlt)⟩
      obtain ⟨u1, hc1, hr1⟩ := H1.out k p hp
      obtain ⟨u2, hc2, hr2⟩ := H2.out k p hp
      have hd1 : (w.drewN q).cell? ⟨b1, o1 + k, none⟩ = some u1 := hc1
      have hd2 : (w.drewN q).cell? ⟨b2, o2 + k, none⟩ = some u2 := hc2
      have hs1 : IntRow (w.drewN q) u1 p := hr1
      have hs2 : IntRow (w.drewN q) u2 p := hr2
      obtain ⟨wq, hwq⟩ : ∃ wq, w.drewN q = wq := ⟨_, rfl⟩
      rw [hwq] at hd1 hd2 hs1 hs2 ⊢
      have HW := Lib.hid hwq
      have R1 : ∀ z, Hid (IntRow (wq.drewN z) u1 p) := fun z => hs1
      have R2 : ∀ z, Hid (IntRow (wq.drewN z) u2 p) := fun z => hs2
      clear hp hr1 hr2 hs1 hs2 hwq hc1 hc2
      go_wp2_with fail
      go_quiet ((go_at_call 30; exact Calls.quiet_of (eqI _ _ _ p (R1 _).out (R2 _).out)))
      go_wp2_with fail
      go_roundw
      case rel => exact ⟨k + 1, _, by omega, by go_num, by rw [← HW.out, World.drewN_drewN]⟩
      case measure => simp [intOf]; omega
    · have hk1 : ¬ (k : Int) < n := by omega
      go_wp2_with fail
      go_ret
      exact ⟨rfl, q, rfl⟩

/-- TWO LISTS OF ROWS THAT READ ALIKE ARE EQUAL. -/
theorem eqII (w : World) (v1 v2 : Value) (L : List (List Int)) (h1 : IIRow w v1 L) (h2 : IIRow w v2 L) :
    Calls Try.prog 71 #[v1, v2] w fun e w' => e = .returned (.bool true) ∧ ∃ k, w' = w.drewN k := by
  rcases h1 with ⟨rfl, a, c, rfl⟩ | ⟨b1, o1, c1, rfl, hl, _, h1⟩
  · rcases h2 with ⟨_, b, d, rfl⟩ | ⟨b2, o2, c2, rfl, _, _, _⟩
    · exact (eqII_zero w a b c d).mono fun e w' ⟨he, hw⟩ => ⟨he, 0, hw ▸ rfl⟩
    · exact (eqII_zero w a _ c c2).mono fun e w' ⟨he, hw⟩ => ⟨he, 0, hw ▸ rfl⟩
  · rcases h2 with ⟨rfl, b, d, rfl⟩ | ⟨b2, o2, c2, rfl, _, _, h2⟩
    · exact (eqII_zero w _ b c1 d).mono fun e w' ⟨he, hw⟩ => ⟨he, 0, hw ▸ rfl⟩
    · exact eqII_some w b1 o1 c1 b2 o2 c2 L hl h1 h2

/-- What the size of a list of rows counts. -/
def szLI (L : List (List Int)) : Nat := (L.map fun r => r.length).sum
theorem szLI_take_succ {L : List (List Int)} {k : Nat} {p : List Int} (h : L[k]? = some p) : szLI (L.take (k + 1)) = szLI (L.take k) + (p.length) := by
  unfold szLI
  rw [List.take_add_one, h, List.map_append, List.sum_append]
  simp
theorem szLI_take_le (L : List (List Int)) (k : Nat) : szLI (L.take k) ≤ szLI L := by
  have e : szLI L = szLI (L.take k) + szLI (L.drop k) := by
    unfold szLI
    rw [← List.sum_append, ← List.map_append, List.take_append_drop]
  omega
theorem szLI_mem {L : List (List Int)} {r : List Int} (h : r ∈ L) : r.length ≤ szLI L := by
  induction L with
  | nil => cases h
  | cons a t ih =>
    have e : szLI (a :: t) = (a.length) + szLI t := by simp [szLI]
    rcases List.mem_cons.1 h with rfl | h
    · omega
    · have := ih h
      omega

theorem szInt_fits (w : World) (v : Value) (left : Nat) (ps : List Int) (h : IntRow w v ps) (hleft : left ≤ 1048576) (hf : ps.length ≤ left) :
    Calls Try.prog 68 #[v, .int .i64 left] w fun e w' => e = .returned (.int .i64 ((left - ps.length : Nat) : Int)) ∧ w = w' := by
  obtain ⟨a, c, rfl, _, _⟩ := intRow_form h
  exact szI_fits w a ps.length c left hleft hf
theorem szInt_not (w : World) (v : Value) (left : Nat) (ps : List Int) (h : IntRow w v ps) (hleft : left ≤ 1048576) (hf : left < ps.length) :
    Calls Try.prog 68 #[v, .int .i64 left] w fun e w' => e = .returned (.int .i64 (-1)) ∧ w = w' := by
  obtain ⟨a, c, rfl, hl, _⟩ := intRow_form h
  exact szI_not w a ps.length c left hleft hl hf

set_option maxRecDepth 100000 in
theorem szII_zero (w : World) (a : Option Addr) (c left : Nat) (hleft : left ≤ 1048576) :
    Calls Try.prog 67 #[.slice a 0 c, .int .i64 left] w fun e w' => e = .returned (.int .i64 left) ∧ w = w' := by
  have h0 : ¬ (left : Int) < 0 := by omega
  go_enter Try.func67, Try.ntmps67
  go_wp2_with fail
  go_loop [1, 4, 5] (fun q _ i => q = .int .i64 left ∧ i = .int .i64 0) (fun _ _ _ => 0)
  case atStart => exact ⟨by simp, rfl⟩
  case round =>
    obtain ⟨rfl, rfl⟩ := hrel
    go_wp2_with fail
    go_ret
    exact ⟨rfl, rfl⟩

set_option maxRecDepth 100000 in
theorem szII_over (w : World) (a : Option Addr) (n c left : Nat) (hleft : left ≤ 1048576) (hn : n ≤ 9223372036854775807) (h : left < n) :
    Calls Try.prog 67 #[.slice a n c, .int .i64 left] w fun e w' => e = .returned (.int .i64 (-1)) ∧ w = w' := by
  have h0 : (left : Int) - n < 0 := by omega
  go_enter Try.func67, Try.ntmps67
  go_wp2_with fail
  go_ret
  exact ⟨rfl, rfl⟩

set_option maxRecDepth 100000 in
set_option maxHeartbeats 1000000 in
theorem szII_some (w : World) (b off c left : Nat) (L : List (List Int)) (hleft : left ≤ 1048576) (hl : L.length ≤ left)
    (hc : ∀ (j : Nat) row, L[j]? = some row → ∃ u, w.cell? ⟨b, off + j, none⟩ = some u ∧ IntRow w u row) :
    Calls Try.prog 67 #[.slice (some ⟨b, off, none⟩) L.length c, .int .i64 left] w fun e w' => SzOut (L.length + szLI L) left e ∧ w = w' := by
  have HC := Lib.hid hc
  clear hc
  obtain ⟨n, hn⟩ : ∃ n : Nat, L.length = n := ⟨_, rfl⟩
  rw [hn] at hl ⊢
  have HE := Lib.hid hn
  clear hn
  have h0 : ¬ (left : Int) - n < 0 := by omega
  go_enter Try.func67, Try.ntmps67
  go_wp2_with fail
  go_loop [1, 4, 5] (fun q _ i => ∃ (k m : Nat), k ≤ n ∧ i = .int .i64 k ∧ q = .int .i64 m ∧ m + n + szLI (L.take k) = left) (fun _ _ i => n - (intOf i).toNat)
  case atStart => exact ⟨0, left - n, Nat.zero_le _, rfl, by go_num, by simp [szLI]; omega⟩
  case round =>
    obtain ⟨k, m, hk, rfl, rfl, hm⟩ := hrel
    have HMM := Lib.hid hm
    have hm1 : m ≤ left := by omega
    clear hm
    by_cases hlt : k < n
    · have hk1 : (k : Int) < n := by omega
      have hk0 : (0 : Int) ≤ k := by omega
      obtain ⟨p, hp⟩ : ∃ p, L[k]? = some p := ⟨_, List.getElem?_eq_getElem (by rw [HE.out]; exact hlt)⟩
      obtain ⟨u, hck, hru⟩ := HC.out k p hp
      have HS : Hid (szLI (L.take (k + 1)) = szLI (L.take k) + (p.length)) := szLI_take_succ hp
      have HLE : Hid (szLI (L.take (k + 1)) ≤ szLI L) := szLI_take_le L (k + 1)
      clear hp
      by_cases hneg : m < p.length
      · have HK := Lib.hid (szInt_not w u m p hru (by omega) hneg)
        clear hru
        go_wp2_with fail
        refine HK.out.mono ?_
        rintro e w1 ⟨rfl, rfl⟩
        go_wp2_with fail
        go_ret
        refine ⟨Or.inr ⟨?_, rfl⟩, rfl⟩
        have h1 := HMM.out
        have h2 := HS.out
        have h3 := HLE.out
        omega
      · have HK := Lib.hid (szInt_fits w u m p hru (by omega) (by omega))
        obtain ⟨r, hr⟩ : ∃ r : Nat, m - (p.length) = r := ⟨_, rfl⟩
        rw [hr] at HK
        have HR : Hid (m = r + (p.length)) := Lib.hid (by omega)
        have hr0 : ¬ (r : Int) < 0 := by omega
        clear hru hr hneg
        go_wp2_with fail
        refine HK.out.mono ?_
        rintro e w1 ⟨rfl, rfl⟩
        go_wp2_with fail
        go_round
        case rel =>
          refine ⟨k + 1, r, by omega, by go_num, rfl, ?_⟩
          have h1 := HMM.out
          have h2 := HS.out
          have h3 := HR.out
          omega
        case measure => simp [intOf]; omega
    · obtain rfl : k = n := by omega
      have hk1 : ¬ (k : Int) < k := by omega
      go_wp2_with fail
      go_ret
      have h1 := HMM.out
      have e : L.take k = L := List.take_of_length_le (by rw [HE.out]; exact Nat.le_refl _)
      rw [e] at h1
      exact ⟨Or.inl ⟨by omega, ret_int (by omega)⟩, rfl⟩

/-- THE SIZE OF A LIST OF ROWS. -/
theorem szII (w : World) (v : Value) (left : Nat) (L : List (List Int)) (h : IIRow w v L) (hleft : left ≤ 1048576) :
    Calls Try.prog 67 #[v, .int .i64 left] w fun e w' => SzOut (L.length + szLI L) left e ∧ w = w' := by
  rcases h with ⟨rfl, a, c, rfl⟩ | ⟨b, off, c, rfl, hl, _, hc⟩
  · exact (szII_zero w a c left hleft).mono fun e w' ⟨he, hw⟩ => ⟨Or.inl ⟨by simp [szLI], by rw [he]; simp [szLI]⟩, hw⟩
  · by_cases ho : left < L.length
    · exact (szII_over w _ L.length c left hleft (by omega) ho).mono fun e w' ⟨he, hw⟩ => ⟨Or.inr ⟨by omega, he⟩, hw⟩
    · exact szII_some w b off c left L hleft (by omega) hc

/-- The first j rows are copied. -/
def IIFilled (w : World) (base : Nat) (v : Value) (n : Nat) (L : List (List Int)) (j : Nat) : Prop :=
  ∃ vs : List Value, w.ownsRow base 24 1 v n vs ∧ RowsOwn w base 3 (vs.take j) ((L.take j).map intCells)
theorem IIFilled.done {w : World} {base : Nat} {v : Value} {L : List (List Int)} (h : IIFilled w base v L.length L L.length) : IIOwn w base v L := by
  obtain ⟨vs, ho, hr⟩ := h
  have hlen := ho.1
  rw [List.take_of_length_le (by omega), List.take_of_length_le (Nat.le_refl _)] at hr
  exact ⟨vs, ho, hr⟩
theorem IIFilled.cell {w : World} {base g cap : Nat} {n j : Nat} {L : List (List Int)} (h : IIFilled w base (.slice (some ⟨g, 0, none⟩) n cap) n L j) {i : Nat} (hi : i < n) : (∃ x, w.cell? ⟨g, i, none⟩ = some x) ∧ w.frozen? ⟨g, i, none⟩ = false := by
  obtain ⟨xs, ho, hx⟩ := h
  have hxl := ho.1
  refine ⟨⟨xs[i]'(by omega), ?_⟩, ho.frozenAt i⟩
  rw [ho.cellAt i (by omega), List.getElem?_eq_getElem (by omega)]
theorem IIFilled.below {w w' : World} {base n j : Nat} {v : Value} {L : List (List Int)} (h : IIFilled w base v n L j) (hB : Below w.heap.size w w') : IIFilled w' base v n L j := by
  obtain ⟨vs, ho, hr⟩ := h
  exact ⟨vs, ho.kept (grown_of_below hB none) (by cases hv : v.ownBlock <;> simp), hr.below hB⟩
theorem IIFilled.step {wr w : World} {base g cap : Nat} {n j : Nat} {L : List (List Int)} {p : List Int} {u : Value} (h : IIFilled wr base (.slice (some ⟨g, 0, none⟩) n cap) n L j) (hB : Below wr.heap.size wr w) (hj : j < n) (hp : L[j]? = some p)
    (hu : w.ownsRow wr.heap.size 3 1 u p.length (intCells p)) (hlo : base ≤ wr.heap.size) :
    IIFilled (w.setCell ⟨g, j, none⟩ u) base (.slice (some ⟨g, 0, none⟩) n cap) n L (j + 1) := by
  obtain ⟨vs, ho0, hr0⟩ := h
  have ho := ho0.kept (grown_of_below hB none) (Or.inr (by simp [Value.ownBlock]))
  have hr := hr0.below hB
  have hs := ho.stored j u
  have hxl := ho.1
  have hT : 3 ≠ 24 := by decide
  have hr2 := hr.outer ho hT hs.2
  have hu2 : (w.setCell ⟨g, j, none⟩ u).ownsRow base 3 1 u (intCells p).length (intCells p) := by
    rw [intCells_len]
    refine World.ownsRow.mono (hu.kept hs.2 ?_) hlo
    cases hb : u.ownBlock with
    | none => exact Or.inl rfl
    | some b => exact Or.inr (fun e => owns_apart hu ho hT b hb e.symm)
  refine ⟨_, hs.1, ?_⟩
  have e1 : (vs.set j u).take (j + 1) = vs.take j ++ [u] := by
    have hjv : j < vs.length := by omega
    rw [List.take_add_one, List.getElem?_set_self hjv, List.take_set_of_le (Nat.le_refl _)]
    rfl
  have e2 : (L.take (j + 1)).map intCells = (L.take j).map intCells ++ [intCells p] := by
    rw [List.take_add_one, hp, List.map_append]
    rfl
  rw [e1, e2]
  exact hr2.snoc (lo := wr.heap.size) hu2 (fun i x b hx hb => (hr0.lt hx hb).2) (fun b hb => (hu.lt b hb).1)

theorem toIP (w : World) (v : Value) (ps : List Int) (h : IntRow w v ps) (hl : ps.length ≤ 1048576) :
    Calls Try.prog 29 #[v] w fun e w' => ∃ u, e = .returned u ∧ w'.ownsRow w.heap.size 3 1 u ps.length (intCells ps) ∧ Below w.heap.size w w' := toI w v ps h hl

set_option maxRecDepth 100000 in
set_option maxHeartbeats 1000000 in
theorem toII_some (w : World) (b off c : Nat) (L : List (List Int)) (hl : L.length ≤ 1048576) (hrl : ∀ r ∈ L, r.length ≤ 1048576)
    (hc : ∀ (j : Nat) row, L[j]? = some row → ∃ u, w.cell? ⟨b, off + j, none⟩ = some u ∧ IntRow w u row) :
    Calls Try.prog 70 #[.slice (some ⟨b, off, none⟩) L.length c] w fun e w' => ∃ v, e = .returned v ∧ IIOwn w' w.heap.size v L ∧ Below w.heap.size w w' := by
  obtain ⟨i0, hi, hz0, hz1, hz2⟩ := info_parts infoSlI
  have HC := Lib.hid hc
  have HRL := Lib.hid hrl
  clear hc hrl
  have HF : Hid (∀ (w' : World) (v : Value) (n : Nat), L.length = n → IIFilled w' w.heap.size v n L n → IIOwn w' w.heap.size v L) := fun w' v n hn h => by
    subst hn; exact h.done
  obtain ⟨n, hn⟩ : ∃ n : Nat, L.length = n := ⟨_, rfl⟩
  rw [hn] at hl ⊢
  have HE := Lib.hid hn
  clear hn
  go_enter Try.func70, Try.ntmps70
  go_wp2_with (at_make; refine wpList_make_full _ rfl _ _ 32 rfl w.heap.size 24 i0 (.slice none 0 0) 1 Try.underlying32 hi hz0 hz1 .i64 .i64 _ _ n rfl rfl rfl rfl ?c1 ?c2 ?c3 ?_)
  case c1 => rw [hz2]; omega
  case c2 => unfold maxLen; omega
  case c3 => exact Nat.le_refl _
  intro w1 hown hg1
  have hB1 : Below w.heap.size w w1 := (Below.refl w.heap.size w).grown hg1 (Nat.le_refl _) (fun k hk => by cases hk)
  have hF1 : IIFilled w1 w.heap.size (.slice (some ⟨w.heap.size, 0, none⟩) n n) n L 0 := ⟨_, hown, by simpa using RowsOwn.nil _ _ _⟩
  clear hown hg1
  go_wp2_with fail
  go_loopw [4] (fun i wr => ∃ (j : Nat), j ≤ n ∧ i = .int .i64 j ∧ IIFilled wr w.heap.size (.slice (some ⟨w.heap.size, 0, none⟩) n n) n L j ∧ Below w.heap.size w wr) (fun i _ => n - (intOf i).toNat)
  case atStart => exact ⟨0, Nat.zero_le _, rfl, hF1, hB1⟩
  case round =>
    obtain ⟨j, hj, rfl, hF, hB⟩ := hrel
    by_cases hlt : j < n
    · have hj1 : (j : Int) < n := by omega
      have hj0 : (0 : Int) ≤ j := by omega
      obtain ⟨p, hp⟩ : ∃ p, L[j]? = some p := ⟨_, List.getElem?_eq_getElem (by rw [HE.out]; exact hlt)⟩
      have hpl := HRL.out p (List.mem_of_getElem? hp)
      obtain ⟨u0, hcj0, hru0⟩ := HC.out j p hp
      have hcj := (hB.cell (p := ⟨b, off + j, none⟩) (World.block_lt_of_cell? w _ hcj0)).trans hcj0
      have hru := hru0.below hB
      have HK := Lib.hid (toIP wr u0 p hru hpl)
      have HP := Lib.hid hp
      clear hp hcj0 hru0 hru hF1 hB1
      go_wp2_with fail
      refine HK.out.mono ?_
      rintro e w2 ⟨u, rfl, hu, hB2⟩
      obtain ⟨a2, n2, c2, rfl⟩ := owns_slice hu
      obtain ⟨⟨x, hcx⟩, hfx⟩ := (hF.below hB2).cell hlt
      have HS := Lib.hid (hF.step hB2 hlt HP.out hu hB.size)
      have HB := Lib.hid ((hB.trans (hB2.mono hB.size)).setCell (p := ⟨w.heap.size, j, none⟩) (Nat.le_refl _) (.slice a2 n2 c2))
      clear hF hu hB2 hB hcj
      go_wp2_with fail
      go_roundw
      case rel => exact ⟨j + 1, by omega, by go_num, HS.out, HB.out⟩
      case measure => simp [intOf]; omega
    · obtain rfl : j = n := by omega
      have hj1 : ¬ (j : Int) < j := by omega
      go_wp2_with fail
      go_ret
      exact ⟨_, rfl, HF.out _ _ _ HE.out hF, hB⟩

set_option maxRecDepth 100000 in
theorem toII_zero (w : World) (a : Option Addr) (c : Nat) :
    Calls Try.prog 70 #[.slice a 0 c] w fun e w' => ∃ v, e = .returned v ∧ IIOwn w' w.heap.size v [] ∧ Below w.heap.size w w' := by
  obtain ⟨i0, hi, hz0, hz1, hz2⟩ := info_parts infoSlI
  go_enter Try.func70, Try.ntmps70
  go_wp2_with (at_make; refine wpList_make_full _ rfl _ _ 32 rfl w.heap.size 24 i0 (.slice none 0 0) 1 Try.underlying32 hi hz0 hz1 .i64 .i64 _ _ 0 rfl rfl rfl rfl ?c1 ?c2 ?c3 ?_)
  case c1 => omega
  case c2 => unfold maxLen; omega
  case c3 => exact Nat.le_refl _
  intro w1 hown hg1
  have hB1 : Below w.heap.size w w1 := (Below.refl w.heap.size w).grown hg1 (Nat.le_refl _) (fun k hk => by cases hk)
  have hown0 : IIOwn w1 w.heap.size (.slice (some ⟨w.heap.size, 0, none⟩) 0 0) [] := ⟨[], by simpa [madeCells] using hown, RowsOwn.nil _ _ _⟩
  clear hg1 hown
  go_wp2_with fail
  go_loop [4] (fun i => i = .int .i64 0) (fun _ => 0)
  case atStart => rfl
  case round =>
    subst hrel
    go_wp2_with fail
    go_ret
    exact ⟨_, rfl, hown0, hB1⟩

/-- THE COPY OF A LIST OF ROWS. -/
theorem toII (w : World) (v : Value) (L : List (List Int)) (h : IIRow w v L) (hl : L.length ≤ 1048576) (hrl : ∀ r ∈ L, r.length ≤ 1048576) :
    Calls Try.prog 70 #[v] w fun e w' => ∃ u, e = .returned u ∧ IIOwn w' w.heap.size u L ∧ Below w.heap.size w w' := by
  rcases h with ⟨rfl, a, c, rfl⟩ | ⟨b, off, c, rfl, _, _, hc⟩
  · exact toII_zero w a c
  · exact toII_some w b off c L hl hrl hc

/-- The marks of rows of these lengths, from k on. -/
def marksLI (k : Nat) : List Nat → List (List Int)
  | [] => []
  | n :: r => marksI k n :: marksLI (k + n) r
theorem marksLI_len : ∀ (ns : List Nat) (k : Nat), (marksLI k ns).length = ns.length
  | [], _ => rfl
  | n :: r, k => by rw [marksLI, List.length_cons, List.length_cons, marksLI_len r]
theorem marksLI_at : ∀ (ns : List Nat) (k j n : Nat), ns[j]? = some n → (marksLI k ns)[j]? = some (marksI (k + (ns.take j).sum) n)
  | [], _, _, _, h => by simp at h
  | m :: r, k, 0, n, h => by
    obtain rfl : m = n := by simpa using h
    simp [marksLI]
  | m :: r, k, j + 1, n, h => by
    have ih := marksLI_at r (k + m) j n (by simpa using h)
    rw [marksLI, List.getElem?_cons_succ, ih]
    congr 2
    simp only [List.take_succ_cons, List.sum_cons]
    omega
theorem heldIB (w : World) (v : Value) (n k : Nat) (h : IntRow w v (marksI k n)) (hkl : k ≤ 140737488355328) (hnl : n ≤ 140737488355328) :
    Calls Try.prog 93 #[v, .int .i64 k] w fun e w' => e = .returned (.int .i64 ((k : Int) + n)) ∧ Below w.heap.size w w' :=
  (heldI w v n k h hkl hnl).mono fun e w' ⟨he, q, hq⟩ => ⟨he, by
    have h := Below.refl w.heap.size w
    rw [hq]
    exact ⟨h.os, h.tape, h.output, h.size, h.block⟩⟩

/-- The rows before j are marked. -/
def MarkInvI (w : World) (base : Nat) (v : Value) (n : Nat) (vs : List Value) (ns : List Nat) (k j : Nat) : Prop :=
  ∃ C : List (List Value), w.ownsRow base 24 1 v n vs ∧ RowsOwn w base 3 vs C ∧ C.map List.length = ns ∧ (∀ (i m : Nat), i < j → ns[i]? = some m → C[i]? = some (intCells (marksI (k + (ns.take i).sum) m)))
theorem MarkInvI.row {w : World} {base n k j : Nat} {v : Value} {vs : List Value} {ns : List Nat} (h : MarkInvI w base v n vs ns k j) (hn : ns.length = n) (hj : j < n) : ∃ u m c, vs[j]? = some u ∧ ns[j]? = some m ∧ w.ownsRow base 3 1 u m c ∧ c.length = m := by
  obtain ⟨C, ho, hr, hC, _⟩ := h
  have hlen := congrArg List.length hC
  rw [List.length_map, hn] at hlen
  have hvl := hr.1
  have hCj : C[j]? = some C[j] := List.getElem?_eq_getElem (by omega)
  have hvj : vs[j]? = some vs[j] := List.getElem?_eq_getElem (by omega)
  refine ⟨vs[j], C[j].length, C[j], hvj, ?_, hr.2.1 j _ _ hvj hCj, rfl⟩
  rw [← hC, List.getElem?_map, hCj]
  rfl
theorem MarkInvI.step {w w' : World} {base n k j m : Nat} {v u : Value} {vs : List Value} {ns : List Nat} (h : MarkInvI w base v n vs ns k j) (hn : ns.length = n) (hj : j < n) (hu : vs[j]? = some u) (hm : ns[j]? = some m) (hg : w.grownBy w' u.ownBlock)
    (hM : w'.ownsRow base 3 1 u m (intCells (marksI (k + (ns.take j).sum) m))) : MarkInvI w' base v n vs ns k (j + 1) := by
  obtain ⟨C, ho, hr, hC, hx⟩ := h
  have hlen := congrArg List.length hC
  rw [List.length_map, hn] at hlen
  have hvl := hr.1
  have hCj : C[j]? = some C[j] := List.getElem?_eq_getElem (by omega)
  have hT : 3 ≠ 24 := by decide
  refine ⟨C.set j (intCells (marksI (k + (ns.take j).sum) m)), ho.kept hg ?_, hr.put hu hg (by rw [intCells_len, marksI_len]; exact hM), ?_, fun i q hi hq => ?_⟩
  · cases hb : v.ownBlock with
    | none => exact Or.inl rfl
    | some b => exact Or.inr (fun e => owns_apart (hr.2.1 j u _ hu hCj) ho hT b e.symm hb)
  · rw [List.map_set, hC, intCells_len, marksI_len]
    exact set_self hm
  · by_cases e : j = i
    · subst e
      rw [hm] at hq
      obtain rfl := Option.some.inj hq
      rw [List.getElem?_set_self (by omega)]
    · rw [List.getElem?_set_ne e]
      exact hx i q (by omega) hq
theorem MarkInvI.done {w : World} {base n k : Nat} {v : Value} {vs : List Value} {ns : List Nat} (h : MarkInvI w base v n vs ns k n) (hn : ns.length = n) : w.ownsRow base 24 1 v n vs ∧ RowsOwn w base 3 vs ((marksLI k ns).map intCells) := by
  obtain ⟨C, ho, hr, hC, hx⟩ := h
  have hlen := congrArg List.length hC
  rw [List.length_map, hn] at hlen
  have e : C = (marksLI k ns).map intCells := by
    refine List.ext_getElem? fun i => ?_
    by_cases hi : i < n
    · have hm : ns[i]? = some ns[i] := List.getElem?_eq_getElem (by omega)
      rw [hx i _ hi hm, List.getElem?_map, marksLI_at ns k i _ hm]
      rfl
    · rw [List.getElem?_eq_none (by omega), List.getElem?_eq_none (by rw [List.length_map, marksLI_len]; omega)]
  exact ⟨ho, e ▸ hr⟩

set_option maxRecDepth 100000 in
set_option maxHeartbeats 1000000 in
theorem markII_some (w : World) (base g n cap k : Nat) (vs : List Value) (ns : List Nat) (hM : MarkInvI w base (.slice (some ⟨g, 0, none⟩) n cap) n vs ns k 0) (hn : ns.length = n) (S : World → Prop) (hS : ∀ (j : Nat) u a b, vs[j]? = some u → a.grownBy b u.ownBlock → S a → S b) (h0 : S w) (hl : n ≤ 140737488355328) (hkl : k + ns.sum ≤ 140737488355328) :
    Calls Try.prog 74 #[.slice (some ⟨g, 0, none⟩) n cap, .int .i64 k] w fun e w' => e = .returned (.int .i64 ((k + ns.sum : Nat) : Int)) ∧ MarkInvI w' base (.slice (some ⟨g, 0, none⟩) n cap) n vs ns k n ∧ S w' := by
  have HN := Lib.hid hn
  clear hn
  go_enter Try.func74, Try.ntmps74
  go_wp2_with fail
  go_loopw [1, 5] (fun q i wr => ∃ (j K : Nat), j ≤ n ∧ i = .int .i64 j ∧ q = .int .i64 K ∧ K = k + (ns.take j).sum ∧ MarkInvI wr base (.slice (some ⟨g, 0, none⟩) n cap) n vs ns k j ∧ S wr) (fun _ i _ => n - (intOf i).toNat)
  case atStart => exact ⟨0, k, Nat.zero_le _, rfl, rfl, by simp, hM, h0⟩
  case round =>
    obtain ⟨j, K, hj, rfl, rfl, hK, hI, hB⟩ := hrel
    clear hM
    by_cases hlt : j < n
    · have hj1 : (j : Int) < n := by omega
      have hj0 : (0 : Int) ≤ j := by omega
      obtain ⟨u, m, c, hu, hm, hc, hcl⟩ := hI.row HN.out hlt
      have hsum : (ns.take j).sum + m ≤ ns.sum := by
        have := sum_take_succ hm
        have := sum_take_le ns (j + 1)
        omega
      have hsum2 : (ns.take (j + 1)).sum = (ns.take j).sum + m := sum_take_succ hm
      have hcu : wr.cell? ⟨g, j, none⟩ = some u := by
        obtain ⟨C, ho, _⟩ := hI
        rw [ho.cellAt j (by omega)]
        exact hu
      have HK := Lib.hid (markI wr base m K u c hc (by omega) (by omega))
      have HU := Lib.hid hu
      have HM := Lib.hid hm
      have HS := Lib.hid hsum2
      have HKK := Lib.hid hK
      clear hu hm hc hcl hsum hsum2 hK
      go_wp2_with fail
      refine HK.out.mono ?_
      rintro e w1 ⟨rfl, hM1, hg1⟩
      have HI := Lib.hid (hI.step HN.out hlt HU.out HM.out hg1 (by rw [← HKK.out]; exact hM1))
      have HB := Lib.hid (hS j u wr w1 HU.out hg1 hB)
      clear hM1 hg1 hI hB hcu
      go_wp2_with fail
      go_roundw
      case rel => exact ⟨j + 1, K + m, by omega, by go_num, by go_num, by rw [HS.out, HKK.out]; omega, HI.out, HB.out⟩
      case measure => simp [intOf]; omega
    · obtain rfl : j = n := by omega
      have hj1 : ¬ (j : Int) < j := by omega
      have hKK : K = k + ns.sum := by rw [hK, List.take_of_length_le (by rw [HN.out]; exact Nat.le_refl _)]
      clear hK
      subst hKK
      go_wp2_with fail
      go_ret
      exact ⟨rfl, hI, hB⟩

set_option maxRecDepth 100000 in
theorem markII_nil (w : World) (c k : Nat) :
    Calls Try.prog 74 #[.slice none 0 c, .int .i64 k] w fun e w' => e = .returned (.int .i64 k) ∧ w = w' := by
  go_enter Try.func74, Try.ntmps74
  go_wp2_with fail
  go_loop [1, 5] (fun q i => q = .int .i64 k ∧ i = .int .i64 0) (fun _ _ => 0)
  case atStart => exact ⟨rfl, rfl⟩
  case round =>
    obtain ⟨rfl, rfl⟩ := hrel
    go_wp2_with fail
    go_ret
    exact ⟨rfl, rfl⟩

/-- MARKING ROWS OF THE CALL's OWN, and what else it leaves. -/
theorem markII (w : World) (base : Nat) (v : Value) (vs : List Value) (L : List (List Int)) (k : Nat) (ho : w.ownsRow base 24 1 v L.length vs) (hr : RowsOwn w base 3 vs (L.map intCells)) (S : World → Prop) (hS : ∀ (j : Nat) u a b, vs[j]? = some u → a.grownBy b u.ownBlock → S a → S b) (h0 : S w)
    (hl : L.length ≤ 140737488355328) (hkl : k + (L.map List.length).sum ≤ 140737488355328) :
    Calls Try.prog 74 #[v, .int .i64 k] w fun e w' => e = .returned (.int .i64 ((k + (L.map List.length).sum : Nat) : Int)) ∧ (w'.ownsRow base 24 1 v L.length vs ∧ RowsOwn w' base 3 vs ((marksLI k (L.map List.length)).map intCells)) ∧ S w' := by
  have ho2 := ho
  rcases ho.2 with ⟨rfl, hn0⟩ | ⟨g, cap, cur, rfl, _⟩
  · have hL : L = [] := List.eq_nil_of_length_eq_zero hn0
    subst hL
    exact (markII_nil w 0 k).mono fun e w' ⟨he, hw⟩ => ⟨by rw [he]; simp, hw ▸ ⟨ho2, hr⟩, hw ▸ h0⟩
  · have hM : MarkInvI w base (.slice (some ⟨g, 0, none⟩) L.length cap) L.length vs (L.map List.length) k 0 :=
      ⟨L.map intCells, ho2, hr, by rw [List.map_map]; exact List.map_congr_left fun r _ => intCells_len r, fun i m hi => by omega⟩
    exact (markII_some w base g L.length cap k vs (L.map List.length) hM (List.length_map _) S hS h0 hl hkl).mono fun e w' ⟨he, hI, hB⟩ => ⟨he, hI.done (List.length_map _), hB⟩

set_option maxRecDepth 100000 in
set_option maxHeartbeats 1000000 in
theorem heldII_some (w : World) (b off c k : Nat) (ns : List Nat) (hl : ns.length ≤ 140737488355328) (hkl : k + ns.sum ≤ 140737488355328)
    (hc : ∀ (j : Nat) row, (marksLI k ns)[j]? = some row → ∃ u, w.cell? ⟨b, off + j, none⟩ = some u ∧ IntRow w u row) :
    Calls Try.prog 76 #[.slice (some ⟨b, off, none⟩) ns.length c, .int .i64 k] w fun e w' => e = .returned (.int .i64 ((k + ns.sum : Nat) : Int)) ∧ Below w.heap.size w w' := by
  have HC := Lib.hid hc
  clear hc
  obtain ⟨n, hn⟩ : ∃ n : Nat, ns.length = n := ⟨_, rfl⟩
  rw [hn] at hl ⊢
  have HN := Lib.hid hn
  clear hn
  go_enter Try.func76, Try.ntmps76
  go_wp2_with fail
  go_loopw [1, 4, 5] (fun q _ i wr => ∃ (j K : Nat), j ≤ n ∧ i = .int .i64 j ∧ q = .int .i64 K ∧ K = k + (ns.take j).sum ∧ Below w.heap.size w wr) (fun _ _ i _ => n - (intOf i).toNat)
  case atStart => exact ⟨0, k, Nat.zero_le _, rfl, rfl, by simp, Below.refl _ _⟩
  case round =>
    obtain ⟨j, K, hj, rfl, rfl, hK, hB⟩ := hrel
    by_cases hlt : j < n
    · have hj1 : (j : Int) < n := by omega
      have hj0 : (0 : Int) ≤ j := by omega
      obtain ⟨m, hm⟩ : ∃ m, ns[j]? = some m := ⟨_, List.getElem?_eq_getElem (by rw [HN.out]; exact hlt)⟩
      have hsum2 : (ns.take (j + 1)).sum = (ns.take j).sum + m := sum_take_succ hm
      have hsum : (ns.take j).sum + m ≤ ns.sum := by
        have := sum_take_le ns (j + 1)
        omega
      obtain ⟨u, hcu0, hru0⟩ := HC.out j _ (marksLI_at ns k j m hm)
      rw [← hK] at hru0
      have hcu := (hB.cell (p := ⟨b, off + j, none⟩) (World.block_lt_of_cell? w _ hcu0)).trans hcu0
      have HK := Lib.hid (heldIB wr u m K (hru0.below hB) (by omega) (by omega))
      have HS := Lib.hid hsum2
      have HKK := Lib.hid hK
      have hKm : ¬ (K : Int) + m < 0 := by omega
      clear hm hsum2 hsum hcu0 hru0 hK
      go_wp2_with fail
      refine HK.out.mono ?_
      rintro e w1 ⟨rfl, hB1⟩
      have HB := Lib.hid (hB.trans (hB1.mono hB.size))
      clear hB hB1 hcu
      go_wp2_with fail
      go_roundw
      case rel => exact ⟨j + 1, K + m, by omega, by go_num, by go_num, by rw [HS.out, HKK.out]; omega, HB.out⟩
      case measure => simp [intOf]; omega
    · obtain rfl : j = n := by omega
      have hj1 : ¬ (j : Int) < j := by omega
      have hKK : K = k + ns.sum := by rw [hK, List.take_of_length_le (by rw [HN.out]; exact Nat.le_refl _)]
      clear hK
      subst hKK
      go_wp2_with fail
      go_ret
      exact ⟨rfl, hB⟩

set_option maxRecDepth 100000 in
theorem heldII_zero (w : World) (a : Option Addr) (c k : Nat) :
    Calls Try.prog 76 #[.slice a 0 c, .int .i64 k] w fun e w' => e = .returned (.int .i64 k) ∧ w = w' := by
  go_enter Try.func76, Try.ntmps76
  go_wp2_with fail
  go_loop [1, 4, 5] (fun q _ i => q = .int .i64 k ∧ i = .int .i64 0) (fun _ _ _ => 0)
  case atStart => exact ⟨rfl, rfl⟩
  case round =>
    obtain ⟨rfl, rfl⟩ := hrel
    go_wp2_with fail
    go_ret
    exact ⟨rfl, rfl⟩

/-- THE ROWS' MARKS ARE HELD. -/
theorem heldII (w : World) (v : Value) (ns : List Nat) (k : Nat) (h : IIRow w v (marksLI k ns)) (hl : ns.length ≤ 140737488355328) (hkl : k + ns.sum ≤ 140737488355328) :
    Calls Try.prog 76 #[v, .int .i64 k] w fun e w' => e = .returned (.int .i64 ((k + ns.sum : Nat) : Int)) ∧ Below w.heap.size w w' := by
  have hlen := marksLI_len ns k
  rcases h with ⟨h0, a, c, rfl⟩ | ⟨b, off, c, rfl, _, _, hc⟩
  · rw [h0] at hlen
    have hns : ns = [] := List.eq_nil_of_length_eq_zero hlen.symm
    subst hns
    exact (heldII_zero w a c k).mono fun e w' ⟨he, hw⟩ => ⟨by rw [he]; simp, hw ▸ Below.refl _ _⟩
  · rw [hlen]
    exact heldII_some w b off c k ns hl hkl hc
end Go.Proofs.Ytgknkjiifcnkpaa
