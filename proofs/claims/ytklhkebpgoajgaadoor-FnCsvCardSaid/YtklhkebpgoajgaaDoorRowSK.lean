/-
  The laws' own helpers on lists of lists of texts: their marks.
-/
import Derived.Test.YtklhkebpgoajgaaDoorRowSM
namespace Go.Proofs.YtklhkebpgoajgaaDoor
open Go.RowKit

/-- The marks of rows of these lengths, from k on. -/
def marksL (k : Nat) : List Nat → List (List (List UInt8))
  | [] => []
  | n :: r => marks k n :: marksL (k + n) r
theorem marksL_len : ∀ (ns : List Nat) (k : Nat), (marksL k ns).length = ns.length
  | [], _ => rfl
  | n :: r, k => by rw [marksL, List.length_cons, List.length_cons, marksL_len r]
theorem marksL_at : ∀ (ns : List Nat) (k j n : Nat), ns[j]? = some n → (marksL k ns)[j]? = some (marks (k + (ns.take j).sum) n)
  | [], _, _, _, h => by simp at h
  | m :: r, k, 0, n, h => by
    obtain rfl : m = n := by simpa using h
    simp [marksL]
  | m :: r, k, j + 1, n, h => by
    have ih := marksL_at r (k + m) j n (by simpa using h)
    rw [marksL, List.getElem?_cons_succ, ih]
    congr 2
    simp only [List.take_succ_cons, List.sum_cons]
    omega
theorem marked_cells {w : World} {base : Nat} {T : TypeId} {v : Value} {n k : Nat} (h : Marked w base T v n k n) : w.ownsRow base T 1 v (strCells (marks k n)).length (strCells (marks k n)) := by
  obtain ⟨xs, ho, hx⟩ := h
  have e : xs = strCells (marks k n) := by
    refine List.ext_getElem? fun i => ?_
    by_cases hi : i < n
    · rw [hx i hi, strCells, List.getElem?_map, marks_at hi]; rfl
    · have hxl := ho.1
      rw [List.getElem?_eq_none (by omega), List.getElem?_eq_none (by rw [strCells_len, marks_len]; omega)]
  rw [strCells_len, marks_len, ← e]
  exact ho

theorem sum_take_succ {ns : List Nat} {j m : Nat} (h : ns[j]? = some m) : (ns.take (j + 1)).sum = (ns.take j).sum + m := by
  rw [List.take_add_one, h, List.sum_append]
  simp
theorem sum_take_le (ns : List Nat) (j : Nat) : (ns.take j).sum ≤ ns.sum := by
  have e : ns.sum = (ns.take j).sum + (ns.drop j).sum := by rw [← List.sum_append, List.take_append_drop]
  omega
theorem sum_mem {ns : List Nat} {m : Nat} (h : m ∈ ns) : m ≤ ns.sum := by
  induction ns with
  | nil => cases h
  | cons a t ih =>
    rw [List.sum_cons]
    rcases List.mem_cons.1 h with rfl | h
    · omega
    · have := ih h
      omega
theorem set_self {ns : List Nat} {j m : Nat} (h : ns[j]? = some m) : ns.set j m = ns := by
  refine List.ext_getElem? fun i => ?_
  by_cases e : j = i
  · subst e
    rw [List.getElem?_set_self (List.getElem?_eq_some_iff.1 h).1, h]
  · rw [List.getElem?_set_ne e]

/-- The rows before j are marked. -/
def MarkInv (w : World) (base : Nat) (v : Value) (n : Nat) (vs : List Value) (ns : List Nat) (k j : Nat) : Prop :=
  ∃ C : List (List Value), w.ownsRow base 45 1 v n vs ∧ RowsOwn w base 9 vs C ∧ C.map List.length = ns ∧ (∀ (i m : Nat), i < j → ns[i]? = some m → C[i]? = some (strCells (marks (k + (ns.take i).sum) m)))
theorem MarkInv.row {w : World} {base n k j : Nat} {v : Value} {vs : List Value} {ns : List Nat} (h : MarkInv w base v n vs ns k j) (hn : ns.length = n) (hj : j < n) : ∃ u m c, vs[j]? = some u ∧ ns[j]? = some m ∧ w.ownsRow base 9 1 u m c ∧ c.length = m := by
  obtain ⟨C, ho, hr, hC, _⟩ := h
  have hlen := congrArg List.length hC
  rw [List.length_map, hn] at hlen
  have hvl := hr.1
  have hCj : C[j]? = some C[j] := List.getElem?_eq_getElem (by omega)
  have hvj : vs[j]? = some vs[j] := List.getElem?_eq_getElem (by omega)
  refine ⟨vs[j], C[j].length, C[j], hvj, ?_, hr.2.1 j _ _ hvj hCj, rfl⟩
  rw [← hC, List.getElem?_map, hCj]
  rfl
theorem MarkInv.step {w w' : World} {base n k j m : Nat} {v u : Value} {vs : List Value} {ns : List Nat} (h : MarkInv w base v n vs ns k j) (hn : ns.length = n) (hj : j < n) (hu : vs[j]? = some u) (hm : ns[j]? = some m) (hg : w.grownBy w' u.ownBlock)
    (hM : Marked w' base 9 u m (k + (ns.take j).sum) m) : MarkInv w' base v n vs ns k (j + 1) := by
  obtain ⟨C, ho, hr, hC, hx⟩ := h
  have hlen := congrArg List.length hC
  rw [List.length_map, hn] at hlen
  have hvl := hr.1
  have hCj : C[j]? = some C[j] := List.getElem?_eq_getElem (by omega)
  have hT : 9 ≠ 45 := by decide
  refine ⟨C.set j (strCells (marks (k + (ns.take j).sum) m)), ho.kept hg ?_, hr.put hu hg (marked_cells hM), ?_, fun i q hi hq => ?_⟩
  · cases hb : v.ownBlock with
    | none => exact Or.inl rfl
    | some b => exact Or.inr (fun e => owns_apart (hr.2.1 j u _ hu hCj) ho hT b e.symm hb)
  · rw [List.map_set, hC, strCells_len, marks_len]
    exact set_self hm
  · by_cases e : j = i
    · subst e
      rw [hm] at hq
      obtain rfl := Option.some.inj hq
      rw [List.getElem?_set_self (by omega)]
    · rw [List.getElem?_set_ne e]
      exact hx i q (by omega) hq
theorem MarkInv.done {w : World} {base n k : Nat} {v : Value} {vs : List Value} {ns : List Nat} (h : MarkInv w base v n vs ns k n) (hn : ns.length = n) (hl : n ≤ 140737488355328) (hnl : ∀ m ∈ ns, m ≤ 140737488355328) : SSRow w v (marksL k ns) := by
  obtain ⟨C, ho, hr, hC, hx⟩ := h
  have hlen := marksL_len ns k
  refine ssRow_of (base := base) (vs := vs) (by rw [hlen, hn]; exact ho) (fun j u row hu hj => ?_) (by omega)
  have hjl := (List.getElem?_eq_some_iff.1 hj).1
  rw [hlen] at hjl
  have hm : ns[j]? = some ns[j] := List.getElem?_eq_getElem hjl
  rw [marksL_at ns k j _ hm] at hj
  obtain rfl := Option.some.inj hj
  have := hr.2.1 j u _ hu (hx j _ (by omega) hm)
  rw [strCells_len] at this
  refine strRow_of_owns this ?_
  rw [marks_len]
  have := hnl ns[j] (List.getElem_mem hjl)
  omega

set_option maxRecDepth 100000 in
set_option maxHeartbeats 1000000 in
theorem markSS_some (w : World) (base g n cap k : Nat) (vs : List Value) (ns : List Nat) (hM : MarkInv w base (.slice (some ⟨g, 0, none⟩) n cap) n vs ns k 0) (hn : ns.length = n) (hbase : base ≤ w.heap.size) (hk : 1 ≤ k) (hl : n ≤ 140737488355328) (hkl : k + ns.sum ≤ 140737488355328) :
    Calls Tryd.prog 23 #[.slice (some ⟨g, 0, none⟩) n cap, .int .i64 k] w fun e w' => e = .returned (.int .i64 ((k + ns.sum : Nat) : Int)) ∧ MarkInv w' base (.slice (some ⟨g, 0, none⟩) n cap) n vs ns k n ∧ Below base w w' := by
  have HN := Lib.hid hn
  clear hn
  go_enter Tryd.func23, Tryd.ntmps23
  go_wp2_with fail
  go_loopw [1, 5] (fun q i wr => ∃ (j K : Nat), j ≤ n ∧ i = .int .i64 j ∧ q = .int .i64 K ∧ K = k + (ns.take j).sum ∧ MarkInv wr base (.slice (some ⟨g, 0, none⟩) n cap) n vs ns k j ∧ Below base w wr) (fun _ i _ => n - (intOf i).toNat)
  case atStart => exact ⟨0, k, Nat.zero_le _, rfl, rfl, by simp, hM, Below.refl _ _⟩
  case round =>
    obtain ⟨j, K, hj, rfl, rfl, hK, hI, hB⟩ := hrel
    clear hM
    by_cases hlt : j < n
    · have hj1 : (j : Int) < n := by omega
      have hj0 : (0 : Int) ≤ j := by omega
      obtain ⟨u, m, c, hu, hm, hc, hcl⟩ := hI.row HN.out hlt
      have hsum : (ns.take j).sum + m ≤ ns.sum := by
        have := sum_take_succ hm
        have := sum_take_le ns (j + 1)
        omega
      have hsum2 : (ns.take (j + 1)).sum = (ns.take j).sum + m := sum_take_succ hm
      have hcu : wr.cell? ⟨g, j, none⟩ = some u := by
        obtain ⟨C, ho, _⟩ := hI
        rw [ho.cellAt j (by omega)]
        exact hu
      have HK := Lib.hid (markStr wr base m K u c hc (by omega) (by omega) (by omega))
      have HC := Lib.hid (fun b hb => (hc.lt b hb).1)
      have HU := Lib.hid hu
      have HM := Lib.hid hm
      have HS := Lib.hid hsum2
      have HKK := Lib.hid hK
      have hz : base ≤ wr.heap.size := Nat.le_trans hbase hB.size
      clear hu hm hc hcl hsum hsum2 hK
      go_wp2_with fail
      refine HK.out.mono ?_
      rintro e w1 ⟨rfl, hM1, hg1⟩
      have HI := Lib.hid (hI.step HN.out hlt HU.out HM.out hg1 (by rw [← HKK.out]; exact hM1))
      have HB := Lib.hid (hB.grown hg1 hz (fun b hb => HC.out b hb))
      clear hM1 hg1 hI hB hcu
      go_wp2_with fail
      go_roundw
      case rel => exact ⟨j + 1, K + m, by omega, by go_num, by go_num, by rw [HS.out, HKK.out]; omega, HI.out, HB.out⟩
      case measure => simp [intOf]; omega
    · obtain rfl : j = n := by omega
      have hj1 : ¬ (j : Int) < j := by omega
      have hKK : K = k + ns.sum := by rw [hK, List.take_of_length_le (by rw [HN.out]; exact Nat.le_refl _)]
      clear hK
      subst hKK
      go_wp2_with fail
      go_ret
      exact ⟨rfl, hI, hB⟩

set_option maxRecDepth 100000 in
theorem markSS_nil (w : World) (c k : Nat) :
    Calls Tryd.prog 23 #[.slice none 0 c, .int .i64 k] w fun e w' => e = .returned (.int .i64 k) ∧ w = w' := by
  go_enter Tryd.func23, Tryd.ntmps23
  go_wp2_with fail
  go_loop [1, 5] (fun q i => q = .int .i64 k ∧ i = .int .i64 0) (fun _ _ => 0)
  case atStart => exact ⟨rfl, rfl⟩
  case round =>
    obtain ⟨rfl, rfl⟩ := hrel
    go_wp2_with fail
    go_ret
    exact ⟨rfl, rfl⟩

/-- MARKING ROWS OF THE CALL's OWN. -/
theorem markSS (w : World) (base : Nat) (v : Value) (L : List (List (List UInt8))) (k : Nat) (h : SSOwn w base v L) (hbase : base ≤ w.heap.size) (hk : 1 ≤ k) (hl : L.length ≤ 140737488355328) (hkl : k + (L.map List.length).sum ≤ 140737488355328) :
    Calls Tryd.prog 23 #[v, .int .i64 k] w fun e w' => e = .returned (.int .i64 ((k + (L.map List.length).sum : Nat) : Int)) ∧ SSRow w' v (marksL k (L.map List.length)) ∧ Below base w w' := by
  obtain ⟨vs, ho, hr⟩ := h
  have ho2 := ho
  have hmem : ∀ m ∈ L.map List.length, m ≤ 140737488355328 := fun m hm => by
    have := sum_mem hm
    omega
  rcases ho.2 with ⟨rfl, h0⟩ | ⟨g, cap, cur, rfl, _⟩
  · have hL : L = [] := List.eq_nil_of_length_eq_zero h0
    subst hL
    exact (markSS_nil w 0 k).mono fun e w' ⟨he, hw⟩ => ⟨by rw [he]; simp, Or.inl ⟨rfl, _, _, rfl⟩, hw ▸ Below.refl _ _⟩
  · have hM : MarkInv w base (.slice (some ⟨g, 0, none⟩) L.length cap) L.length vs (L.map List.length) k 0 :=
      ⟨L.map strCells, ho2, hr, by rw [List.map_map]; exact List.map_congr_left fun r _ => strCells_len r, fun i m hi => by omega⟩
    exact (markSS_some w base g L.length cap k vs (L.map List.length) hM (List.length_map _) hbase hk hl hkl).mono fun e w' ⟨he, hI, hB⟩ => ⟨he, hI.done (List.length_map _) hl hmem, hB⟩

set_option maxRecDepth 100000 in
set_option maxHeartbeats 1000000 in
theorem heldSS_some (w : World) (b off c k : Nat) (ns : List Nat) (hk : 1 ≤ k) (hl : ns.length ≤ 140737488355328) (hkl : k + ns.sum ≤ 140737488355328)
    (hc : ∀ (j : Nat) row, (marksL k ns)[j]? = some row → ∃ u, w.cell? ⟨b, off + j, none⟩ = some u ∧ StrRow w u row) :
    Calls Tryd.prog 24 #[.slice (some ⟨b, off, none⟩) ns.length c, .int .i64 k] w fun e w' => e = .returned (.int .i64 ((k + ns.sum : Nat) : Int)) ∧ Below w.heap.size w w' := by
  have HC := Lib.hid hc
  clear hc
  obtain ⟨n, hn⟩ : ∃ n : Nat, ns.length = n := ⟨_, rfl⟩
  rw [hn] at hl ⊢
  have HN := Lib.hid hn
  clear hn
  go_enter Tryd.func24, Tryd.ntmps24
  go_wp2_with fail
  go_loopw [1, 4, 5] (fun q _ i wr => ∃ (j K : Nat), j ≤ n ∧ i = .int .i64 j ∧ q = .int .i64 K ∧ K = k + (ns.take j).sum ∧ Below w.heap.size w wr) (fun _ _ i _ => n - (intOf i).toNat)
  case atStart => exact ⟨0, k, Nat.zero_le _, rfl, rfl, by simp, Below.refl _ _⟩
  case round =>
    obtain ⟨j, K, hj, rfl, rfl, hK, hB⟩ := hrel
    by_cases hlt : j < n
    · have hj1 : (j : Int) < n := by omega
      have hj0 : (0 : Int) ≤ j := by omega
      obtain ⟨m, hm⟩ : ∃ m, ns[j]? = some m := ⟨_, List.getElem?_eq_getElem (by rw [HN.out]; exact hlt)⟩
      have hsum2 : (ns.take (j + 1)).sum = (ns.take j).sum + m := sum_take_succ hm
      have hsum : (ns.take j).sum + m ≤ ns.sum := by
        have := sum_take_le ns (j + 1)
        omega
      obtain ⟨u, hcu0, hru0⟩ := HC.out j _ (marksL_at ns k j m hm)
      rw [← hK] at hru0
      have hcu := (hB.cell (p := ⟨b, off + j, none⟩) (World.block_lt_of_cell? w _ hcu0)).trans hcu0
      have HK := Lib.hid (heldStr wr u m K (hru0.below hB) (by omega) (by omega) (by omega))
      have HS := Lib.hid hsum2
      have HKK := Lib.hid hK
      have hKm : ¬ (K : Int) + m < 0 := by omega
      clear hm hsum2 hsum hcu0 hru0 hK
      go_wp2_with fail
      refine HK.out.mono ?_
      rintro e w1 ⟨rfl, hB1⟩
      have HB := Lib.hid (hB.trans (hB1.mono hB.size))
      clear hB hB1 hcu
      go_wp2_with fail
      go_roundw
      case rel => exact ⟨j + 1, K + m, by omega, by go_num, by go_num, by rw [HS.out, HKK.out]; omega, HB.out⟩
      case measure => simp [intOf]; omega
    · obtain rfl : j = n := by omega
      have hj1 : ¬ (j : Int) < j := by omega
      have hKK : K = k + ns.sum := by rw [hK, List.take_of_length_le (by rw [HN.out]; exact Nat.le_refl _)]
      clear hK
      subst hKK
      go_wp2_with fail
      go_ret
      exact ⟨rfl, hB⟩

set_option maxRecDepth 100000 in
theorem heldSS_zero (w : World) (a : Option Addr) (c k : Nat) :
    Calls Tryd.prog 24 #[.slice a 0 c, .int .i64 k] w fun e w' => e = .returned (.int .i64 k) ∧ w = w' := by
  go_enter Tryd.func24, Tryd.ntmps24
  go_wp2_with fail
  go_loop [1, 4, 5] (fun q _ i => q = .int .i64 k ∧ i = .int .i64 0) (fun _ _ _ => 0)
  case atStart => exact ⟨rfl, rfl⟩
  case round =>
    obtain ⟨rfl, rfl⟩ := hrel
    go_wp2_with fail
    go_ret
    exact ⟨rfl, rfl⟩

/-- THE ROWS' MARKS ARE HELD. -/
theorem heldSS (w : World) (v : Value) (ns : List Nat) (k : Nat) (h : SSRow w v (marksL k ns)) (hk : 1 ≤ k) (hl : ns.length ≤ 140737488355328) (hkl : k + ns.sum ≤ 140737488355328) :
    Calls Tryd.prog 24 #[v, .int .i64 k] w fun e w' => e = .returned (.int .i64 ((k + ns.sum : Nat) : Int)) ∧ Below w.heap.size w w' := by
  have hlen := marksL_len ns k
  rcases h with ⟨h0, a, c, rfl⟩ | ⟨b, off, c, rfl, _, _, hc⟩
  · rw [h0] at hlen
    have hns : ns = [] := List.eq_nil_of_length_eq_zero hlen.symm
    subst hns
    exact (heldSS_zero w a c k).mono fun e w' ⟨he, hw⟩ => ⟨by rw [he]; simp, hw ▸ Below.refl _ _⟩
  · rw [hlen]
    exact heldSS_some w b off c k ns hk hl hkl hc
end Go.Proofs.YtklhkebpgoajgaaDoor
