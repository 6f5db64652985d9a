
/-
  A wide number read from its text: the reference's way.
-/
import Derived.Test.YtjmlpeapbealfaaTenT
import Derived.Test.YtjmlpeapbealfaaBox3
namespace Go.Proofs.Ytjmlpeapbealfaa
open Go.RowKit

open Classical in
/-- What reading a text ends in. -/
noncomputable def rdE (l : List UInt8) : Ending := if h : ∃ z, IsW l z then .returned (.tuple #[wideC h.choose, .bool true]) else .returned (.tuple #[.agg #[.bool false, .int .u64 0, .int .u64 0], .bool false])
theorem rdE_yes {l : List UInt8} {z : Int} (h : IsW l z) : rdE l = .returned (.tuple #[wideC z, .bool true]) := by
  have hx : ∃ z, IsW l z := ⟨z, h⟩
  rw [rdE, dif_pos hx, isW_one hx.choose_spec h]
theorem rdE_no {l : List UInt8} (h : ∀ z, ¬ IsW l z) : rdE l = .returned (.tuple #[.agg #[.bool false, .int .u64 0, .int .u64 0], .bool false]) := by
  rw [rdE, dif_neg (fun ⟨z, hz⟩ => h z hz)]
theorem at_byteW {s : ByteArray} {k : Nat} (h : k < s.size) : s.data.toList[k]? = some s[k] := by
  rw [Array.getElem?_toList]
  exact Array.getElem?_eq_getElem h
theorem wideC_nat (v : Nat) (h : v < 170141183460469231731687303715884105728) : wideC (v : Int) = .agg #[.bool false, .int .u64 ((v : Int) / 18446744073709551616), .int .u64 ((v : Int) % 18446744073709551616)] := by
  rw [wideC, show ((v : Int).natAbs : Int) = v by omega, decide_eq_false (by omega)]

theorem strNeW {l : List UInt8} {s : ByteArray} (h : l ≠ s.data.toList) : (!(l == s.toList)) = true := by
  rw [ByteArray.toList_eq]; simpa using h
theorem strEqW {l : List UInt8} {s : ByteArray} (h : l = s.data.toList) : (!(l == s.toList)) = false := by
  rw [ByteArray.toList_eq]; simpa using h
theorem nat_parts (v : Nat) (h : v < 170141183460469231731687303715884105728) : okV false ((v : Int) / 18446744073709551616) ((v : Int) % 18446744073709551616) = true := okV_mk (by omega) (fun k => by cases k)
theorem sv_parts (n : Bool) (v : Nat) : sv n ((v : Int) / 18446744073709551616 * 18446744073709551616 + (v : Int) % 18446744073709551616) = sv n v := by
  rw [show (v : Int) / 18446744073709551616 * 18446744073709551616 + (v : Int) % 18446744073709551616 = v by omega]
theorem textV_nat (v : Nat) (h : v < 170141183460469231731687303715884105728) : textV false ((v : Int) / 18446744073709551616) ((v : Int) % 18446744073709551616) = Lib.itoa (v : Int) := by
  rw [textV, if_pos (nat_parts v h), sv_parts]; rfl
theorem negV_parts (v : Nat) (h : v < 170141183460469231731687303715884105728) : negV false ((v : Int) / 18446744073709551616) ((v : Int) % 18446744073709551616) = decide ((0 : Int) < v) := by
  rw [negV_ok (by omega) (by omega) (nat_parts v h)]
  by_cases hv : v = 0
  · subst hv; simp [sgV]
  · rw [show decide ((0 : Int) < v) = true by simp; omega]
    simp [sgV]; omega
theorem min_parts (v : Nat) : sv (decide ((0 : Int) < v)) v = -(v : Int) := by
  by_cases hv : v = 0
  · subst hv; simp [sv]
  · rw [show decide ((0 : Int) < v) = true by simp; omega]; simp [sv]
theorem okV_min (v : Nat) (h : v < 170141183460469231731687303715884105728) : okV (decide ((0 : Int) < v)) ((v : Int) / 18446744073709551616) ((v : Int) % 18446744073709551616) = true := okV_mk (by omega) (fun k => by simp at k; omega)
theorem textV_min (v : Nat) (h : v < 170141183460469231731687303715884105728) : textV (negV false ((v : Int) / 18446744073709551616) ((v : Int) % 18446744073709551616)) ((v : Int) / 18446744073709551616) ((v : Int) % 18446744073709551616) = Lib.itoa (-(v : Int)) := by
  rw [negV_parts v h, textV, if_pos (okV_min v h), sv_parts, min_parts]
theorem wideC_min (v : Nat) (h : v < 170141183460469231731687303715884105728) : wideC (-(v : Int)) = .agg #[.bool (negV false ((v : Int) / 18446744073709551616) ((v : Int) % 18446744073709551616)), .int .u64 ((v : Int) / 18446744073709551616), .int .u64 ((v : Int) % 18446744073709551616)] := by
  rw [negV_parts v h, wideC, show ((-(v : Int)).natAbs : Int) = v by omega, show decide (-(v : Int) < 0) = decide ((0 : Int) < v) by congr 1; simp]
theorem PairS.putB {W : World} {A B : Nat} {p q : Value} {h0 l0 h1 l1 : Int} {wr : World} (h : PairS W A B (fun _ => p) (fun _ => q) h0 l0 h1 l1 wr) (hA : W.heap.size ≤ B) (hne : B ≠ A) (u : Value) (h2 l2 : Int) :
    PairS W A B (fun _ => p) (fun _ => u) h0 l0 h2 l2 (((wr.setCell ⟨B, 0, none⟩ u).setCell ⟨B, 1, none⟩ (.int .u64 h2)).setCell ⟨B, 2, none⟩ (.int .u64 l2)) :=
  have k := st3_at wr B u (.int .u64 h2) (.int .u64 l2) _ _ _ h.2.2.2.1 h.2.2.2.2.1 h.2.2.2.2.2.1
  ⟨(st3_far _ _ _ _ _ _ _ hne).trans h.1, (st3_far _ _ _ _ _ _ _ hne).trans h.2.1, (st3_far _ _ _ _ _ _ _ hne).trans h.2.2.1, k.1, k.2.1, k.2.2,
    fun j => (st3_frozen _ _ _ _ _ _).trans (h.2.2.2.2.2.2.1 j), fun j => (st3_frozen _ _ _ _ _ _).trans (h.2.2.2.2.2.2.2.1 j), st3_below h.2.2.2.2.2.2.2.2 hA _ _ _⟩
theorem ten_yes {v : Nat} {d : Int} (hv : v < 170141183460469231731687303715884105728) (d0 : 0 ≤ d) (d1 : d ≤ 9) (hb : (v : Int) * 10 + d < 170141183460469231731687303715884105728) :
    tenE false ((v : Int) / 18446744073709551616) ((v : Int) % 18446744073709551616) d = .returned (.tuple #[.agg #[.bool false, .int .u64 (((v : Int) * 10 + d) / 18446744073709551616), .int .u64 (((v : Int) * 10 + d) % 18446744073709551616)], .bool true]) := by
  have hk : okV false ((v : Int) / 18446744073709551616) ((v : Int) % 18446744073709551616) = true := okV_mk (by omega) (fun k => by cases k)
  have e : sv false ((v : Int) / 18446744073709551616 * 18446744073709551616 + (v : Int) % 18446744073709551616) * 10 + sv false d = (v : Int) * 10 + d := by
    simp [sv]; omega
  rw [tenE, if_pos ⟨hk, d0, d1⟩, e, fitW_in (by unfold RoomW; omega)]
  rw [wideC, show (((v : Int) * 10 + d).natAbs : Int) = (v : Int) * 10 + d by omega, decide_eq_false (by omega)]
theorem ten_yes2 {v v2 : Nat} {d : Int} (hv : v < 170141183460469231731687303715884105728) (d0 : 0 ≤ d) (d1 : d ≤ 9) (h2 : (v2 : Int) = (v : Int) * 10 + d) (hb : v2 < 170141183460469231731687303715884105728) :
    tenE false ((v : Int) / 18446744073709551616) ((v : Int) % 18446744073709551616) d = .returned (.tuple #[.agg #[.bool false, .int .u64 ((v2 : Int) / 18446744073709551616), .int .u64 ((v2 : Int) % 18446744073709551616)], .bool true]) := by
  rw [h2]; exact ten_yes hv d0 d1 (by omega)
theorem ten_no {v : Nat} {d : Int} (hv : v < 170141183460469231731687303715884105728) (h : d < 0 ∨ 9 < d ∨ 170141183460469231731687303715884105728 ≤ (v : Int) * 10 + d) :
    tenE false ((v : Int) / 18446744073709551616) ((v : Int) % 18446744073709551616) d = .returned (.tuple #[.agg #[.bool false, .int .u64 0, .int .u64 0], .bool false]) := by
  rw [tenE]
  split
  · rename_i k
    have e : sv false ((v : Int) / 18446744073709551616 * 18446744073709551616 + (v : Int) % 18446744073709551616) * 10 + sv false d = (v : Int) * 10 + d := by
      simp [sv]; omega
    rw [e]
    exact (fitW_no (by unfold RoomW; omega)).symm
  · rfl

set_option maxRecDepth 100000 in
set_option maxHeartbeats 2000000 in
theorem specRead_neg (s : ByteArray) (w : World) (hl0 : 1 ≤ s.size) (hl1 : s.size ≤ 40) (hf : startOf s.data.toList = 1) (h45 : ((s[0].toNat : Int) == 45) = true) :
    Calls Try.prog 32 #[.string s] w fun e w' => e = rdE s.data.toList ∧ Below w.heap.size w w' := by
  have HF := Lib.hid hf
  clear hf
  have h00 : 0 < s.size := by omega
  have hq1 : decide ((s.size : Int) < 1) = false := by rw [decide_eq_false_iff_not]; omega
  have hq2 : decide ((40 : Int) < s.size) = false := by rw [decide_eq_false_iff_not]; omega
  go_enter Try.func32, Try.ntmps32
  go_wp2_with fail
  have hP0 : PairS w w.heap.size (w.heap.size + 1) (fun _ => .bool false) (fun _ => .bool false) 0 0 0 0 ((w.alloc (.cells #[.bool false, .int .u64 0, .int .u64 0] 30)).alloc (.cells #[.bool false, .int .u64 0, .int .u64 0] 30)) := PairS.start (w1 := (w.alloc (.cells #[.bool false, .int .u64 0, .int .u64 0] 30)).alloc (.cells #[.bool false, .int .u64 0, .int .u64 0] 30)) (Below.refl _ _)
  go_loopw [6] (fun i wr => ∃ (k v : Nat) (hh ll : Int), k ≤ s.size ∧ i = .int .i64 k ∧ v < 170141183460469231731687303715884105728 ∧ ReadTo s.data.toList k v ∧ Hid (hh = (v : Int) / 18446744073709551616 ∧ ll = (v : Int) % 18446744073709551616) ∧ PairS w w.heap.size (w.heap.size + 1) (fun _ => .bool false) (fun _ => .bool false) 0 0 hh ll wr) (fun i _ => s.size - (intOf i).toNat)
  case atStart =>
    have h := readTo_start s.data.toList
    rw [HF.out] at h
    exact ⟨1, 0, 0, 0, by omega, rfl, by omega, h, Lib.hid (by simp), hP0⟩
  case round =>
    clear hP0
    obtain ⟨k, v, hh, ll, hk, rfl, hv, hR, HV, hP⟩ := hrel
    have p0 : 0 ≤ hh ∧ hh < 18446744073709551616 := by have := HV.out; omega
    have p1 : 0 ≤ ll ∧ ll < 18446744073709551616 := by have := HV.out; omega
    by_cases hlt : k < s.size
    · have hat := at_byteW hlt
      have hu0 : (0 : Int) ≤ (s[k].toNat : Int) := by omega
      have hu1 : (s[k].toNat : Int) ≤ 255 := by have := UInt8.toNat_lt s[k]; omega
      have hw1 : IntKind.i64.wrap (s[k].toNat : Int) = (s[k].toNat : Int) := by rw [IntKind.wrap_i64]; omega
      have hw2 : IntKind.i64.wrap ((s[k].toNat : Int) - 48) = (s[k].toNat : Int) - 48 := by rw [IntKind.wrap_i64]; omega
      obtain ⟨d, hd⟩ : ∃ d : Int, d = (s[k].toNat : Int) - 48 := ⟨_, rfl⟩
      by_cases hgo : (0 ≤ d ∧ d ≤ 9) ∧ (v : Int) * 10 + d < 170141183460469231731687303715884105728
      · obtain ⟨v2, hv2⟩ : ∃ v2 : Nat, v2 = v * 10 + (s[k].toNat - 48) := ⟨_, rfl⟩
        have hb2 : v2 < 170141183460469231731687303715884105728 := by omega
        obtain ⟨h2, g0⟩ : ∃ x : Int, x = (v2 : Int) / 18446744073709551616 := ⟨_, rfl⟩
        obtain ⟨l2, g1⟩ : ∃ x : Int, x = (v2 : Int) % 18446744073709551616 := ⟨_, rfl⟩
        have HT := ten_yes2 (v2 := v2) hv hgo.1.1 hgo.1.2 (by omega) hb2
        rw [← HV.out.1, ← HV.out.2, ← g0, ← g1] at HT
        have HW := Lib.hid (And.intro g0 g1)
        have HS := readTo_step hR hat (by unfold isDig; omega)
        rw [← hv2] at HS
        rw [hd] at HT
        replace HT := Lib.hid HT
        clear hat hR hgo hd hv2 g0 g1
        go_wp2_with fail
        have hD := PairS.drew hP
        have hD2 := PairS.drew (PairS.alloc hP (.cells #[.bool false, .int .u64 0, .int .u64 0] 30))
        have hlr := PairS.lt hP
        clear hP
        go_region_held3 (fun w' => w'.cell? ⟨w.heap.size, 0, none⟩ = some (.bool false) ∧ w'.cell? ⟨w.heap.size, 1, none⟩ = some (.int .u64 0) ∧ w'.cell? ⟨w.heap.size, 2, none⟩ = some (.int .u64 0) ∧ w'.cell? ⟨(w.heap.size + 1), 0, none⟩ = some (.bool false) ∧ w'.cell? ⟨(w.heap.size + 1), 1, none⟩ = some (.int .u64 hh) ∧ w'.cell? ⟨(w.heap.size + 1), 2, none⟩ = some (.int .u64 ll) ∧ (∀ k, w'.frozen? ⟨w.heap.size, k, none⟩ = false) ∧ (∀ k, w'.frozen? ⟨(w.heap.size + 1), k, none⟩ = false) ∧ Below w.heap.size w w') (first | with_reducible assumption | (with_reducible (refine PairS.alloc (p := .bool false) (q := .bool false) ?_ _ <;> assumption)) | with_reducible exact (Pair3S.laid (p := .bool false) (q := .bool false) (x := .bool false) (y := .int .u64 h2) (z := .int .u64 l2) (by assumption) (.bool false) (.int .u64 0) (.int .u64 0) 30).2.2.2 | (with_reducible (refine PairS.far (p := .bool false) (q := .bool false) ?_ _ ?_ ?_ ?_ _ _ _ <;> first | assumption | omega)))
          (first | (go_at_call 38; refine (specTenTimes false _ _ _ p0.1 p0.2 p1.1 p1.2 _).mono ?_; rintro e w6 ⟨rfl, hB⟩; have hP6 := PairS.still (keepsC_at w.heap.size (.bool false)) (keepsC_at (w.heap.size + 1) (.bool false)) (by with_reducible assumption) hB; have hl6 := PairS.lt hP6; (first | (have hX := box_kept hB) | (have hX := box_kept (below_of_drew hB)) | skip); clear hB; rw [HT.out]; (try (have x0 := cell_blk hX 0; have x1 := cell_blk hX 1; have x2 := cell_blk hX 2; have y0 := free_blk hX 0; have y1 := free_blk hX 1; have y2 := free_blk hX 2))))
        all_goals first
          | (have h3 : Pair3S w w.heap.size (w.heap.size + 1) (.bool false) (.bool false) 0 0 hh ll wr.heap.size (.bool false) (.int .u64 h2) (.int .u64 l2) (((w6.setCell ⟨wr.heap.size, 0, none⟩ (.bool false)).setCell ⟨wr.heap.size, 1, none⟩ (.int .u64 h2)).setCell ⟨wr.heap.size, 2, none⟩ (.int .u64 l2)) := Pair3S.store hX hP6 (by omega) (by omega) (by omega) _ _ _; clear hP6 hl6 hD hD2 hlr; (try clear hX x0 x1 x2 y0 y1 y2); revert h3; generalize (((w6.setCell ⟨wr.heap.size, 0, none⟩ (.bool false)).setCell ⟨wr.heap.size, 1, none⟩ (.int .u64 h2)).setCell ⟨wr.heap.size, 2, none⟩ (.int .u64 l2)) = wf; generalize wr.heap.size = X1; intro h3)
          | (have h3 : Pair3S w w.heap.size (w.heap.size + 1) (.bool false) (.bool false) 0 0 hh ll w6.heap.size (.bool false) (.int .u64 h2) (.int .u64 l2) (w6.alloc (.cells #[.bool false, .int .u64 h2, .int .u64 l2] 30)) := Pair3S.made hP6; clear hP6 hl6 hD hD2 hlr; (try clear hX x0 x1 x2 y0 y1 y2); revert h3; generalize (w6.alloc (.cells #[.bool false, .int .u64 h2, .int .u64 l2] 30)) = wf; generalize w6.heap.size = X1; intro h3)
        all_goals obtain ⟨x0, x1, x2, hP⟩ := h3
        all_goals have hQ := Lib.hid hP
        all_goals obtain ⟨a0, a1, a2, c0, c1, c2, fa, fc, hB⟩ := hP
        all_goals go_wp2_with fail
        all_goals go_roundw
        all_goals first
          | (simp [intOf]; omega)
          | exact ⟨k + 1, v2, h2, l2, by omega, by go_num, by omega, HS, HW, PairS.putB hQ.out (by simp) (by simp) (.bool false) h2 l2⟩
      · have HT := ten_no (v := v) (d := d) hv (by omega)
        rw [← HV.out.1, ← HV.out.2] at HT
        have HN : Hid (∀ z, ¬ IsW s.data.toList z) := Lib.hid (by
          by_cases hdg : isDig s[k]
          · exact notW_big (readTo_step hR hat hdg) (by unfold isDig at hdg; omega)
          · exact notW_byte hR hat hdg)
        rw [hd] at HT
        replace HT := Lib.hid HT
        clear hat hR hgo hd
        go_wp2_with fail
        have hD := PairS.drew hP
        have hD2 := PairS.drew (PairS.alloc hP (.cells #[.bool false, .int .u64 0, .int .u64 0] 30))
        have hlr := PairS.lt hP
        clear hP
        go_region_held3 (fun w' => w'.cell? ⟨w.heap.size, 0, none⟩ = some (.bool false) ∧ w'.cell? ⟨w.heap.size, 1, none⟩ = some (.int .u64 0) ∧ w'.cell? ⟨w.heap.size, 2, none⟩ = some (.int .u64 0) ∧ w'.cell? ⟨(w.heap.size + 1), 0, none⟩ = some (.bool false) ∧ w'.cell? ⟨(w.heap.size + 1), 1, none⟩ = some (.int .u64 hh) ∧ w'.cell? ⟨(w.heap.size + 1), 2, none⟩ = some (.int .u64 ll) ∧ (∀ k, w'.frozen? ⟨w.heap.size, k, none⟩ = false) ∧ (∀ k, w'.frozen? ⟨(w.heap.size + 1), k, none⟩ = false) ∧ Below w.heap.size w w') (first | with_reducible assumption | (with_reducible (refine PairS.alloc (p := .bool false) (q := .bool false) ?_ _ <;> assumption)) | with_reducible exact (Pair3S.laid (p := .bool false) (q := .bool false) (x := .bool false) (y := .int .u64 0) (z := .int .u64 0) (by assumption) (.bool false) (.int .u64 0) (.int .u64 0) 30).2.2.2 | (with_reducible (refine PairS.far (p := .bool false) (q := .bool false) ?_ _ ?_ ?_ ?_ _ _ _ <;> first | assumption | omega)))
          (first | (go_at_call 38; refine (specTenTimes false _ _ _ p0.1 p0.2 p1.1 p1.2 _).mono ?_; rintro e w6 ⟨rfl, hB⟩; have hP6 := PairS.still (keepsC_at w.heap.size (.bool false)) (keepsC_at (w.heap.size + 1) (.bool false)) (by with_reducible assumption) hB; have hl6 := PairS.lt hP6; (first | (have hX := box_kept hB) | (have hX := box_kept (below_of_drew hB)) | skip); clear hB; rw [HT.out]; (try (have x0 := cell_blk hX 0; have x1 := cell_blk hX 1; have x2 := cell_blk hX 2; have y0 := free_blk hX 0; have y1 := free_blk hX 1; have y2 := free_blk hX 2))))
        all_goals first
          | (have h3 : Pair3S w w.heap.size (w.heap.size + 1) (.bool false) (.bool false) 0 0 hh ll wr.heap.size (.bool false) (.int .u64 0) (.int .u64 0) (((w6.setCell ⟨wr.heap.size, 0, none⟩ (.bool false)).setCell ⟨wr.heap.size, 1, none⟩ (.int .u64 0)).setCell ⟨wr.heap.size, 2, none⟩ (.int .u64 0)) := Pair3S.store hX hP6 (by omega) (by omega) (by omega) _ _ _; clear hP6 hl6 hD hD2 hlr; (try clear hX x0 x1 x2 y0 y1 y2); revert h3; generalize (((w6.setCell ⟨wr.heap.size, 0, none⟩ (.bool false)).setCell ⟨wr.heap.size, 1, none⟩ (.int .u64 0)).setCell ⟨wr.heap.size, 2, none⟩ (.int .u64 0)) = wf; generalize wr.heap.size = X1; intro h3)
          | (have h3 : Pair3S w w.heap.size (w.heap.size + 1) (.bool false) (.bool false) 0 0 hh ll w6.heap.size (.bool false) (.int .u64 0) (.int .u64 0) (w6.alloc (.cells #[.bool false, .int .u64 0, .int .u64 0] 30)) := Pair3S.made hP6; clear hP6 hl6 hD hD2 hlr; (try clear hX x0 x1 x2 y0 y1 y2); revert h3; generalize (w6.alloc (.cells #[.bool false, .int .u64 0, .int .u64 0] 30)) = wf; generalize w6.heap.size = X1; intro h3)
        all_goals obtain ⟨x0, x1, x2, hP⟩ := h3
        all_goals obtain ⟨a0, a1, a2, c0, c1, c2, fa, fc, hB⟩ := hP
        all_goals go_wp2_with fail
        all_goals (try simp only [Exit.inBlock, Exit.then])
        all_goals refine bodyPost_ret (v := .tuple #[.agg #[.bool false, .int .u64 0, .int .u64 0], .bool false]) ?_ rfl ⟨(rdE_no HN.out).symm, ?_⟩
        all_goals first
          | (rw [results_cell_tmp rfl]; go_simp; done)
          | (repeat' (first | assumption | refine Below.setCell ?_ (by simp) _))
    · obtain rfl : k = s.size := by omega
      have HA : Hid (∀ z, IsW s.data.toList z → z = -(v : Int)) := Lib.hid (fun z hz => by
        have h1 := readToW_all hR hz
        rw [HF.out] at h1
        simpa using h1)
      have HTX : Hid (textV (negV false hh ll) hh ll = Lib.itoa (-(v : Int))) := Lib.hid (by rw [HV.out.1, HV.out.2]; exact textV_min v hv)
      have HWZ : Hid (wideC (-(v : Int)) = .agg #[.bool (negV false hh ll), .int .u64 hh, .int .u64 ll]) := Lib.hid (by rw [HV.out.1, HV.out.2]; exact wideC_min v hv)
      have HR : Hid (RoomW (-(v : Int))) := Lib.hid (by unfold RoomW; omega)
      clear hR
      have hQ := Lib.hid hP
      obtain ⟨a0, a1, a2, c0, c1, c2, fa, fc, hB⟩ := hP
      by_cases hnum : Lib.itoa (-(v : Int)) = s.data.toList
      · have HN : Hid (IsW s.data.toList (-(v : Int))) := Lib.hid ⟨HR.out, hnum⟩
        have hne := strEqW hnum
        clear hnum
        go_wp2_with fail
        refine (specNegWide false hh ll _).mono ?_
        rintro e w7 ⟨rfl, hB7⟩
        have hQ7 := Lib.hid (PairS.still (keepsC_at w.heap.size (.bool false)) (keepsC_at (w.heap.size + 1) (.bool false)) hQ.out hB7)
        clear a0 a1 a2 c0 c1 c2 fa fc hB
        obtain ⟨a0, a1, a2, c0, c1, c2, fa, fc, hB⟩ := hQ7.out
        clear hB7
        go_wp2_with fail
        refine (specWideText (negV false hh ll) hh ll p0.1 p1.1 p1.2 _).mono ?_
        rintro e w8 ⟨rfl, hB8⟩
        rw [HTX.out]
        have hQ8 := PairS.still (keepsC_at w.heap.size (.bool false)) (keepsC_at (w.heap.size + 1) (.bool (negV false hh ll))) (PairS.putB hQ7.out (by simp) (by simp) (.bool (negV false hh ll)) hh ll) hB8
        clear a0 a1 a2 c0 c1 c2 fa fc hB
        obtain ⟨a0, a1, a2, c0, c1, c2, fa, fc, hB⟩ := hQ8
        clear hB8
        go_wp2_with fail
        all_goals (try simp only [Exit.inBlock, Exit.then])
        all_goals refine bodyPost_ret (v := .tuple #[.agg #[.bool (negV false hh ll), .int .u64 hh, .int .u64 ll], .bool true]) ?_ rfl ⟨((rdE_yes HN.out).trans (by rw [HWZ.out])).symm, ?_⟩
        all_goals first
          | (rw [results_cell_tmp rfl]; go_simp; done)
          | (repeat' (first | assumption | refine Below.setCell ?_ (by simp) _))
      · have HN : Hid (∀ z, ¬ IsW s.data.toList z) := Lib.hid (fun z hz => hnum (by rw [← HA.out z hz]; exact hz.2))
        have hne := strNeW hnum
        clear hnum
        go_wp2_with fail
        refine (specNegWide false hh ll _).mono ?_
        rintro e w7 ⟨rfl, hB7⟩
        have hQ7 := Lib.hid (PairS.still (keepsC_at w.heap.size (.bool false)) (keepsC_at (w.heap.size + 1) (.bool false)) hQ.out hB7)
        clear a0 a1 a2 c0 c1 c2 fa fc hB
        obtain ⟨a0, a1, a2, c0, c1, c2, fa, fc, hB⟩ := hQ7.out
        clear hB7
        go_wp2_with fail
        refine (specWideText (negV false hh ll) hh ll p0.1 p1.1 p1.2 _).mono ?_
        rintro e w8 ⟨rfl, hB8⟩
        rw [HTX.out]
        have hQ8 := PairS.still (keepsC_at w.heap.size (.bool false)) (keepsC_at (w.heap.size + 1) (.bool (negV false hh ll))) (PairS.putB hQ7.out (by simp) (by simp) (.bool (negV false hh ll)) hh ll) hB8
        clear a0 a1 a2 c0 c1 c2 fa fc hB
        obtain ⟨a0, a1, a2, c0, c1, c2, fa, fc, hB⟩ := hQ8
        clear hB8
        go_wp2_with fail
        all_goals (try simp only [Exit.inBlock, Exit.then])
        all_goals refine bodyPost_ret (v := .tuple #[.agg #[.bool false, .int .u64 0, .int .u64 0], .bool false]) ?_ rfl ⟨(rdE_no HN.out).symm, ?_⟩
        all_goals first
          | (rw [results_cell_tmp rfl]; go_simp; done)
          | (repeat' (first | assumption | refine Below.setCell ?_ (by simp) _))
set_option maxRecDepth 100000 in
set_option maxHeartbeats 2000000 in
theorem specRead_pos (s : ByteArray) (w : World) (hl0 : 1 ≤ s.size) (hl1 : s.size ≤ 40) (hf : startOf s.data.toList = 0) (h45 : ((s[0].toNat : Int) == 45) = false) :
    Calls Try.prog 32 #[.string s] w fun e w' => e = rdE s.data.toList ∧ Below w.heap.size w w' := by
  have HF := Lib.hid hf
  clear hf
  have h00 : 0 < s.size := by omega
  have hq1 : decide ((s.size : Int) < 1) = false := by rw [decide_eq_false_iff_not]; omega
  have hq2 : decide ((40 : Int) < s.size) = false := by rw [decide_eq_false_iff_not]; omega
  go_enter Try.func32, Try.ntmps32
  go_wp2_with fail
  have hP0 : PairS w w.heap.size (w.heap.size + 1) (fun _ => .bool false) (fun _ => .bool false) 0 0 0 0 ((w.alloc (.cells #[.bool false, .int .u64 0, .int .u64 0] 30)).alloc (.cells #[.bool false, .int .u64 0, .int .u64 0] 30)) := PairS.start (w1 := (w.alloc (.cells #[.bool false, .int .u64 0, .int .u64 0] 30)).alloc (.cells #[.bool false, .int .u64 0, .int .u64 0] 30)) (Below.refl _ _)
  go_loopw [6] (fun i wr => ∃ (k v : Nat) (hh ll : Int), k ≤ s.size ∧ i = .int .i64 k ∧ v < 170141183460469231731687303715884105728 ∧ ReadTo s.data.toList k v ∧ Hid (hh = (v : Int) / 18446744073709551616 ∧ ll = (v : Int) % 18446744073709551616) ∧ PairS w w.heap.size (w.heap.size + 1) (fun _ => .bool false) (fun _ => .bool false) 0 0 hh ll wr) (fun i _ => s.size - (intOf i).toNat)
  case atStart =>
    have h := readTo_start s.data.toList
    rw [HF.out] at h
    exact ⟨0, 0, 0, 0, by omega, rfl, by omega, h, Lib.hid (by simp), hP0⟩
  case round =>
    clear hP0
    obtain ⟨k, v, hh, ll, hk, rfl, hv, hR, HV, hP⟩ := hrel
    have p0 : 0 ≤ hh ∧ hh < 18446744073709551616 := by have := HV.out; omega
    have p1 : 0 ≤ ll ∧ ll < 18446744073709551616 := by have := HV.out; omega
    by_cases hlt : k < s.size
    · have hat := at_byteW hlt
      have hu0 : (0 : Int) ≤ (s[k].toNat : Int) := by omega
      have hu1 : (s[k].toNat : Int) ≤ 255 := by have := UInt8.toNat_lt s[k]; omega
      have hw1 : IntKind.i64.wrap (s[k].toNat : Int) = (s[k].toNat : Int) := by rw [IntKind.wrap_i64]; omega
      have hw2 : IntKind.i64.wrap ((s[k].toNat : Int) - 48) = (s[k].toNat : Int) - 48 := by rw [IntKind.wrap_i64]; omega
      obtain ⟨d, hd⟩ : ∃ d : Int, d = (s[k].toNat : Int) - 48 := ⟨_, rfl⟩
      by_cases hgo : (0 ≤ d ∧ d ≤ 9) ∧ (v : Int) * 10 + d < 170141183460469231731687303715884105728
      · obtain ⟨v2, hv2⟩ : ∃ v2 : Nat, v2 = v * 10 + (s[k].toNat - 48) := ⟨_, rfl⟩
        have hb2 : v2 < 170141183460469231731687303715884105728 := by omega
        obtain ⟨h2, g0⟩ : ∃ x : Int, x = (v2 : Int) / 18446744073709551616 := ⟨_, rfl⟩
        obtain ⟨l2, g1⟩ : ∃ x : Int, x = (v2 : Int) % 18446744073709551616 := ⟨_, rfl⟩
        have HT := ten_yes2 (v2 := v2) hv hgo.1.1 hgo.1.2 (by omega) hb2
        rw [← HV.out.1, ← HV.out.2, ← g0, ← g1] at HT
        have HW := Lib.hid (And.intro g0 g1)
        have HS := readTo_step hR hat (by unfold isDig; omega)
        rw [← hv2] at HS
        rw [hd] at HT
        replace HT := Lib.hid HT
        clear hat hR hgo hd hv2 g0 g1
        go_wp2_with fail
        have hD := PairS.drew hP
        have hD2 := PairS.drew (PairS.alloc hP (.cells #[.bool false, .int .u64 0, .int .u64 0] 30))
        have hlr := PairS.lt hP
        clear hP
        go_region_held3 (fun w' => w'.cell? ⟨w.heap.size, 0, none⟩ = some (.bool false) ∧ w'.cell? ⟨w.heap.size, 1, none⟩ = some (.int .u64 0) ∧ w'.cell? ⟨w.heap.size, 2, none⟩ = some (.int .u64 0) ∧ w'.cell? ⟨(w.heap.size + 1), 0, none⟩ = some (.bool false) ∧ w'.cell? ⟨(w.heap.size + 1), 1, none⟩ = some (.int .u64 hh) ∧ w'.cell? ⟨(w.heap.size + 1), 2, none⟩ = some (.int .u64 ll) ∧ (∀ k, w'.frozen? ⟨w.heap.size, k, none⟩ = false) ∧ (∀ k, w'.frozen? ⟨(w.heap.size + 1), k, none⟩ = false) ∧ Below w.heap.size w w') (first | with_reducible assumption | (with_reducible (refine PairS.alloc (p := .bool false) (q := .bool false) ?_ _ <;> assumption)) | with_reducible exact (Pair3S.laid (p := .bool false) (q := .bool false) (x := .bool false) (y := .int .u64 h2) (z := .int .u64 l2) (by assumption) (.bool false) (.int .u64 0) (.int .u64 0) 30).2.2.2 | (with_reducible (refine PairS.far (p := .bool false) (q := .bool false) ?_ _ ?_ ?_ ?_ _ _ _ <;> first | assumption | omega)))
          (first | (go_at_call 38; refine (specTenTimes false _ _ _ p0.1 p0.2 p1.1 p1.2 _).mono ?_; rintro e w6 ⟨rfl, hB⟩; have hP6 := PairS.still (keepsC_at w.heap.size (.bool false)) (keepsC_at (w.heap.size + 1) (.bool false)) (by with_reducible assumption) hB; have hl6 := PairS.lt hP6; (first | (have hX := box_kept hB) | (have hX := box_kept (below_of_drew hB)) | skip); clear hB; rw [HT.out]; (try (have x0 := cell_blk hX 0; have x1 := cell_blk hX 1; have x2 := cell_blk hX 2; have y0 := free_blk hX 0; have y1 := free_blk hX 1; have y2 := free_blk hX 2))))
        all_goals first
          | (have h3 : Pair3S w w.heap.size (w.heap.size + 1) (.bool false) (.bool false) 0 0 hh ll wr.heap.size (.bool false) (.int .u64 h2) (.int .u64 l2) (((w6.setCell ⟨wr.heap.size, 0, none⟩ (.bool false)).setCell ⟨wr.heap.size, 1, none⟩ (.int .u64 h2)).setCell ⟨wr.heap.size, 2, none⟩ (.int .u64 l2)) := Pair3S.store hX hP6 (by omega) (by omega) (by omega) _ _ _; clear hP6 hl6 hD hD2 hlr; (try clear hX x0 x1 x2 y0 y1 y2); revert h3; generalize (((w6.setCell ⟨wr.heap.size, 0, none⟩ (.bool false)).setCell ⟨wr.heap.size, 1, none⟩ (.int .u64 h2)).setCell ⟨wr.heap.size, 2, none⟩ (.int .u64 l2)) = wf; generalize wr.heap.size = X1; intro h3)
          | (have h3 : Pair3S w w.heap.size (w.heap.size + 1) (.bool false) (.bool false) 0 0 hh ll w6.heap.size (.bool false) (.int .u64 h2) (.int .u64 l2) (w6.alloc (.cells #[.bool false, .int .u64 h2, .int .u64 l2] 30)) := Pair3S.made hP6; clear hP6 hl6 hD hD2 hlr; (try clear hX x0 x1 x2 y0 y1 y2); revert h3; generalize (w6.alloc (.cells #[.bool false, .int .u64 h2, .int .u64 l2] 30)) = wf; generalize w6.heap.size = X1; intro h3)
        all_goals obtain ⟨x0, x1, x2, hP⟩ := h3
        all_goals have hQ := Lib.hid hP
        all_goals obtain ⟨a0, a1, a2, c0, c1, c2, fa, fc, hB⟩ := hP
        all_goals go_wp2_with fail
        all_goals go_roundw
        all_goals first
          | (simp [intOf]; omega)
          | exact ⟨k + 1, v2, h2, l2, by omega, by go_num, by omega, HS, HW, PairS.putB hQ.out (by simp) (by simp) (.bool false) h2 l2⟩
      · have HT := ten_no (v := v) (d := d) hv (by omega)
        rw [← HV.out.1, ← HV.out.2] at HT
        have HN : Hid (∀ z, ¬ IsW s.data.toList z) := Lib.hid (by
          by_cases hdg : isDig s[k]
          · exact notW_big (readTo_step hR hat hdg) (by unfold isDig at hdg; omega)
          · exact notW_byte hR hat hdg)
        rw [hd] at HT
        replace HT := Lib.hid HT
        clear hat hR hgo hd
        go_wp2_with fail
        have hD := PairS.drew hP
        have hD2 := PairS.drew (PairS.alloc hP (.cells #[.bool false, .int .u64 0, .int .u64 0] 30))
        have hlr := PairS.lt hP
        clear hP
        go_region_held3 (fun w' => w'.cell? ⟨w.heap.size, 0, none⟩ = some (.bool false) ∧ w'.cell? ⟨w.heap.size, 1, none⟩ = some (.int .u64 0) ∧ w'.cell? ⟨w.heap.size, 2, none⟩ = some (.int .u64 0) ∧ w'.cell? ⟨(w.heap.size + 1), 0, none⟩ = some (.bool false) ∧ w'.cell? ⟨(w.heap.size + 1), 1, none⟩ = some (.int .u64 hh) ∧ w'.cell? ⟨(w.heap.size + 1), 2, none⟩ = some (.int .u64 ll) ∧ (∀ k, w'.frozen? ⟨w.heap.size, k, none⟩ = false) ∧ (∀ k, w'.frozen? ⟨(w.heap.size + 1), k, none⟩ = false) ∧ Below w.heap.size w w') (first | with_reducible assumption | (with_reducible (refine PairS.alloc (p := .bool false) (q := .bool false) ?_ _ <;> assumption)) | with_reducible exact (Pair3S.laid (p := .bool false) (q := .bool false) (x := .bool false) (y := .int .u64 0) (z := .int .u64 0) (by assumption) (.bool false) (.int .u64 0) (.int .u64 0) 30).2.2.2 | (with_reducible (refine PairS.far (p := .bool false) (q := .bool false) ?_ _ ?_ ?_ ?_ _ _ _ <;> first | assumption | omega)))
          (first | (go_at_call 38; refine (specTenTimes false _ _ _ p0.1 p0.2 p1.1 p1.2 _).mono ?_; rintro e w6 ⟨rfl, hB⟩; have hP6 := PairS.still (keepsC_at w.heap.size (.bool false)) (keepsC_at (w.heap.size + 1) (.bool false)) (by with_reducible assumption) hB; have hl6 := PairS.lt hP6; (first | (have hX := box_kept hB) | (have hX := box_kept (below_of_drew hB)) | skip); clear hB; rw [HT.out]; (try (have x0 := cell_blk hX 0; have x1 := cell_blk hX 1; have x2 := cell_blk hX 2; have y0 := free_blk hX 0; have y1 := free_blk hX 1; have y2 := free_blk hX 2))))
        all_goals first
          | (have h3 : Pair3S w w.heap.size (w.heap.size + 1) (.bool false) (.bool false) 0 0 hh ll wr.heap.size (.bool false) (.int .u64 0) (.int .u64 0) (((w6.setCell ⟨wr.heap.size, 0, none⟩ (.bool false)).setCell ⟨wr.heap.size, 1, none⟩ (.int .u64 0)).setCell ⟨wr.heap.size, 2, none⟩ (.int .u64 0)) := Pair3S.store hX hP6 (by omega) (by omega) (by omega) _ _ _; clear hP6 hl6 hD hD2 hlr; (try clear hX x0 x1 x2 y0 y1 y2); revert h3; generalize (((w6.setCell ⟨wr.heap.size, 0, none⟩ (.bool false)).setCell ⟨wr.heap.size, 1, none⟩ (.int .u64 0)).setCell ⟨wr.heap.size, 2, none⟩ (.int .u64 0)) = wf; generalize wr.heap.size = X1; intro h3)
          | (have h3 : Pair3S w w.heap.size (w.heap.size + 1) (.bool false) (.bool false) 0 0 hh ll w6.heap.size (.bool false) (.int .u64 0) (.int .u64 0) (w6.alloc (.cells #[.bool false, .int .u64 0, .int .u64 0] 30)) := Pair3S.made hP6; clear hP6 hl6 hD hD2 hlr; (try clear hX x0 x1 x2 y0 y1 y2); revert h3; generalize (w6.alloc (.cells #[.bool false, .int .u64 0, .int .u64 0] 30)) = wf; generalize w6.heap.size = X1; intro h3)
        all_goals obtain ⟨x0, x1, x2, hP⟩ := h3
        all_goals obtain ⟨a0, a1, a2, c0, c1, c2, fa, fc, hB⟩ := hP
        all_goals go_wp2_with fail
        all_goals (try simp only [Exit.inBlock, Exit.then])
        all_goals refine bodyPost_ret (v := .tuple #[.agg #[.bool false, .int .u64 0, .int .u64 0], .bool false]) ?_ rfl ⟨(rdE_no HN.out).symm, ?_⟩
        all_goals first
          | (rw [results_cell_tmp rfl]; go_simp; done)
          | (repeat' (first | assumption | refine Below.setCell ?_ (by simp) _))
    · obtain rfl : k = s.size := by omega
      have HA : Hid (∀ z, IsW s.data.toList z → z = (v : Int)) := Lib.hid (fun z hz => by
        have h1 := readToW_all hR hz
        rw [HF.out] at h1
        simpa using h1)
      have HTX : Hid (textV false hh ll = Lib.itoa ((v : Int))) := Lib.hid (by rw [HV.out.1, HV.out.2]; exact textV_nat v hv)
      have HWZ : Hid (wideC ((v : Int)) = .agg #[.bool false, .int .u64 hh, .int .u64 ll]) := Lib.hid (by rw [HV.out.1, HV.out.2]; exact wideC_nat v hv)
      have HR : Hid (RoomW ((v : Int))) := Lib.hid (by unfold RoomW; omega)
      clear hR
      have hQ := Lib.hid hP
      obtain ⟨a0, a1, a2, c0, c1, c2, fa, fc, hB⟩ := hP
      by_cases hnum : Lib.itoa ((v : Int)) = s.data.toList
      · have HN : Hid (IsW s.data.toList ((v : Int))) := Lib.hid ⟨HR.out, hnum⟩
        have hne := strEqW hnum
        clear hnum
        go_wp2_with fail
        refine (specWideText false hh ll p0.1 p1.1 p1.2 _).mono ?_
        rintro e w8 ⟨rfl, hB8⟩
        rw [HTX.out]
        have hQ8 := PairS.still (keepsC_at w.heap.size (.bool false)) (keepsC_at (w.heap.size + 1) (.bool false)) hQ.out hB8
        clear a0 a1 a2 c0 c1 c2 fa fc hB
        obtain ⟨a0, a1, a2, c0, c1, c2, fa, fc, hB⟩ := hQ8
        clear hB8
        go_wp2_with fail
        all_goals (try simp only [Exit.inBlock, Exit.then])
        all_goals refine bodyPost_ret (v := .tuple #[.agg #[.bool false, .int .u64 hh, .int .u64 ll], .bool true]) ?_ rfl ⟨((rdE_yes HN.out).trans (by rw [HWZ.out])).symm, ?_⟩
        all_goals first
          | (rw [results_cell_tmp rfl]; go_simp; done)
          | (repeat' (first | assumption | refine Below.setCell ?_ (by simp) _))
      · have HN : Hid (∀ z, ¬ IsW s.data.toList z) := Lib.hid (fun z hz => hnum (by rw [← HA.out z hz]; exact hz.2))
        have hne := strNeW hnum
        clear hnum
        go_wp2_with fail
        refine (specWideText false hh ll p0.1 p1.1 p1.2 _).mono ?_
        rintro e w8 ⟨rfl, hB8⟩
        rw [HTX.out]
        have hQ8 := PairS.still (keepsC_at w.heap.size (.bool false)) (keepsC_at (w.heap.size + 1) (.bool false)) hQ.out hB8
        clear a0 a1 a2 c0 c1 c2 fa fc hB
        obtain ⟨a0, a1, a2, c0, c1, c2, fa, fc, hB⟩ := hQ8
        clear hB8
        go_wp2_with fail
        all_goals (try simp only [Exit.inBlock, Exit.then])
        all_goals refine bodyPost_ret (v := .tuple #[.agg #[.bool false, .int .u64 0, .int .u64 0], .bool false]) ?_ rfl ⟨(rdE_no HN.out).symm, ?_⟩
        all_goals first
          | (rw [results_cell_tmp rfl]; go_simp; done)
          | (repeat' (first | assumption | refine Below.setCell ?_ (by simp) _))
theorem startOf_posW {s : ByteArray} (h : 0 < s.size) : startOf s.data.toList = if (s[0].toNat) = 45 then 1 else 0 := by
  unfold startOf
  have e : s.data.toList.head? = some s[0] := by
    rw [List.head?_eq_getElem?, Array.getElem?_toList]
    exact Array.getElem?_eq_getElem h
  rw [e]
  simp
theorem isW_len {l : List UInt8} (h : l.length < 1 ∨ 40 < l.length) : ∀ z, ¬ IsW l z := fun z hz => by
  have := (isW_parts hz).2.2.2.2
  omega
set_option maxRecDepth 100000 in
theorem specRead_short (s : ByteArray) (w : World) (h : s.size < 1) :
    Calls Try.prog 32 #[.string s] w fun e w' => e = rdE s.data.toList ∧ Below w.heap.size w w' := by
  have HN : Hid (∀ z, ¬ IsW s.data.toList z) := Lib.hid (isW_len (Or.inl (by simpa using h)))
  go_enter Try.func32, Try.ntmps32
  go_wp2_with fail
  all_goals (try simp only [Exit.inBlock, Exit.then])
  all_goals refine bodyPost_ret (v := .tuple #[.agg #[.bool false, .int .u64 0, .int .u64 0], .bool false]) ?_ rfl ⟨(rdE_no HN.out).symm, ?_⟩
  all_goals first
    | (rw [results_cell_tmp rfl]; go_simp; done)
    | (repeat' (first | exact Below.refl _ _ | refine Below.alloc ?_ (by simp) _ | refine Below.setCell ?_ (by simp) _))
set_option maxRecDepth 100000 in
theorem specRead_long (s : ByteArray) (w : World) (h : 40 < s.size) :
    Calls Try.prog 32 #[.string s] w fun e w' => e = rdE s.data.toList ∧ Below w.heap.size w w' := by
  have HN : Hid (∀ z, ¬ IsW s.data.toList z) := Lib.hid (isW_len (Or.inr (by simpa using h)))
  have hz : ¬ ((s.size : Int) < 1) := by omega
  go_enter Try.func32, Try.ntmps32
  go_wp2_with fail
  all_goals (try simp only [Exit.inBlock, Exit.then])
  all_goals refine bodyPost_ret (v := .tuple #[.agg #[.bool false, .int .u64 0, .int .u64 0], .bool false]) ?_ rfl ⟨(rdE_no HN.out).symm, ?_⟩
  all_goals first
    | (rw [results_cell_tmp rfl]; go_simp; done)
    | (repeat' (first | exact Below.refl _ _ | refine Below.alloc ?_ (by simp) _ | refine Below.setCell ?_ (by simp) _))
/-- READING A WIDE NUMBER, whatever the text. -/
theorem specReadWide (s : ByteArray) (w : World) :
    Calls Try.prog 32 #[.string s] w fun e w' => e = rdE s.data.toList ∧ Below w.heap.size w w' := by
  by_cases h1 : s.size < 1
  · exact specRead_short s w h1
  by_cases h2 : 40 < s.size
  · exact specRead_long s w h2
  have h0 : 0 < s.size := by omega
  have hs := startOf_posW h0
  by_cases h45 : s[0].toNat = 45
  · rw [if_pos h45] at hs
    exact specRead_neg s w (by omega) (by omega) hs (by rw [h45]; rfl)
  · rw [if_neg h45] at hs
    exact specRead_pos s w (by omega) (by omega) hs (by rw [beq_eq_false_iff_ne]; omega)
end Go.Proofs.Ytjmlpeapbealfaa
