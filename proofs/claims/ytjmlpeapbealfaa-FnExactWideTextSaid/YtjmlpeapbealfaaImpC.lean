
/-
  Wide numbers of the program: of an int, negated, the product of two ints, as an int.
-/
import Derived.Test.YtjmlpeapbealfaaImpB
namespace Go.Proofs.Ytjmlpeapbealfaa
open Go.RowKit

theorem sv_sgV {g : Bool} {x y : Int} (x0 : 0 ≤ x) (y0 : 0 ≤ y) : sv (sgV g x y) (x * 18446744073709551616 + y) = sv g (x * 18446744073709551616 + y) := by
  cases g
  · simp [sgV, sv]
  · by_cases h : x = 0 ∧ y = 0
    · obtain ⟨rfl, rfl⟩ := h
      simp [sgV, sv]
    · have : sgV true x y = true := by simp [sgV]; omega
      rw [this]
theorem sgV_pos {g : Bool} {x y : Int} (x0 : 0 ≤ x) (y0 : 0 ≤ y) (h : sgV g x y = true) : 0 < x ∨ 0 < y := by
  simp [sgV] at h
  omega
theorem mul_sv (a b : Int) : a * b = sv (!(decide (a < 0) == decide (b < 0))) ((a.natAbs : Int) * (b.natAbs : Int)) := by
  by_cases ha : a < 0 <;> by_cases hb : b < 0
  · rw [show (a.natAbs : Int) = -a by omega, show (b.natAbs : Int) = -b by omega]; simp [sv, ha, hb]; try grind
  · rw [show (a.natAbs : Int) = -a by omega, show (b.natAbs : Int) = b by omega]; simp [sv, ha, hb]; try grind
  · rw [show (a.natAbs : Int) = a by omega, show (b.natAbs : Int) = -b by omega]; simp [sv, ha, hb]; try grind
  · rw [show (a.natAbs : Int) = a by omega, show (b.natAbs : Int) = b by omega]; simp [sv, ha, hb]; try grind
theorem negV_ok {n : Bool} {h l : Int} (h0 : 0 ≤ h) (l0 : 0 ≤ l) (k : okV n h l = true) : negV n h l = sgV (!n) h l := by
  have k2 := (okV_yes k).2
  unfold negV sgV
  by_cases z : h = 0 ∧ l = 0
  · obtain ⟨rfl, rfl⟩ := z
    cases n
    · simp
    · exact absurd (k2 rfl) (by omega)
  · rw [if_pos ⟨k, z⟩]
    have : (decide (h = 0) && decide (l = 0)) = false := by simp; omega
    rw [this]; simp
theorem negV_no {n : Bool} {h l : Int} (k : ¬ okV n h l = true) : negV n h l = n := by unfold negV; rw [if_neg (fun j => k j.1)]

set_option maxRecDepth 100000 in
theorem implWideOf (x : Int) (x0 : -9223372036854775808 ≤ x) (x1 : x ≤ 9223372036854775807) (w : World) :
    Calls Try.prog 34 #[.int .i64 x] w fun e w' => e = .returned (.agg #[.bool (decide (x < 0)), .int .u64 0, .int .u64 x.natAbs]) ∧ Below w.heap.size w w' := by
  go_enter Try.func34, Try.ntmps34
  go_wp2_with fail
  refine (implMagnitude x x0 x1 _).mono ?_
  rintro e w1 ⟨rfl, hB⟩
  have hk := box_kept hB
  have HB := Lib.hid (box_below hB)
  have hca0 := cell_blk hk 0
  have hfa0 := free_blk hk 0
  have hca1 := cell_blk hk 1
  have hfa1 := free_blk hk 1
  have hca2 := cell_blk hk 2
  have hfa2 := free_blk hk 2
  clear hk hB
  go_wp2_with fail
  (try simp only [Exit.inBlock, Exit.then])
  refine bodyPost_ret (v := .agg #[.bool (decide (x < 0)), .int .u64 0, .int .u64 x.natAbs]) ?_ rfl ⟨rfl, ?_⟩
  · rw [results_cell rfl]
    go_simp
  · repeat' (first | exact HB.out | exact Below.refl _ _ | refine Below.alloc ?_ (by simp <;> omega) _ | refine Below.setCell ?_ (by simp <;> omega) _)
theorem implWideOfW (x : Int) (x0 : -9223372036854775808 ≤ x) (x1 : x ≤ 9223372036854775807) (w : World) :
    Calls Try.prog 34 #[.int .i64 x] w fun e w' => e = .returned (wideC x) ∧ Below w.heap.size w w' := by
  refine (implWideOf x x0 x1 w).mono fun e w' k => ⟨k.1.trans ?_, k.2⟩
  rw [wideC, show (x.natAbs : Int) / 18446744073709551616 = 0 by omega, show (x.natAbs : Int) % 18446744073709551616 = x.natAbs by omega]
set_option maxRecDepth 100000 in
theorem implNeg_ok (n0 : Bool) (h0 l0 : Int) (hp0 : 0 ≤ h0) (lp0 : 0 ≤ l0) (hk : okV n0 h0 l0 = true) (w : World) :
    Calls Try.prog 48 #[.agg #[.bool n0, .int .u64 h0, .int .u64 l0]] w fun e w' => e = .returned (.agg #[.bool (sgV (!n0) h0 l0), .int .u64 h0, .int .u64 l0]) ∧ Below w.heap.size w w' := by
  go_enter Try.func48, Try.ntmps48
  go_wp2_with fail
  refine (implWideOk n0 h0 l0 hp0 lp0 _).mono ?_
  rintro e w1 ⟨rfl, hB1⟩
  rw [hk]
  have hca0 : w1.cell? ⟨w.heap.size, 0, none⟩ = some (.bool n0) := by rw [hB1.cell (by simp <;> omega)]; go_simp
  have hfa0 : w1.frozen? ⟨w.heap.size, 0, none⟩ = false := by rw [hB1.frozen (by simp <;> omega)]; go_simp
  have hca1 : w1.cell? ⟨w.heap.size, 1, none⟩ = some (.int .u64 h0) := by rw [hB1.cell (by simp <;> omega)]; go_simp
  have hfa1 : w1.frozen? ⟨w.heap.size, 1, none⟩ = false := by rw [hB1.frozen (by simp <;> omega)]; go_simp
  have hca2 : w1.cell? ⟨w.heap.size, 2, none⟩ = some (.int .u64 l0) := by rw [hB1.cell (by simp <;> omega)]; go_simp
  have hfa2 : w1.frozen? ⟨w.heap.size, 2, none⟩ = false := by rw [hB1.frozen (by simp <;> omega)]; go_simp
  have hcr0 : w1.cell? ⟨w.heap.size + 1, 0, none⟩ = some (.bool false) := by rw [hB1.cell (by simp <;> omega)]; go_simp
  have hfr0 : w1.frozen? ⟨w.heap.size + 1, 0, none⟩ = false := by rw [hB1.frozen (by simp <;> omega)]; go_simp
  have hcr1 : w1.cell? ⟨w.heap.size + 1, 1, none⟩ = some (.int .u64 0) := by rw [hB1.cell (by simp <;> omega)]; go_simp
  have hfr1 : w1.frozen? ⟨w.heap.size + 1, 1, none⟩ = false := by rw [hB1.frozen (by simp <;> omega)]; go_simp
  have hcr2 : w1.cell? ⟨w.heap.size + 1, 2, none⟩ = some (.int .u64 0) := by rw [hB1.cell (by simp <;> omega)]; go_simp
  have hfr2 : w1.frozen? ⟨w.heap.size + 1, 2, none⟩ = false := by rw [hB1.frozen (by simp <;> omega)]; go_simp
  have HB1 : Hid (Below w.heap.size w w1) := (((Below.refl _ _).alloc (Nat.le_refl _) _).alloc (by simp) _).trans (hB1.mono (by simp <;> omega))
  have hs1 : w.heap.size + 1 + 1 ≤ w1.heap.size := by have := hB1.size; simpa using this
  clear hB1
  go_wp2_with fail
  refine (implWithSign _ n0 h0 l0 _).mono ?_
  rintro e w2 ⟨rfl, hB2⟩
  replace hcr0 : w2.cell? ⟨w.heap.size + 1, 0, none⟩ = some (.bool false) := (hB2.cell (by simp <;> omega)).trans hcr0
  replace hfr0 : w2.frozen? ⟨w.heap.size + 1, 0, none⟩ = false := (hB2.frozen (by simp <;> omega)).trans hfr0
  replace hcr1 : w2.cell? ⟨w.heap.size + 1, 1, none⟩ = some (.int .u64 0) := (hB2.cell (by simp <;> omega)).trans hcr1
  replace hfr1 : w2.frozen? ⟨w.heap.size + 1, 1, none⟩ = false := (hB2.frozen (by simp <;> omega)).trans hfr1
  replace hcr2 : w2.cell? ⟨w.heap.size + 1, 2, none⟩ = some (.int .u64 0) := (hB2.cell (by simp <;> omega)).trans hcr2
  replace hfr2 : w2.frozen? ⟨w.heap.size + 1, 2, none⟩ = false := (hB2.frozen (by simp <;> omega)).trans hfr2
  have HB2 : Hid (Below w.heap.size w w2) := Lib.hid (HB1.out.trans (hB2.mono (by omega)))
  have hs2 := Nat.le_trans hs1 hB2.size
  clear hB2 HB1 hs1
  have HB := HB2
  clear HB2
  go_wp2_with fail
  (try simp only [Exit.inBlock, Exit.then])
  refine bodyPost_ret (v := .agg #[.bool (sgV (!n0) h0 l0), .int .u64 h0, .int .u64 l0]) ?_ rfl ⟨rfl, ?_⟩
  · rw [results_cell rfl]
    go_simp
  · repeat' (first | exact HB.out | exact Below.refl _ _ | refine Below.alloc ?_ (by simp <;> omega) _ | refine Below.setCell ?_ (by simp <;> omega) _)
set_option maxRecDepth 100000 in
theorem implNeg_no (n0 : Bool) (h0 l0 : Int) (hp0 : 0 ≤ h0) (lp0 : 0 ≤ l0) (hk : okV n0 h0 l0 = false) (w : World) :
    Calls Try.prog 48 #[.agg #[.bool n0, .int .u64 h0, .int .u64 l0]] w fun e w' => e = .returned (.agg #[.bool (n0), .int .u64 h0, .int .u64 l0]) ∧ Below w.heap.size w w' := by
  go_enter Try.func48, Try.ntmps48
  go_wp2_with fail
  refine (implWideOk n0 h0 l0 hp0 lp0 _).mono ?_
  rintro e w1 ⟨rfl, hB1⟩
  rw [hk]
  have hca0 : w1.cell? ⟨w.heap.size, 0, none⟩ = some (.bool n0) := by rw [hB1.cell (by simp <;> omega)]; go_simp
  have hfa0 : w1.frozen? ⟨w.heap.size, 0, none⟩ = false := by rw [hB1.frozen (by simp <;> omega)]; go_simp
  have hca1 : w1.cell? ⟨w.heap.size, 1, none⟩ = some (.int .u64 h0) := by rw [hB1.cell (by simp <;> omega)]; go_simp
  have hfa1 : w1.frozen? ⟨w.heap.size, 1, none⟩ = false := by rw [hB1.frozen (by simp <;> omega)]; go_simp
  have hca2 : w1.cell? ⟨w.heap.size, 2, none⟩ = some (.int .u64 l0) := by rw [hB1.cell (by simp <;> omega)]; go_simp
  have hfa2 : w1.frozen? ⟨w.heap.size, 2, none⟩ = false := by rw [hB1.frozen (by simp <;> omega)]; go_simp
  have hcr0 : w1.cell? ⟨w.heap.size + 1, 0, none⟩ = some (.bool false) := by rw [hB1.cell (by simp <;> omega)]; go_simp
  have hfr0 : w1.frozen? ⟨w.heap.size + 1, 0, none⟩ = false := by rw [hB1.frozen (by simp <;> omega)]; go_simp
  have hcr1 : w1.cell? ⟨w.heap.size + 1, 1, none⟩ = some (.int .u64 0) := by rw [hB1.cell (by simp <;> omega)]; go_simp
  have hfr1 : w1.frozen? ⟨w.heap.size + 1, 1, none⟩ = false := by rw [hB1.frozen (by simp <;> omega)]; go_simp
  have hcr2 : w1.cell? ⟨w.heap.size + 1, 2, none⟩ = some (.int .u64 0) := by rw [hB1.cell (by simp <;> omega)]; go_simp
  have hfr2 : w1.frozen? ⟨w.heap.size + 1, 2, none⟩ = false := by rw [hB1.frozen (by simp <;> omega)]; go_simp
  have HB1 : Hid (Below w.heap.size w w1) := (((Below.refl _ _).alloc (Nat.le_refl _) _).alloc (by simp) _).trans (hB1.mono (by simp <;> omega))
  have hs1 : w.heap.size + 1 + 1 ≤ w1.heap.size := by have := hB1.size; simpa using this
  clear hB1
  go_wp2_with fail
  have HB := HB1
  clear HB1
  (try simp only [Exit.inBlock, Exit.then])
  refine bodyPost_ret (v := .agg #[.bool (n0), .int .u64 h0, .int .u64 l0]) ?_ rfl ⟨rfl, ?_⟩
  · rw [results_cell rfl]
    go_simp
  · repeat' (first | exact HB.out | exact Below.refl _ _ | refine Below.alloc ?_ (by simp <;> omega) _ | refine Below.setCell ?_ (by simp <;> omega) _)
theorem implNegWide (n0 : Bool) (h0 l0 : Int) (hp0 : 0 ≤ h0) (lp0 : 0 ≤ l0) (w : World) :
    Calls Try.prog 48 #[.agg #[.bool n0, .int .u64 h0, .int .u64 l0]] w fun e w' => e = .returned (.agg #[.bool (negV n0 h0 l0), .int .u64 h0, .int .u64 l0]) ∧ Below w.heap.size w w' := by
  by_cases hk : okV n0 h0 l0 = true
  · rw [negV_ok hp0 lp0 hk]; exact implNeg_ok n0 h0 l0 hp0 lp0 hk w
  · rw [negV_no hk]; exact implNeg_no n0 h0 l0 hp0 lp0 (by simpa using hk) w
theorem implWideOfS (W : World) (a : Nat) (p q r : Value) (x : Int) (x0 : -9223372036854775808 ≤ x) (x1 : x ≤ 9223372036854775807) (s : Bool) (hs : decide (x < 0) = s) (wr : World)
    (h : wr.cell? ⟨a, 0, none⟩ = some p ∧ wr.cell? ⟨a, 1, none⟩ = some q ∧ wr.cell? ⟨a, 2, none⟩ = some r ∧ Below W.heap.size W wr) :
    Calls Try.prog 34 #[.int .i64 x] wr fun e w' => e = .returned (.agg #[.bool s, .int .u64 0, .int .u64 x.natAbs]) ∧ w'.cell? ⟨a, 0, none⟩ = some p ∧ w'.cell? ⟨a, 1, none⟩ = some q ∧ w'.cell? ⟨a, 2, none⟩ = some r ∧ Below W.heap.size W w' :=
  (implWideOf x x0 x1 wr).mono fun e w' k => ⟨by rw [k.1, hs], below_cell h.1 k.2, below_cell h.2.1 k.2, below_cell h.2.2.1 k.2, bt2 h.2.2.2 k.2⟩
set_option maxRecDepth 100000 in
set_option maxHeartbeats 1000000 in
theorem implIntOf_p_eq (m : Int) (l0 : Int) (hm : IntKind.i64.wrap l0 = m) (hl : (m.natAbs : Int) = l0) (hs : decide (m < 0) = false) (m0 : -9223372036854775808 ≤ m) (m1 : m ≤ 9223372036854775807) (w : World) :
    Calls Try.prog 19 #[.agg #[.bool false, .int .u64 0, .int .u64 l0]] w fun e w' => e = .returned (.tuple #[.int .i64 m, .bool true]) ∧ Below w.heap.size w w' := by
  have HS := Lib.hid hs
  clear hs
  have HL := Lib.hid hl
  clear hl
  go_enter Try.func19, Try.ntmps19
  go_wp2_with fail
  have HB : Below w.heap.size w (w.alloc (.cells #[.bool false, .int .u64 0, .int .u64 l0] 30)) := (Below.refl _ _).alloc (Nat.le_refl _) _
  have g0 : (w.alloc (.cells #[.bool false, .int .u64 0, .int .u64 l0] 30)).cell? ⟨w.heap.size, 0, none⟩ = some (.bool false) := by go_simp
  have g1 : (w.alloc (.cells #[.bool false, .int .u64 0, .int .u64 l0] 30)).cell? ⟨w.heap.size, 1, none⟩ = some (.int .u64 0) := by go_simp
  have g2 : (w.alloc (.cells #[.bool false, .int .u64 0, .int .u64 l0] 30)).cell? ⟨w.heap.size, 2, none⟩ = some (.int .u64 l0) := by go_simp
  go_region_held3 (fun w' => w'.cell? ⟨w.heap.size, 0, none⟩ = some (.bool false) ∧ w'.cell? ⟨w.heap.size, 1, none⟩ = some (.int .u64 0) ∧ w'.cell? ⟨w.heap.size, 2, none⟩ = some (.int .u64 l0) ∧ Below w.heap.size w w') (first | exact ⟨‹_›, ‹_›, ‹_›, ‹_›⟩ | exact ⟨g0, g1, g2, HB.drew⟩ | go_keep)
    (first | (go_at_call 34; refine (implWideOfS w w.heap.size (.bool false) (.int .u64 0) (.int .u64 l0) m m0 m1 _ HS.out _ ?_).mono ?_; (first | exact ⟨g0, g1, g2, HB.drew⟩ | exact ⟨‹_›, ‹_›, ‹_›, ‹_›⟩ | assumption); rintro e w5 ⟨rfl, hk0, hk1, hk2, hk3⟩; rw [HL.out]))
  go_wp2_with fail
  all_goals (go_ret2; exact ⟨rfl, by assumption⟩)
set_option maxRecDepth 100000 in
set_option maxHeartbeats 1000000 in
theorem implIntOf_p_h (m h0 : Int) (l0 : Int) (hm : IntKind.i64.wrap l0 = m) (_hh : ¬ h0 = 0) (hh2 : ¬ (0 : Int) = h0)  (hs : decide (m < 0) = false) (m0 : -9223372036854775808 ≤ m) (m1 : m ≤ 9223372036854775807) (w : World) :
    Calls Try.prog 19 #[.agg #[.bool false, .int .u64 h0, .int .u64 l0]] w fun e w' => e = .returned (.tuple #[.int .i64 0, .bool false]) ∧ Below w.heap.size w w' := by
  have HS := Lib.hid hs
  clear hs
  go_enter Try.func19, Try.ntmps19
  go_wp2_with fail
  have HB : Below w.heap.size w (w.alloc (.cells #[.bool false, .int .u64 h0, .int .u64 l0] 30)) := (Below.refl _ _).alloc (Nat.le_refl _) _
  have g0 : (w.alloc (.cells #[.bool false, .int .u64 h0, .int .u64 l0] 30)).cell? ⟨w.heap.size, 0, none⟩ = some (.bool false) := by go_simp
  have g1 : (w.alloc (.cells #[.bool false, .int .u64 h0, .int .u64 l0] 30)).cell? ⟨w.heap.size, 1, none⟩ = some (.int .u64 h0) := by go_simp
  have g2 : (w.alloc (.cells #[.bool false, .int .u64 h0, .int .u64 l0] 30)).cell? ⟨w.heap.size, 2, none⟩ = some (.int .u64 l0) := by go_simp
  go_region_held3 (fun w' => w'.cell? ⟨w.heap.size, 0, none⟩ = some (.bool false) ∧ w'.cell? ⟨w.heap.size, 1, none⟩ = some (.int .u64 h0) ∧ w'.cell? ⟨w.heap.size, 2, none⟩ = some (.int .u64 l0) ∧ Below w.heap.size w w') (first | exact ⟨‹_›, ‹_›, ‹_›, ‹_›⟩ | exact ⟨g0, g1, g2, HB.drew⟩ | go_keep)
    (first | (go_at_call 34; refine (implWideOfS w w.heap.size (.bool false) (.int .u64 h0) (.int .u64 l0) m m0 m1 _ HS.out _ ?_).mono ?_; (first | exact ⟨g0, g1, g2, HB.drew⟩ | exact ⟨‹_›, ‹_›, ‹_›, ‹_›⟩ | assumption); rintro e w5 ⟨rfl, hk0, hk1, hk2, hk3⟩))
  go_wp2_with fail
  all_goals (go_ret2; exact ⟨rfl, by assumption⟩)
set_option maxRecDepth 100000 in
set_option maxHeartbeats 1000000 in
theorem implIntOf_p_s (m h0 : Int) (l0 : Int) (hm : IntKind.i64.wrap l0 = m)  (hs : decide (m < 0) = true) (m0 : -9223372036854775808 ≤ m) (m1 : m ≤ 9223372036854775807) (w : World) :
    Calls Try.prog 19 #[.agg #[.bool false, .int .u64 h0, .int .u64 l0]] w fun e w' => e = .returned (.tuple #[.int .i64 0, .bool false]) ∧ Below w.heap.size w w' := by
  have HS := Lib.hid hs
  clear hs
  go_enter Try.func19, Try.ntmps19
  go_wp2_with fail
  have HB : Below w.heap.size w (w.alloc (.cells #[.bool false, .int .u64 h0, .int .u64 l0] 30)) := (Below.refl _ _).alloc (Nat.le_refl _) _
  have g0 : (w.alloc (.cells #[.bool false, .int .u64 h0, .int .u64 l0] 30)).cell? ⟨w.heap.size, 0, none⟩ = some (.bool false) := by go_simp
  have g1 : (w.alloc (.cells #[.bool false, .int .u64 h0, .int .u64 l0] 30)).cell? ⟨w.heap.size, 1, none⟩ = some (.int .u64 h0) := by go_simp
  have g2 : (w.alloc (.cells #[.bool false, .int .u64 h0, .int .u64 l0] 30)).cell? ⟨w.heap.size, 2, none⟩ = some (.int .u64 l0) := by go_simp
  go_region_held3 (fun w' => w'.cell? ⟨w.heap.size, 0, none⟩ = some (.bool false) ∧ w'.cell? ⟨w.heap.size, 1, none⟩ = some (.int .u64 h0) ∧ w'.cell? ⟨w.heap.size, 2, none⟩ = some (.int .u64 l0) ∧ Below w.heap.size w w') (first | exact ⟨‹_›, ‹_›, ‹_›, ‹_›⟩ | exact ⟨g0, g1, g2, HB.drew⟩ | go_keep)
    (first | (go_at_call 34; refine (implWideOfS w w.heap.size (.bool false) (.int .u64 h0) (.int .u64 l0) m m0 m1 _ HS.out _ ?_).mono ?_; (first | exact ⟨g0, g1, g2, HB.drew⟩ | exact ⟨‹_›, ‹_›, ‹_›, ‹_›⟩ | assumption); rintro e w5 ⟨rfl, hk0, hk1, hk2, hk3⟩))
  go_wp2_with fail
  all_goals (go_ret2; exact ⟨rfl, by assumption⟩)
set_option maxRecDepth 100000 in
set_option maxHeartbeats 1000000 in
theorem implIntOf_n_eq (m j : Int) (l0 : Int) (hj : IntKind.i64.wrap l0 = j) (hm : IntKind.i64.wrap (-j) = m) (hl : (m.natAbs : Int) = l0) (hs : decide (m < 0) = true) (m0 : -9223372036854775808 ≤ m) (m1 : m ≤ 9223372036854775807) (w : World) :
    Calls Try.prog 19 #[.agg #[.bool true, .int .u64 0, .int .u64 l0]] w fun e w' => e = .returned (.tuple #[.int .i64 m, .bool true]) ∧ Below w.heap.size w w' := by
  have HS := Lib.hid hs
  clear hs
  have HL := Lib.hid hl
  clear hl
  go_enter Try.func19, Try.ntmps19
  go_wp2_with fail
  have HB : Below w.heap.size w (w.alloc (.cells #[.bool true, .int .u64 0, .int .u64 l0] 30)) := (Below.refl _ _).alloc (Nat.le_refl _) _
  have g0 : (w.alloc (.cells #[.bool true, .int .u64 0, .int .u64 l0] 30)).cell? ⟨w.heap.size, 0, none⟩ = some (.bool true) := by go_simp
  have g1 : (w.alloc (.cells #[.bool true, .int .u64 0, .int .u64 l0] 30)).cell? ⟨w.heap.size, 1, none⟩ = some (.int .u64 0) := by go_simp
  have g2 : (w.alloc (.cells #[.bool true, .int .u64 0, .int .u64 l0] 30)).cell? ⟨w.heap.size, 2, none⟩ = some (.int .u64 l0) := by go_simp
  go_region_held3 (fun w' => w'.cell? ⟨w.heap.size, 0, none⟩ = some (.bool true) ∧ w'.cell? ⟨w.heap.size, 1, none⟩ = some (.int .u64 0) ∧ w'.cell? ⟨w.heap.size, 2, none⟩ = some (.int .u64 l0) ∧ Below w.heap.size w w') (first | exact ⟨‹_›, ‹_›, ‹_›, ‹_›⟩ | exact ⟨g0, g1, g2, HB.drew⟩ | go_keep)
    (first | (go_at_call 34; refine (implWideOfS w w.heap.size (.bool true) (.int .u64 0) (.int .u64 l0) m m0 m1 _ HS.out _ ?_).mono ?_; (first | exact ⟨g0, g1, g2, HB.drew⟩ | exact ⟨‹_›, ‹_›, ‹_›, ‹_›⟩ | assumption); rintro e w5 ⟨rfl, hk0, hk1, hk2, hk3⟩; rw [HL.out]))
  go_wp2_with fail
  all_goals (go_ret2; exact ⟨rfl, by assumption⟩)
set_option maxRecDepth 100000 in
set_option maxHeartbeats 1000000 in
theorem implIntOf_n_h (m j h0 : Int) (l0 : Int) (hj : IntKind.i64.wrap l0 = j) (hm : IntKind.i64.wrap (-j) = m) (_hh : ¬ h0 = 0) (hh2 : ¬ (0 : Int) = h0)  (hs : decide (m < 0) = true) (m0 : -9223372036854775808 ≤ m) (m1 : m ≤ 9223372036854775807) (w : World) :
    Calls Try.prog 19 #[.agg #[.bool true, .int .u64 h0, .int .u64 l0]] w fun e w' => e = .returned (.tuple #[.int .i64 0, .bool false]) ∧ Below w.heap.size w w' := by
  have HS := Lib.hid hs
  clear hs
  go_enter Try.func19, Try.ntmps19
  go_wp2_with fail
  have HB : Below w.heap.size w (w.alloc (.cells #[.bool true, .int .u64 h0, .int .u64 l0] 30)) := (Below.refl _ _).alloc (Nat.le_refl _) _
  have g0 : (w.alloc (.cells #[.bool true, .int .u64 h0, .int .u64 l0] 30)).cell? ⟨w.heap.size, 0, none⟩ = some (.bool true) := by go_simp
  have g1 : (w.alloc (.cells #[.bool true, .int .u64 h0, .int .u64 l0] 30)).cell? ⟨w.heap.size, 1, none⟩ = some (.int .u64 h0) := by go_simp
  have g2 : (w.alloc (.cells #[.bool true, .int .u64 h0, .int .u64 l0] 30)).cell? ⟨w.heap.size, 2, none⟩ = some (.int .u64 l0) := by go_simp
  go_region_held3 (fun w' => w'.cell? ⟨w.heap.size, 0, none⟩ = some (.bool true) ∧ w'.cell? ⟨w.heap.size, 1, none⟩ = some (.int .u64 h0) ∧ w'.cell? ⟨w.heap.size, 2, none⟩ = some (.int .u64 l0) ∧ Below w.heap.size w w') (first | exact ⟨‹_›, ‹_›, ‹_›, ‹_›⟩ | exact ⟨g0, g1, g2, HB.drew⟩ | go_keep)
    (first | (go_at_call 34; refine (implWideOfS w w.heap.size (.bool true) (.int .u64 h0) (.int .u64 l0) m m0 m1 _ HS.out _ ?_).mono ?_; (first | exact ⟨g0, g1, g2, HB.drew⟩ | exact ⟨‹_›, ‹_›, ‹_›, ‹_›⟩ | assumption); rintro e w5 ⟨rfl, hk0, hk1, hk2, hk3⟩))
  go_wp2_with fail
  all_goals (go_ret2; exact ⟨rfl, by assumption⟩)
set_option maxRecDepth 100000 in
set_option maxHeartbeats 1000000 in
theorem implIntOf_n_s (m j h0 : Int) (l0 : Int) (hj : IntKind.i64.wrap l0 = j) (hm : IntKind.i64.wrap (-j) = m)  (hs : decide (m < 0) = false) (m0 : -9223372036854775808 ≤ m) (m1 : m ≤ 9223372036854775807) (w : World) :
    Calls Try.prog 19 #[.agg #[.bool true, .int .u64 h0, .int .u64 l0]] w fun e w' => e = .returned (.tuple #[.int .i64 0, .bool false]) ∧ Below w.heap.size w w' := by
  have HS := Lib.hid hs
  clear hs
  go_enter Try.func19, Try.ntmps19
  go_wp2_with fail
  have HB : Below w.heap.size w (w.alloc (.cells #[.bool true, .int .u64 h0, .int .u64 l0] 30)) := (Below.refl _ _).alloc (Nat.le_refl _) _
  have g0 : (w.alloc (.cells #[.bool true, .int .u64 h0, .int .u64 l0] 30)).cell? ⟨w.heap.size, 0, none⟩ = some (.bool true) := by go_simp
  have g1 : (w.alloc (.cells #[.bool true, .int .u64 h0, .int .u64 l0] 30)).cell? ⟨w.heap.size, 1, none⟩ = some (.int .u64 h0) := by go_simp
  have g2 : (w.alloc (.cells #[.bool true, .int .u64 h0, .int .u64 l0] 30)).cell? ⟨w.heap.size, 2, none⟩ = some (.int .u64 l0) := by go_simp
  go_region_held3 (fun w' => w'.cell? ⟨w.heap.size, 0, none⟩ = some (.bool true) ∧ w'.cell? ⟨w.heap.size, 1, none⟩ = some (.int .u64 h0) ∧ w'.cell? ⟨w.heap.size, 2, none⟩ = some (.int .u64 l0) ∧ Below w.heap.size w w') (first | exact ⟨‹_›, ‹_›, ‹_›, ‹_›⟩ | exact ⟨g0, g1, g2, HB.drew⟩ | go_keep)
    (first | (go_at_call 34; refine (implWideOfS w w.heap.size (.bool true) (.int .u64 h0) (.int .u64 l0) m m0 m1 _ HS.out _ ?_).mono ?_; (first | exact ⟨g0, g1, g2, HB.drew⟩ | exact ⟨‹_›, ‹_›, ‹_›, ‹_›⟩ | assumption); rintro e w5 ⟨rfl, hk0, hk1, hk2, hk3⟩))
  go_wp2_with fail
  all_goals (go_ret2; exact ⟨rfl, by assumption⟩)
theorem implIntOf (n0 : Bool) (h0 l0 : Int) (hp0 : 0 ≤ h0) (lp0 : 0 ≤ l0) (lq0 : l0 < 18446744073709551616) (w : World) :
    Calls Try.prog 19 #[.agg #[.bool n0, .int .u64 h0, .int .u64 l0]] w fun e w' => e = intOfE n0 h0 l0 ∧ Below w.heap.size w w' := by
  by_cases hb : l0 < 9223372036854775808
  · have hj : IntKind.i64.wrap l0 = l0 := by rw [IntKind.wrap_i64]; omega
    cases n0
    · by_cases hh : h0 = 0
      · subst hh
        exact (implIntOf_p_eq l0 l0 hj (by omega) (by simp; omega) (by omega) (by omega) w).mono fun e w' k => ⟨k.1.trans (intOf_yes (by simp; omega) (by simp)), k.2⟩
      · exact (implIntOf_p_h l0 h0 l0 hj hh (by omega) (by simp; omega) (by omega) (by omega) w).mono fun e w' k => ⟨k.1.trans (intOf_no (by omega)), k.2⟩
    · have hm : IntKind.i64.wrap (-l0) = -l0 := by rw [IntKind.wrap_i64]; omega
      by_cases hl : l0 = 0
      · exact (implIntOf_n_s (-l0) l0 h0 l0 hj hm (by simp; omega) (by omega) (by omega) w).mono fun e w' k => ⟨k.1.trans (intOf_no (by simp [hl])), k.2⟩
      · by_cases hh : h0 = 0
        · subst hh
          exact (implIntOf_n_eq (-l0) l0 l0 hj hm (by omega) (by simp; omega) (by omega) (by omega) w).mono fun e w' k => ⟨k.1.trans (intOf_yes (by simp; omega) (by simp)), k.2⟩
        · exact (implIntOf_n_h (-l0) l0 h0 l0 hj hm hh (by omega) (by simp; omega) (by omega) (by omega) w).mono fun e w' k => ⟨k.1.trans (intOf_no (by omega)), k.2⟩
  · have hj : IntKind.i64.wrap l0 = l0 - 18446744073709551616 := by rw [IntKind.wrap_i64]; omega
    cases n0
    · exact (implIntOf_p_s (l0 - 18446744073709551616) h0 l0 hj (by simp; omega) (by omega) (by omega) w).mono fun e w' k => ⟨k.1.trans (intOf_no (by simp; omega)), k.2⟩
    · by_cases he : l0 = 9223372036854775808
      · have hm : IntKind.i64.wrap (-(l0 - 18446744073709551616)) = -l0 := by rw [IntKind.wrap_i64]; omega
        by_cases hh : h0 = 0
        · subst hh
          exact (implIntOf_n_eq (-l0) (l0 - 18446744073709551616) l0 hj hm (by omega) (by simp; omega) (by omega) (by omega) w).mono fun e w' k => ⟨k.1.trans (intOf_yes (by simp; omega) (by simp)), k.2⟩
        · exact (implIntOf_n_h (-l0) (l0 - 18446744073709551616) h0 l0 hj hm hh (by omega) (by simp; omega) (by omega) (by omega) w).mono fun e w' k => ⟨k.1.trans (intOf_no (by omega)), k.2⟩
      · have hm : IntKind.i64.wrap (-(l0 - 18446744073709551616)) = 18446744073709551616 - l0 := by rw [IntKind.wrap_i64]; omega
        exact (implIntOf_n_s (18446744073709551616 - l0) (l0 - 18446744073709551616) h0 l0 hj hm (by simp; omega) (by omega) (by omega) w).mono fun e w' k => ⟨k.1.trans (intOf_no (by omega)), k.2⟩
end Go.Proofs.Ytjmlpeapbealfaa
