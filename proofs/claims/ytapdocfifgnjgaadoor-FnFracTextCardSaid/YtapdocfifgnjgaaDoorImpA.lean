
/-
  Wide numbers of the program, the small functions: what they answer.
-/
import Derived.Test.YtapdocfifgnjgaaDoorWideK
import Derived.Shelf.Spec.BitsCarry
namespace Go.Proofs.YtapdocfifgnjgaaDoor
open Go.RowKit

/-- The sign of a number that is not nothing. -/
def sgV (g : Bool) (h l : Int) : Bool := g && !(decide (h = 0) && decide (l = 0))
/-- A pair of a wide number and whether it is one. -/
def okE (n : Bool) (h l : Int) : Ending := if okV n h l = true then .returned (.tuple #[.agg #[.bool n, .int .u64 h, .int .u64 l], .bool true]) else .returned (.tuple #[.agg #[.bool false, .int .u64 0, .int .u64 0], .bool false])
/-- An order as a number. -/
def ordI (x y : Int) : Int := if x < y then -1 else if y < x then 1 else 0

/-- A sum of words, at its answer. -/
theorem add64At (x y c s k : Int) (x0 : 0 ≤ x) (y0 : 0 ≤ y) (c0 : 0 ≤ c) (c1 : c ≤ 1) (s0 : 0 ≤ s) (s1 : s < 18446744073709551616) (e : x + y + c = k * 18446744073709551616 + s) (w : World) :
    (callFunc 52 #[.int .u64 x, .int .u64 y, .int .u64 c]).run Tryd.prog w = .ok (.value (.tuple #[.int .u64 s, .int .u64 k])) w := by
  have e1 : (x + y + c) % 18446744073709551616 = s := by omega
  have e2 : (x + y + c) / 18446744073709551616 = k := by omega
  rw [run_callFunc_extern Tryd.func52 (by kernel_rfl) (by kernel_rfl) (by kernel_rfl) (e := add64Entry) (by kernel_rfl), run_add64 x y c x0 y0 c0 c1, e1, e2]
  rfl
/-- A difference of words, at its answer. -/
theorem sub64At (x y c s k : Int) (x0 : 0 ≤ x) (y0 : 0 ≤ y) (c0 : 0 ≤ c) (c1 : c ≤ 1) (s0 : 0 ≤ s) (s1 : s < 18446744073709551616) (y1 : y < 18446744073709551616) (x1 : x < 18446744073709551616) (e : x - y - c = s - k * 18446744073709551616) (w : World) :
    (callFunc 55 #[.int .u64 x, .int .u64 y, .int .u64 c]).run Tryd.prog w = .ok (.value (.tuple #[.int .u64 s, .int .u64 k])) w := by
  have hk : k = 0 ∨ k = 1 := by omega
  obtain ⟨x, rfl⟩ := Int.eq_ofNat_of_zero_le x0
  obtain ⟨y, rfl⟩ := Int.eq_ofNat_of_zero_le y0
  obtain ⟨c, rfl⟩ := Int.eq_ofNat_of_zero_le c0
  have e1 : (((x + 18446744073709551616 - y - c) % 18446744073709551616 : Nat) : Int) = s := by rcases hk with rfl | rfl <;> omega
  have e2 : ((if x < y + c then 1 else 0 : Nat) : Int) = k := by rcases hk with rfl | rfl <;> split <;> omega
  rw [run_callFunc_extern Tryd.func55 (by kernel_rfl) (by kernel_rfl) (by kernel_rfl) (e := sub64Entry) (by kernel_rfl), run_sub64 x y c (by omega), e1, e2]
  rfl
set_option maxRecDepth 100000 in
theorem implMul64 (a b : Int) (a0 : 0 ≤ a) (a1 : a < 18446744073709551616) (b0 : 0 ≤ b) (b1 : b < 18446744073709551616) (w : World) :
    Calls Tryd.prog 60 #[.int .u64 a, .int .u64 b] w fun e w' => ProdOut a b e ∧ Below w.heap.size w w' := by
  have ka := u64_and32 a
  have kb := u64_and32 b
  have hp := mul_bound (x := a / 4294967296) (y := b / 4294967296) (by omega) (by omega) (by omega) (by omega)
  have hq := mul_bound (x := a / 4294967296) (y := b % 4294967296) (by omega) (by omega) (by omega) (by omega)
  have hr := mul_bound (x := a % 4294967296) (y := b / 4294967296) (by omega) (by omega) (by omega) (by omega)
  have hs := mul_bound (x := a % 4294967296) (y := b % 4294967296) (by omega) (by omega) (by omega) (by omega)
  have hm := Lib.hid (mul_parts a b)
  obtain ⟨m, hme⟩ : ∃ p, a * b = p := ⟨_, rfl⟩
  obtain ⟨p, hpe⟩ : ∃ p, (a / 4294967296) * (b / 4294967296) = p := ⟨_, rfl⟩
  obtain ⟨q, hqe⟩ : ∃ p, (a / 4294967296) * (b % 4294967296) = p := ⟨_, rfl⟩
  obtain ⟨r, hre⟩ : ∃ p, (a % 4294967296) * (b / 4294967296) = p := ⟨_, rfl⟩
  obtain ⟨s, hse⟩ : ∃ p, (a % 4294967296) * (b % 4294967296) = p := ⟨_, rfl⟩
  rw [hpe] at hp
  rw [hqe] at hq
  rw [hre] at hr
  rw [hse] at hs
  have km := u64_and32 (q + s / 4294967296)
  go_enter Tryd.func60, Tryd.ntmps60
  go_wp2_with fail
  go_ret2
  have hm2 := hm.out
  rw [hpe, hqe, hre, hse, hme] at hm2
  rw [IntKind.wrap_u64]
  rw [ProdOut, hme]
  exact ⟨⟨_, _, by omega, by omega, by omega, by omega, by omega, rfl⟩, Below.refl _ _⟩
set_option maxRecDepth 100000 in
theorem implMagnitude (x : Int) (x0 : -9223372036854775808 ≤ x) (x1 : x ≤ 9223372036854775807) (w : World) :
    Calls Tryd.prog 61 #[.int .i64 x] w fun e w' => e = .returned (.int .u64 x.natAbs) ∧ Below w.heap.size w w' := by
  by_cases h : x < 0
  · rw [show (x.natAbs : Int) = (-(x % 18446744073709551616)) % 18446744073709551616 by omega]
    go_enter Tryd.func61, Tryd.ntmps61
    go_wp2_with fail
    simp only [IntKind.wrap_u64]
    go_ret
    exact ⟨rfl, Below.refl _ _⟩
  · rw [show (x.natAbs : Int) = x by omega]
    go_enter Tryd.func61, Tryd.ntmps61
    go_wp2_with fail
    go_ret
    exact ⟨rfl, Below.refl _ _⟩
set_option maxRecDepth 100000 in
theorem implWideOk (n0 : Bool) (h0 l0 : Int) (hp0 : 0 ≤ h0) (lp0 : 0 ≤ l0) (w : World) :
    Calls Tryd.prog 51 #[.agg #[.bool n0, .int .u64 h0, .int .u64 l0]] w fun e w' => e = .returned (.bool (okV n0 h0 l0)) ∧ Below w.heap.size w w' := by
  unfold okV
  go_enter Tryd.func51, Tryd.ntmps51
  go_wp2_with fail
  all_goals go_ret
  all_goals refine ⟨?_, (Below.refl _ _).alloc (Nat.le_refl _) _⟩
  all_goals congr 2
  all_goals (first | simp; omega | (simp_all; done) | (cases n0 <;> simp_all <;> omega))
set_option maxRecDepth 100000 in
theorem implWithSign (g n0 : Bool) (h0 l0 : Int) (w : World) :
    Calls Tryd.prog 56 #[.bool g, .agg #[.bool n0, .int .u64 h0, .int .u64 l0]] w fun e w' => e = .returned (.agg #[.bool (sgV g h0 l0), .int .u64 h0, .int .u64 l0]) ∧ Below w.heap.size w w' := by
  go_enter Tryd.func56, Tryd.ntmps56
  go_wp2_with fail
  all_goals (try simp only [Exit.inBlock, Exit.then])
  all_goals refine bodyPost_ret (v := .agg #[.bool (sgV g h0 l0), .int .u64 h0, .int .u64 l0]) ?_ rfl ⟨?_, ?_⟩
  all_goals try rw [results_cell rfl]
  all_goals try go_simp
  all_goals (first | done | rfl | (simp_all [sgV]; done) | skip)
  all_goals (repeat' (first | exact Below.refl _ _ | refine Below.alloc ?_ (by simp) _ | refine Below.setCell ?_ (by simp) _))
set_option maxRecDepth 100000 in
theorem implIfOk (n0 : Bool) (h0 l0 : Int) (hp0 : 0 ≤ h0) (lp0 : 0 ≤ l0) (w : World) :
    Calls Tryd.prog 53 #[.agg #[.bool n0, .int .u64 h0, .int .u64 l0]] w fun e w' => e = okE n0 h0 l0 ∧ Below w.heap.size w w' := by
  by_cases hk : okV n0 h0 l0 = true
  · rw [okE, if_pos hk]
    go_enter Tryd.func53, Tryd.ntmps53
    go_wp2_with fail
    refine (implWideOk n0 h0 l0 hp0 lp0 _).mono ?_
    rintro e w1 ⟨rfl, hB⟩
    rw [hk]
    have hca0 : w1.cell? ⟨w.heap.size, 0, none⟩ = some (.bool n0) := by rw [hB.cell (by simp <;> omega)]; go_simp
    have hfa0 : w1.frozen? ⟨w.heap.size, 0, none⟩ = false := by rw [hB.frozen (by simp <;> omega)]; go_simp
    have hca1 : w1.cell? ⟨w.heap.size, 1, none⟩ = some (.int .u64 h0) := by rw [hB.cell (by simp <;> omega)]; go_simp
    have hfa1 : w1.frozen? ⟨w.heap.size, 1, none⟩ = false := by rw [hB.frozen (by simp <;> omega)]; go_simp
    have hca2 : w1.cell? ⟨w.heap.size, 2, none⟩ = some (.int .u64 l0) := by rw [hB.cell (by simp <;> omega)]; go_simp
    have hfa2 : w1.frozen? ⟨w.heap.size, 2, none⟩ = false := by rw [hB.frozen (by simp <;> omega)]; go_simp
    have hcr0 : w1.cell? ⟨w.heap.size + 1, 0, none⟩ = some (.bool false) := by rw [hB.cell (by simp <;> omega)]; go_simp
    have hfr0 : w1.frozen? ⟨w.heap.size + 1, 0, none⟩ = false := by rw [hB.frozen (by simp <;> omega)]; go_simp
    have hcr1 : w1.cell? ⟨w.heap.size + 1, 1, none⟩ = some (.int .u64 0) := by rw [hB.cell (by simp <;> omega)]; go_simp
    have hfr1 : w1.frozen? ⟨w.heap.size + 1, 1, none⟩ = false := by rw [hB.frozen (by simp <;> omega)]; go_simp
    have hcr2 : w1.cell? ⟨w.heap.size + 1, 2, none⟩ = some (.int .u64 0) := by rw [hB.cell (by simp <;> omega)]; go_simp
    have hfr2 : w1.frozen? ⟨w.heap.size + 1, 2, none⟩ = false := by rw [hB.frozen (by simp <;> omega)]; go_simp
    have HB : Hid (Below w.heap.size w w1) := (((Below.refl _ _).alloc (Nat.le_refl _) _).alloc (by simp) _).trans (hB.mono (by simp <;> omega))
    clear hB
    go_wp2_with fail
    (try simp only [Exit.inBlock, Exit.then])
    refine bodyPost_ret (v := .tuple #[.agg #[.bool n0, .int .u64 h0, .int .u64 l0], .bool true]) ?_ rfl ⟨rfl, ?_⟩
    · rw [results_cell_tmp rfl]
      go_simp
    · repeat' (first | assumption | exact Below.refl _ _ | exact HB.out | refine Below.alloc ?_ (by simp <;> omega) _ | refine Below.setCell ?_ (by simp <;> omega) _)
  · rw [okE, if_neg hk]
    go_enter Tryd.func53, Tryd.ntmps53
    go_wp2_with fail
    refine (implWideOk n0 h0 l0 hp0 lp0 _).mono ?_
    rintro e w1 ⟨rfl, hB⟩
    rw [show okV n0 h0 l0 = false by simpa using hk]
    have hca0 : w1.cell? ⟨w.heap.size, 0, none⟩ = some (.bool n0) := by rw [hB.cell (by simp <;> omega)]; go_simp
    have hfa0 : w1.frozen? ⟨w.heap.size, 0, none⟩ = false := by rw [hB.frozen (by simp <;> omega)]; go_simp
    have hca1 : w1.cell? ⟨w.heap.size, 1, none⟩ = some (.int .u64 h0) := by rw [hB.cell (by simp <;> omega)]; go_simp
    have hfa1 : w1.frozen? ⟨w.heap.size, 1, none⟩ = false := by rw [hB.frozen (by simp <;> omega)]; go_simp
    have hca2 : w1.cell? ⟨w.heap.size, 2, none⟩ = some (.int .u64 l0) := by rw [hB.cell (by simp <;> omega)]; go_simp
    have hfa2 : w1.frozen? ⟨w.heap.size, 2, none⟩ = false := by rw [hB.frozen (by simp <;> omega)]; go_simp
    have hcr0 : w1.cell? ⟨w.heap.size + 1, 0, none⟩ = some (.bool false) := by rw [hB.cell (by simp <;> omega)]; go_simp
    have hfr0 : w1.frozen? ⟨w.heap.size + 1, 0, none⟩ = false := by rw [hB.frozen (by simp <;> omega)]; go_simp
    have hcr1 : w1.cell? ⟨w.heap.size + 1, 1, none⟩ = some (.int .u64 0) := by rw [hB.cell (by simp <;> omega)]; go_simp
    have hfr1 : w1.frozen? ⟨w.heap.size + 1, 1, none⟩ = false := by rw [hB.frozen (by simp <;> omega)]; go_simp
    have hcr2 : w1.cell? ⟨w.heap.size + 1, 2, none⟩ = some (.int .u64 0) := by rw [hB.cell (by simp <;> omega)]; go_simp
    have hfr2 : w1.frozen? ⟨w.heap.size + 1, 2, none⟩ = false := by rw [hB.frozen (by simp <;> omega)]; go_simp
    have HB : Hid (Below w.heap.size w w1) := (((Below.refl _ _).alloc (Nat.le_refl _) _).alloc (by simp) _).trans (hB.mono (by simp <;> omega))
    clear hB
    go_wp2_with fail
    (try simp only [Exit.inBlock, Exit.then])
    refine bodyPost_ret (v := .tuple #[.agg #[.bool false, .int .u64 0, .int .u64 0], .bool false]) ?_ rfl ⟨rfl, ?_⟩
    · rw [results_cell_tmp rfl]
      go_simp
    · repeat' (first | assumption | exact Below.refl _ _ | exact HB.out | refine Below.alloc ?_ (by simp <;> omega) _ | refine Below.setCell ?_ (by simp <;> omega) _)
set_option maxRecDepth 100000 in
theorem cmpNoNaN (x : Int) (w : World) :
    Calls Tryd.prog 83 #[.int .u64 x] w fun e w' => e = .returned (.bool false) ∧ Below w.heap.size w w' := by
  go_enter Tryd.func83, Tryd.ntmps83
  go_wp2_with fail
  go_ret
  exact ⟨by simp, Below.refl _ _⟩
set_option maxRecDepth 100000 in
theorem cmpU64 (x y : Int) (w : World) :
    Calls Tryd.prog 76 #[.int .u64 x, .int .u64 y] w fun e w' => e = .returned (.int .i64 (ordI x y)) ∧ Below w.heap.size w w' := by
  unfold ordI
  go_enter Tryd.func76, Tryd.ntmps76
  go_wp2_with fail
  refine (cmpNoNaN x _).mono ?_
  rintro e w1 ⟨rfl, hB1⟩
  go_wp2_with fail
  refine (cmpNoNaN y _).mono ?_
  rintro e w2 ⟨rfl, hB2⟩
  have HB := bt2 hB1 hB2
  clear hB1 hB2
  go_wp2_with fail
  all_goals go_ret
  all_goals exact ⟨rfl, HB⟩
set_option maxRecDepth 100000 in
theorem cmpOr (x y : Int) (b : Nat) (w : World) (c0 : w.cell? ⟨b, 0, none⟩ = some (.int .i64 x)) (c1 : w.cell? ⟨b, 1, none⟩ = some (.int .i64 y)) :
    Calls Tryd.prog 75 #[.slice (some ⟨b, 0, none⟩) 2 2] w fun e w' => e = .returned (.int .i64 (if x = 0 then y else x)) ∧ w' = w := by
  go_enter Tryd.func75, Tryd.ntmps75
  go_wp2_with fail
  go_loop [8] (fun i => i = .int .i64 0 ∨ (i = .int .i64 1 ∧ x = 0) ∨ (i = .int .i64 2 ∧ x = 0 ∧ y = 0)) (fun i => 2 - (intOf i).toNat)
  case atStart => exact Or.inl rfl
  case round =>
    rcases hrel with rfl | ⟨rfl, hx⟩ | ⟨rfl, hx, hy⟩
    · by_cases h : x = 0
      · go_wp2_with fail
        go_round
        case rel => exact Or.inr (Or.inl ⟨by go_num, h⟩)
        case measure => simp [intOf]
      · go_wp2_with fail
        go_ret
        exact ⟨by simp, rfl⟩
    · by_cases h : y = 0
      · go_wp2_with fail
        go_round
        case rel => exact Or.inr (Or.inr ⟨by go_num, hx, h⟩)
        case measure => simp [intOf]
      · go_wp2_with fail
        go_ret
        exact ⟨by simp, rfl⟩
    · go_wp2_with fail
      go_ret
      exact ⟨by simp, rfl⟩
end Go.Proofs.YtapdocfifgnjgaaDoor
