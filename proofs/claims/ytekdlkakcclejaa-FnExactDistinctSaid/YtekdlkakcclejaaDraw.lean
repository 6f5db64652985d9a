/-
  The draws of numbers and of listed texts.
-/
import Derived.Test.YtekdlkakcclejaaCur
namespace Go.Proofs.Ytekdlkakcclejaa
open Go.RowKit

def BelowOut (n : Nat) (e : Ending) : Prop := ∃ m : Nat, m < n ∧ e = .returned (.int .i64 m)
def IntOut (e : Ending) : Prop := ∃ z : Int, -9223372036854775808 ≤ z ∧ z ≤ 9223372036854775807 ∧ e = .returned (.int .i64 z)
def StrOut (M : Nat) (e : Ending) : Prop := ∃ s : ByteArray, s.size ≤ M ∧ e = .returned (.string s)

theorem belowOut_mod {n : Nat} {z : Int} (h : 1 ≤ n) : BelowOut n (.returned (.int .i64 (z % n))) :=
  ⟨(z % n).toNat, by have := Int.emod_lt_of_pos z (b := n) (by omega); have := Int.emod_nonneg z (b := n) (by omega); omega, by rw [Int.toNat_of_nonneg (Int.emod_nonneg _ (by omega))]⟩

set_option maxRecDepth 100000 in
theorem l1Below_small (W w : World) (p n : Nat) (h1 : 1 ≤ n) (h2 : n ≤ 256) (hc : Cur W w p) :
    Calls Try.prog 38 #[.pointer (some ⟨p, 0, none⟩), .int .i64 n] w fun e w' => BelowOut n e ∧ Cur W w' p ∧ w.grownBy w' (some p) := by
  have g1 : ¬ ((n : Int) ≤ 0) := by omega
  have g2 : (n : Int) ≤ 256 := by omega
  go_enter Try.func38, Try.ntmps38
  go_wp2_with fail
  refine (l1Byte W _ p hc).mono ?_
  rintro e w1 ⟨⟨b, hb, rfl⟩, hc1, hg1⟩
  go_wp2_with fail
  go_ret
  exact ⟨belowOut_mod h1, hc1, hg1⟩

set_option maxRecDepth 100000 in
theorem l1Below_big (W w : World) (p n : Nat) (h1 : 256 < n) (h2 : n ≤ 4294967296) (hc : Cur W w p) :
    Calls Try.prog 38 #[.pointer (some ⟨p, 0, none⟩), .int .i64 n] w fun e w' => BelowOut n e ∧ Cur W w' p ∧ w.grownBy w' (some p) := by
  have g1 : ¬ ((n : Int) ≤ 0) := by omega
  have g2 : ¬ (n : Int) ≤ 256 := by omega
  go_enter Try.func38, Try.ntmps38
  go_wp2_with fail
  refine (l1Byte W _ p hc).mono ?_
  rintro e w1 ⟨⟨b1, hb1, rfl⟩, hc1, hg1⟩
  go_wp2_with fail
  refine (l1Byte W _ p hc1).mono ?_
  rintro e w2 ⟨⟨b2, hb2, rfl⟩, hc2, hg2⟩
  go_wp2_with fail
  refine (l1Byte W _ p hc2).mono ?_
  rintro e w3 ⟨⟨b3, hb3, rfl⟩, hc3, hg3⟩
  go_wp2_with fail
  refine (l1Byte W _ p hc3).mono ?_
  rintro e w4 ⟨⟨b4, hb4, rfl⟩, hc4, hg4⟩
  go_wp2_with fail
  go_ret
  exact ⟨belowOut_mod (by omega), hc4, grownBy_trans (grownBy_trans (grownBy_trans hg1 hg2) hg3) hg4⟩

/-- A DRAW BELOW n. -/
theorem l1Below (W w : World) (p n : Nat) (h1 : 1 ≤ n) (h2 : n ≤ 4294967296) (hc : Cur W w p) :
    Calls Try.prog 38 #[.pointer (some ⟨p, 0, none⟩), .int .i64 n] w fun e w' => BelowOut n e ∧ Cur W w' p ∧ w.grownBy w' (some p) := by
  by_cases h : n ≤ 256
  · exact l1Below_small W w p n h1 h hc
  · exact l1Below_big W w p n (by omega) h2 hc

set_option maxRecDepth 100000 in
theorem l1Once (W w : World) (p n : Nat) (h1 : 1 ≤ n) (h2 : n ≤ 4294967296) (hc : Cur W w p) :
    Calls Try.prog 39 #[.pointer (some ⟨p, 0, none⟩), .int .i64 n] w fun e w' => (∃ b, e = .returned (.bool b)) ∧ Cur W w' p ∧ w.grownBy w' (some p) := by
  go_enter Try.func39, Try.ntmps39
  go_wp2_with fail
  refine (l1Below W _ p n h1 h2 hc).mono ?_
  rintro e w1 ⟨⟨b, hb, rfl⟩, hc1, hg1⟩
  go_wp2_with fail
  go_ret
  exact ⟨⟨_, rfl⟩, hc1, hg1⟩

/-- A cell of a block that the cursor is not. -/
theorem grown_cell {w w' : World} {p lb j : Nat} {x : Value} (hg : w.grownBy w' (some p)) (hne : lb ≠ p) (h : w.cell? ⟨lb, j, none⟩ = some x) : w'.cell? ⟨lb, j, none⟩ = some x := by
  have hlt : lb < w.heap.size := World.block_lt_of_cell? w _ h
  rw [World.cell?_of_block (w := w) (hg.block lb hlt (fun e => hne (Option.some.inj e)))]
  exact h

set_option maxRecDepth 100000 in
theorem l1PickInt (W w : World) (p lb k : Nat) (h1 : 1 ≤ k) (h2 : k ≤ 4294967296) (hne : lb ≠ p) (hcell : ∀ j, j < k → ∃ z : Int, -9223372036854775808 ≤ z ∧ z ≤ 9223372036854775807 ∧ w.cell? ⟨lb, j, none⟩ = some (.int .i64 z)) (hc : Cur W w p) :
    Calls Try.prog 32 #[.pointer (some ⟨p, 0, none⟩), .slice (some ⟨lb, 0, none⟩) k k] w fun e w' => IntOut e ∧ Cur W w' p ∧ w.grownBy w' (some p) := by
  have HC := Lib.hid hcell
  clear hcell
  go_enter Try.func32, Try.ntmps32
  go_wp2_with fail
  refine (l1Below W _ p k h1 h2 hc).mono ?_
  rintro e w1 ⟨⟨m, hm, rfl⟩, hc1, hg1⟩
  obtain ⟨z, z0, z1, hcs⟩ := HC.out m hm
  have hcs1 := grown_cell hg1 hne hcs
  have hm1 : (m : Int) < k := by omega
  clear hcs
  go_wp2_with fail
  go_ret
  exact ⟨⟨z, z0, z1, rfl⟩, hc1, hg1⟩

theorem i64_and30 (n : Int) : bits .and .i64 n 1073741823 = n % 1073741824 := by
  have h127 : (BitVec.ofInt 64 1073741823).toNat = 2 ^ 30 - 1 := by decide
  have key : (BitVec.ofInt 64 n &&& BitVec.ofInt 64 1073741823).toNat = (n % ((2 ^ 64 : Nat) : Int)).toNat % 2 ^ 30 := by
    rw [BitVec.toNat_and, BitVec.toNat_ofInt, h127, Nat.and_two_pow_sub_one_eq_mod]
  show IntKind.i64.wrap ((BitVec.ofInt 64 n &&& BitVec.ofInt 64 1073741823).toNat : Nat) = n % 1073741824
  rw [key, IntKind.wrap_i64]
  omega

/-- What l1New hands back. -/
def NewOut (w : World) (e : Ending) (w' : World) : Prop := e = .returned (.pointer (some ⟨w.heap.size, 0, none⟩)) ∧ Cur w w' w.heap.size ∧ Below w.heap.size w w'

theorem newOut {w : World} {v : Value} {n : Nat} (hb : Bytes w v n) (h : Int) (h0 : 0 ≤ h) (h1 : h ≤ 9223372036854775807) :
    NewOut w (.returned (.pointer (some ⟨w.heap.size, 0, none⟩))) (w.alloc (.cells #[v, .int .i64 0, .int .i64 h] 44)) :=
  ⟨rfl, ⟨Nat.le_refl _, (Below.refl _ _).alloc (Nat.le_refl _) _, v, n, 0, h, hb, Nat.zero_le _, by omega, h1, by
    show (w.heap.push _)[w.heap.size]? = _
    simp⟩, (Below.refl _ _).alloc (Nat.le_refl _) _⟩

set_option maxRecDepth 100000 in
theorem l1New_nil (w : World) (c : Nat) :
    Calls Try.prog 29 #[.slice none 0 c] w fun e w' => NewOut w e w' := by
  go_enter Try.func29, Try.ntmps29
  go_wp2_with fail
  go_loop [3, 4] (fun h i => h = .int .i64 28507 ∧ i = .int .i64 0) (fun _ _ => 0)
  case atStart => exact ⟨rfl, rfl⟩
  case round =>
    obtain ⟨rfl, rfl⟩ := hrel
    go_wp2_with fail
    go_ret
    exact newOut (n := 0) (Or.inl ⟨c, rfl, rfl⟩) 28507 (by omega) (by omega)

set_option maxRecDepth 100000 in
theorem l1New_zero (w : World) (a : Addr) (c : Nat) :
    Calls Try.prog 29 #[.slice (some a) 0 c] w fun e w' => NewOut w e w' := by
  go_enter Try.func29, Try.ntmps29
  go_wp2_with fail
  go_loop [3, 4] (fun h i => h = .int .i64 28507 ∧ i = .int .i64 0) (fun _ _ => 0)
  case atStart => exact ⟨rfl, rfl⟩
  case round =>
    obtain ⟨rfl, rfl⟩ := hrel
    go_wp2_with fail
    go_ret
    exact newOut (n := 0) (Or.inr (Or.inl ⟨a, c, rfl, rfl⟩)) 28507 (by omega) (by omega)

set_option maxRecDepth 100000 in
set_option maxHeartbeats 1000000 in
theorem l1New_some (w : World) (b off c n : Nat) (hn : n ≤ 140737488355328) (hcell : ∀ j, j < n → b < w.heap.size ∧ ∃ z : Int, 0 ≤ z ∧ z ≤ 255 ∧ w.cell? ⟨b, off + j, none⟩ = some (.int .u8 z)) :
    Calls Try.prog 29 #[.slice (some ⟨b, off, none⟩) n c] w fun e w' => NewOut w e w' := by
  have HC := Lib.hid hcell
  have ka := i64_and30
  clear hcell
  go_enter Try.func29, Try.ntmps29
  go_wp2_with fail
  go_loop [3, 4] (fun h i => ∃ (k : Nat) (x : Int), k ≤ n ∧ 0 ≤ x ∧ x ≤ 281474976710656 ∧ h = .int .i64 x ∧ i = .int .i64 k) (fun _ i => n - (intOf i).toNat)
  case atStart => exact ⟨0, _, Nat.zero_le _, by omega, by omega, rfl, rfl⟩
  case round =>
    obtain ⟨k, x, hk, hx0, hx1, rfl, rfl⟩ := hrel
    have done : Hid (NewOut w (.returned (.pointer (some ⟨w.heap.size, 0, none⟩))) (w.alloc (.cells #[.slice (some ⟨b, off, none⟩) n c, .int .i64 0, .int .i64 x] 44))) :=
      newOut (n := n) (Or.inr (Or.inr ⟨b, off, c, rfl, hn, HC.out⟩)) x hx0 (by omega)
    by_cases hlt : k < n
    · by_cases h4 : k < 4000
      · obtain ⟨_, z, z0, z1, hz⟩ := HC.out k hlt
        have hk1 : (k : Int) < n := by omega
        have hk4 : (k : Int) < 4000 := by omega
        go_wp2_with fail
        go_round
        case rel => exact ⟨k + 1, _, by omega, by omega, by omega, rfl, by go_num⟩
        case measure => simp [intOf]; omega
      · have hk1 : (k : Int) < n := by omega
        have hk4 : ¬ (k : Int) < 4000 := by omega
        go_wp2_with fail
        go_ret
        exact done.out
    · have hk1 : ¬ (k : Int) < n := by omega
      go_wp2_with fail
      go_ret
      exact done.out

/-- A NEW CURSOR. -/
theorem l1New (w : World) (v : Value) (n : Nat) (hb : Bytes w v n) :
    Calls Try.prog 29 #[v] w fun e w' => NewOut w e w' := by
  rcases hb with ⟨c, rfl, rfl⟩ | ⟨a, c, rfl, rfl⟩ | ⟨b, off, c, rfl, hn, hcell⟩
  · exact l1New_nil w c
  · exact l1New_zero w a c
  · exact l1New_some w b off c n hn hcell
end Go.Proofs.Ytekdlkakcclejaa
