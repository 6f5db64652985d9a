/-
  The decimal that a text stands for: the reference's way.
-/
import Derived.Test.YticeagjonfifbaaGreatDoorPk4
import Derived.Test.YticeagjonfifbaaGreatDoorFixS
import Derived.Test.YticeagjonfifbaaGreatDoorPk2
import Derived.Test.YticeagjonfifbaaGreatDoorPk12
namespace Go.Proofs.YticeagjonfifbaaGreatDoor
open Go.RowKit

theorem fA_le {ds : List UInt8} {k : Nat} (h : ∀ j, j < k → dgB (ds.getD j 0) = true) (hk : k ≤ 3) : 0 ≤ fA ds k ∧ fA ds k ≤ 999 := by
  have hd : ∀ j, j < k → 0 ≤ dV (ds.getD j 0) ∧ dV (ds.getD j 0) ≤ 9 := by
    intro j h1
    have := h j h1
    simpa only [dgB, decide_eq_true_eq] using this
  match k with
  | 0 => simp [fA]
  | 1 =>
    have a := hd 0 (by omega)
    simp only [fA, unitV]
    omega
  | 2 =>
    have a := hd 0 (by omega)
    have b := hd 1 (by omega)
    simp only [fA, unitV]
    omega
  | 3 =>
    have a := hd 0 (by omega)
    have b := hd 1 (by omega)
    have c := hd 2 (by omega)
    simp only [fA, unitV]
    omega
set_option maxRecDepth 100000 in
set_option maxHeartbeats 1000000 in
theorem specRead6_empty_num (s : ByteArray) (_hs : s.size ≤ 20) (h0 : s.size = 0) (a : ByteArray) (rest : List (List UInt8)) (HP : Hid (partsL 46 s.data.toList = a.data.toList :: rest)) (HN : Hid (numE a.data.toList = .returned (.tuple #[.int .i64 0, .bool false]))) (w : World) :
    Calls Tryz.prog 52 #[.string s] w fun e w' => e = .returned (.tuple #[.int .i64 0, .bool false]) ∧ Below w.heap.size w w' := by
  have hq1 : decide ((20 : Int) < s.size) = false := by rw [decide_eq_false_iff_not]; omega
  have hq2 : decide ((0 : Int) < s.size) = false := by rw [decide_eq_false_iff_not]; omega
  go_enter Tryz.func52, Tryz.ntmps52
  go_wp2_with fail
  refine (specParts _ 46 _ (by omega)).mono ?_
  rintro e w1 ⟨v2, rfl, hown, hB⟩
  rw [HP.out] at hown
  obtain ⟨gg, cap, rfl⟩ := Joins.ownsRow_form hown (by simp)
  have q0 : w1.cell? ⟨gg, 0, none⟩ = some (.string a) := by have h := hown.cellAt 0 (by simp); simpa [strCells] using h
  have HT := Lib.hid hB
  have lq := World.block_lt_of_cell? w1 _ q0
  clear hB hown
  go_wp2_with fail
  refine (specNumberE a _).mono ?_
  rintro e w2 ⟨rfl, hB2⟩
  rw [HN.out]
  replace HT := Lib.hid (bt HT.out hB2)
  clear hB2 q0 lq
  go_wp2_with fail
  go_ret2
  exact ⟨rfl, HT.out⟩
set_option maxRecDepth 100000 in
set_option maxHeartbeats 1000000 in
theorem specRead6_plain_num (s : ByteArray) (hs : s.size ≤ 20) (h0 : 0 < s.size) (h45 : ((s[0].toNat : Int) == 45) = false) (a : ByteArray) (rest : List (List UInt8)) (HP : Hid (partsL 46 s.data.toList = a.data.toList :: rest)) (HN : Hid (numE a.data.toList = .returned (.tuple #[.int .i64 0, .bool false]))) (w : World) :
    Calls Tryz.prog 52 #[.string s] w fun e w' => e = .returned (.tuple #[.int .i64 0, .bool false]) ∧ Below w.heap.size w w' := by
  have hq1 : decide ((20 : Int) < s.size) = false := by rw [decide_eq_false_iff_not]; omega
  have hq2 : decide ((0 : Int) < s.size) = true := by rw [decide_eq_true_eq]; omega
  go_enter Tryz.func52, Tryz.ntmps52
  go_wp2_with fail
  refine (specParts _ 46 _ (by omega)).mono ?_
  rintro e w1 ⟨v2, rfl, hown, hB⟩
  rw [HP.out] at hown
  obtain ⟨gg, cap, rfl⟩ := Joins.ownsRow_form hown (by simp)
  have q0 : w1.cell? ⟨gg, 0, none⟩ = some (.string a) := by have h := hown.cellAt 0 (by simp); simpa [strCells] using h
  have HT := Lib.hid hB
  have lq := World.block_lt_of_cell? w1 _ q0
  clear hB hown
  go_wp2_with fail
  refine (specNumberE a _).mono ?_
  rintro e w2 ⟨rfl, hB2⟩
  rw [HN.out]
  replace HT := Lib.hid (bt HT.out hB2)
  clear hB2 q0 lq
  go_wp2_with fail
  go_ret2
  exact ⟨rfl, HT.out⟩
set_option maxRecDepth 100000 in
set_option maxHeartbeats 1000000 in
theorem specRead6_plain_many (s : ByteArray) (hs : s.size ≤ 20) (h0 : 0 < s.size) (h45 : ((s[0].toNat : Int) == 45) = false) (a : ByteArray) (x y : List UInt8) (rest : List (List UInt8)) (HP : Hid (partsL 46 s.data.toList = a.data.toList :: x :: y :: rest)) (n0 : Int) (_l0 : 0 ≤ n0) (_l1 : n0 ≤ 999999999) (HN : Hid (numE a.data.toList = .returned (.tuple #[.int .i64 n0, .bool true]))) (w : World) :
    Calls Tryz.prog 52 #[.string s] w fun e w' => e = .returned (.tuple #[.int .i64 0, .bool false]) ∧ Below w.heap.size w w' := by
  have hq3 : decide ((2 : Int) < (rest.length : Int) + 1 + 1 + 1) = true := by rw [decide_eq_true_eq]; omega
  have hq1 : decide ((20 : Int) < s.size) = false := by rw [decide_eq_false_iff_not]; omega
  have hq2 : decide ((0 : Int) < s.size) = true := by rw [decide_eq_true_eq]; omega
  go_enter Tryz.func52, Tryz.ntmps52
  go_wp2_with fail
  refine (specParts _ 46 _ (by omega)).mono ?_
  rintro e w1 ⟨v2, rfl, hown, hB⟩
  rw [HP.out] at hown
  obtain ⟨gg, cap, rfl⟩ := Joins.ownsRow_form hown (by simp)
  have q0 : w1.cell? ⟨gg, 0, none⟩ = some (.string a) := by have h := hown.cellAt 0 (by simp); simpa [strCells] using h
  have HT := Lib.hid hB
  have lq := World.block_lt_of_cell? w1 _ q0
  clear hB hown
  go_wp2_with fail
  refine (specNumberE a _).mono ?_
  rintro e w2 ⟨rfl, hB2⟩
  rw [HN.out]
  replace HT := Lib.hid (bt HT.out hB2)
  clear hB2 q0 lq
  go_wp2_with fail
  go_ret2
  exact ⟨rfl, HT.out⟩
set_option maxRecDepth 100000 in
set_option maxHeartbeats 1000000 in
theorem specRead6_plain_one_true (s : ByteArray) (hs : s.size ≤ 20) (h0 : 0 < s.size) (h45 : ((s[0].toNat : Int) == 45) = false) (a : ByteArray) (HP : Hid (partsL 46 s.data.toList = [a.data.toList])) (n0 : Int) (l0 : 0 ≤ n0) (l1 : n0 ≤ 999999999) (HN : Hid (numE a.data.toList = .returned (.tuple #[.int .i64 n0, .bool true]))) (hk : Hid (decide (-2147483647 ≤ 1000 * n0 ∧ 1000 * n0 ≤ 2147483647) = true)) (w : World) :
    Calls Tryz.prog 52 #[.string s] w fun e w' => e = .returned (.tuple #[.int .i64 (1000 * n0), .bool true]) ∧ Below w.heap.size w w' := by
  have hq1 : decide ((20 : Int) < s.size) = false := by rw [decide_eq_false_iff_not]; omega
  have hq2 : decide ((0 : Int) < s.size) = true := by rw [decide_eq_true_eq]; omega
  go_enter Tryz.func52, Tryz.ntmps52
  go_wp2_with fail
  refine (specParts _ 46 _ (by omega)).mono ?_
  rintro e w1 ⟨v2, rfl, hown, hB⟩
  rw [HP.out] at hown
  obtain ⟨gg, cap, rfl⟩ := Joins.ownsRow_form hown (by simp)
  have q0 : w1.cell? ⟨gg, 0, none⟩ = some (.string a) := by have h := hown.cellAt 0 (by simp); simpa [strCells] using h
  have HT := Lib.hid hB
  have lq := World.block_lt_of_cell? w1 _ q0
  clear hB hown
  go_wp2_with fail
  refine (specNumberE a _).mono ?_
  rintro e w2 ⟨rfl, hB2⟩
  rw [HN.out]
  replace HT := Lib.hid (bt HT.out hB2)
  clear hB2 q0 lq
  go_wp2_with fail
  refine (specValue6 _ _).mono ?_
  rintro e w3 ⟨rfl, rfl⟩
  rw [hk.out]
  go_wp2_with fail
  go_ret2
  exact ⟨rfl, HT.out⟩
set_option maxRecDepth 100000 in
set_option maxHeartbeats 1000000 in
theorem specRead6_plain_one_false (s : ByteArray) (hs : s.size ≤ 20) (h0 : 0 < s.size) (h45 : ((s[0].toNat : Int) == 45) = false) (a : ByteArray) (HP : Hid (partsL 46 s.data.toList = [a.data.toList])) (n0 : Int) (l0 : 0 ≤ n0) (l1 : n0 ≤ 999999999) (HN : Hid (numE a.data.toList = .returned (.tuple #[.int .i64 n0, .bool true]))) (hk : Hid (decide (-2147483647 ≤ 1000 * n0 ∧ 1000 * n0 ≤ 2147483647) = false)) (w : World) :
    Calls Tryz.prog 52 #[.string s] w fun e w' => e = .returned (.tuple #[.int .i64 0, .bool false]) ∧ Below w.heap.size w w' := by
  have hq1 : decide ((20 : Int) < s.size) = false := by rw [decide_eq_false_iff_not]; omega
  have hq2 : decide ((0 : Int) < s.size) = true := by rw [decide_eq_true_eq]; omega
  go_enter Tryz.func52, Tryz.ntmps52
  go_wp2_with fail
  refine (specParts _ 46 _ (by omega)).mono ?_
  rintro e w1 ⟨v2, rfl, hown, hB⟩
  rw [HP.out] at hown
  obtain ⟨gg, cap, rfl⟩ := Joins.ownsRow_form hown (by simp)
  have q0 : w1.cell? ⟨gg, 0, none⟩ = some (.string a) := by have h := hown.cellAt 0 (by simp); simpa [strCells] using h
  have HT := Lib.hid hB
  have lq := World.block_lt_of_cell? w1 _ q0
  clear hB hown
  go_wp2_with fail
  refine (specNumberE a _).mono ?_
  rintro e w2 ⟨rfl, hB2⟩
  rw [HN.out]
  replace HT := Lib.hid (bt HT.out hB2)
  clear hB2 q0 lq
  go_wp2_with fail
  refine (specValue6 _ _).mono ?_
  rintro e w3 ⟨rfl, rfl⟩
  rw [hk.out]
  go_wp2_with fail
  go_ret2
  exact ⟨rfl, HT.out⟩
set_option maxRecDepth 100000 in
set_option maxHeartbeats 1000000 in
theorem specRead6_plain_len (s : ByteArray) (hs : s.size ≤ 20) (h0 : 0 < s.size) (h45 : ((s[0].toNat : Int) == 45) = false) (a d : ByteArray) (HP : Hid (partsL 46 s.data.toList = [a.data.toList, d.data.toList])) (n0 : Int) (l0 : 0 ≤ n0) (l1 : n0 ≤ 999999999) (HN : Hid (numE a.data.toList = .returned (.tuple #[.int .i64 n0, .bool true]))) (hk : Hid (decide (1 ≤ (d.size : Int) ∧ (d.size : Int) ≤ 3) = false)) (w : World) :
    Calls Tryz.prog 52 #[.string s] w fun e w' => e = .returned (.tuple #[.int .i64 0, .bool false]) ∧ Below w.heap.size w w' := by
  have hq1 : decide ((20 : Int) < s.size) = false := by rw [decide_eq_false_iff_not]; omega
  have hq2 : decide ((0 : Int) < s.size) = true := by rw [decide_eq_true_eq]; omega
  go_enter Tryz.func52, Tryz.ntmps52
  go_wp2_with fail
  refine (specParts _ 46 _ (by omega)).mono ?_
  rintro e w1 ⟨v2, rfl, hown, hB⟩
  rw [HP.out] at hown
  obtain ⟨gg, cap, rfl⟩ := Joins.ownsRow_form hown (by simp)
  have q0 : w1.cell? ⟨gg, 0, none⟩ = some (.string a) := by have h := hown.cellAt 0 (by simp); simpa [strCells] using h
  have q1 : w1.cell? ⟨gg, 1, none⟩ = some (.string d) := by have h := hown.cellAt 1 (by simp); simpa [strCells] using h
  have HT := Lib.hid hB
  have lq := World.block_lt_of_cell? w1 _ q0
  clear hB hown
  go_wp2_with fail
  refine (specNumberE a _).mono ?_
  rintro e w2 ⟨rfl, hB2⟩
  rw [HN.out]
  replace q1 := cell_keep6 q1 hB2
  replace lq := World.block_lt_of_cell? w2 _ q1
  replace HT := Lib.hid (bt HT.out hB2)
  clear hB2 q0
  go_wp2_with fail
  refine (specIn6 _ 1 3 _).mono ?_
  rintro e w3 ⟨rfl, rfl⟩
  rw [hk.out]
  go_wp2_with fail
  go_ret2
  exact ⟨rfl, HT.out⟩
set_option maxRecDepth 100000 in
set_option maxHeartbeats 1000000 in
theorem specRead6_plain_bad (s : ByteArray) (hs : s.size ≤ 20) (h0 : 0 < s.size) (h45 : ((s[0].toNat : Int) == 45) = false) (a d : ByteArray) (HP : Hid (partsL 46 s.data.toList = [a.data.toList, d.data.toList])) (n0 : Int) (l0 : 0 ≤ n0) (l1 : n0 ≤ 999999999) (HN : Hid (numE a.data.toList = .returned (.tuple #[.int .i64 n0, .bool true]))) (hl0 : 1 ≤ d.size) (hl3 : d.size ≤ 3) (hl : Hid (decide (1 ≤ (d.size : Int) ∧ (d.size : Int) ≤ 3) = true)) (hbad : ¬ ∀ j, j < d.size → dgB (d.data.toList.getD j 0) = true) (w : World) :
    Calls Tryz.prog 52 #[.string s] w fun e w' => e = .returned (.tuple #[.int .i64 0, .bool false]) ∧ Below w.heap.size w w' := by
  have hq1 : decide ((20 : Int) < s.size) = false := by rw [decide_eq_false_iff_not]; omega
  have hq2 : decide ((0 : Int) < s.size) = true := by rw [decide_eq_true_eq]; omega
  go_enter Tryz.func52, Tryz.ntmps52
  go_wp2_with fail
  refine (specParts _ 46 _ (by omega)).mono ?_
  rintro e w1 ⟨v2, rfl, hown, hB⟩
  rw [HP.out] at hown
  obtain ⟨gg, cap, rfl⟩ := Joins.ownsRow_form hown (by simp)
  have q0 : w1.cell? ⟨gg, 0, none⟩ = some (.string a) := by have h := hown.cellAt 0 (by simp); simpa [strCells] using h
  have q1 : w1.cell? ⟨gg, 1, none⟩ = some (.string d) := by have h := hown.cellAt 1 (by simp); simpa [strCells] using h
  have HT := Lib.hid hB
  have lq := World.block_lt_of_cell? w1 _ q0
  clear hB hown
  go_wp2_with fail
  refine (specNumberE a _).mono ?_
  rintro e w2 ⟨rfl, hB2⟩
  rw [HN.out]
  replace q1 := cell_keep6 q1 hB2
  replace lq := World.block_lt_of_cell? w2 _ q1
  replace HT := Lib.hid (bt HT.out hB2)
  clear hB2 q0
  go_wp2_with fail
  refine (specIn6 _ 1 3 _).mono ?_
  rintro e w3 ⟨rfl, rfl⟩
  rw [hl.out]
  go_wp2_with fail
  go_loopw [2, 3, 8, 9, 10, 11] (fun _ _ n u i _ wr => wr = w3 ∧ ∃ (k : Nat) (F U : Int), k ≤ d.size ∧ i = .int .i64 k ∧ u = .int .i64 U ∧ U = unitV k ∧ n = .int .i64 (1000 * n0 + F) ∧ F = fA d.data.toList k ∧ ∀ j, j < k → dgB (d.data.toList.getD j 0) = true) (fun _ _ _ _ i _ _ => d.size - (intOf i).toNat)
  case atStart => exact ⟨rfl, 0, 0, 100, by omega, rfl, rfl, rfl, by simp, rfl, fun j hj => by omega⟩
  case round =>
    obtain ⟨rfl, k, F, U, hk0, rfl, rfl, hU, rfl, hF, hj⟩ := hrel
    have hFb := fA_le hj (by omega)
    rw [← hF] at hFb
    by_cases hlt : k < d.size
    · rcases (by omega : k = 0 ∨ k = 1 ∨ k = 2) with rfl | rfl | rfl
      · have hU2 : U = 100 := hU
        clear hU
        subst hU2
        have hu0 : (0 : Int) ≤ (d[0].toNat : Int) := by omega
        have hu1 : (d[0].toNat : Int) ≤ 255 := by have := UInt8.toNat_lt d[0]; omega
        have hw1 : IntKind.i64.wrap (d[0].toNat : Int) = (d[0].toNat : Int) := by rw [IntKind.wrap_i64]; omega
        obtain ⟨x, hx⟩ : ∃ x : Int, (d[0].toNat : Int) - 48 = x := ⟨_, rfl⟩
        have hw2 : IntKind.i64.wrap ((d[0].toNat : Int) - 48) = x := by rw [IntKind.wrap_i64]; omega
        have hxv : dV (d.data.toList.getD 0 0) = x := by
          rw [← hx, dV, getD_atN hlt]
        by_cases hd : 0 ≤ x ∧ x ≤ 9
        · have hj2 : ∀ j, j < 0 + 1 → dgB (d.data.toList.getD j 0) = true := by
            intro j hjj
            by_cases hjk : j < 0
            · exact hj j hjk
            · obtain rfl : j = 0 := by omega
              rw [dgB, hxv]
              exact decide_eq_true hd
          have HJ := Lib.hid hj2
          have HF : Hid (F + 100 * x = fA d.data.toList (0 + 1)) := Lib.hid (by rw [fA, ← hF, hxv]; rfl)
          have hdd : decide ((0 : Int) ≤ x ∧ x ≤ 9) = true := decide_eq_true hd
          clear hj2 hj hF hxv hx
          go_wp2_with fail
          refine (specIn6 _ 0 9 _).mono ?_
          rintro e w4 ⟨rfl, rfl⟩
          rw [hdd]
          go_wp2_with fail
          go_round
          case rel => exact ⟨by trivial, 0 + 1, F + 100 * x, 10, by omega, by go_num, by go_num, rfl, by go_num, HF.out, HJ.out⟩
          case measure => simp [intOf]; omega
        · have hdd : decide ((0 : Int) ≤ x ∧ x ≤ 9) = false := decide_eq_false hd
          clear hj hF hxv hx
          go_wp2_with fail
          refine (specIn6 _ 0 9 _).mono ?_
          rintro e w4 ⟨rfl, rfl⟩
          rw [hdd]
          go_wp2_with fail
          go_ret2
          exact ⟨rfl, HT.out⟩
      · have hU2 : U = 10 := hU
        clear hU
        subst hU2
        have hu0 : (0 : Int) ≤ (d[1].toNat : Int) := by omega
        have hu1 : (d[1].toNat : Int) ≤ 255 := by have := UInt8.toNat_lt d[1]; omega
        have hw1 : IntKind.i64.wrap (d[1].toNat : Int) = (d[1].toNat : Int) := by rw [IntKind.wrap_i64]; omega
        obtain ⟨x, hx⟩ : ∃ x : Int, (d[1].toNat : Int) - 48 = x := ⟨_, rfl⟩
        have hw2 : IntKind.i64.wrap ((d[1].toNat : Int) - 48) = x := by rw [IntKind.wrap_i64]; omega
        have hxv : dV (d.data.toList.getD 1 0) = x := by
          rw [← hx, dV, getD_atN hlt]
        by_cases hd : 0 ≤ x ∧ x ≤ 9
        · have hj2 : ∀ j, j < 1 + 1 → dgB (d.data.toList.getD j 0) = true := by
            intro j hjj
            by_cases hjk : j < 1
            · exact hj j hjk
            · obtain rfl : j = 1 := by omega
              rw [dgB, hxv]
              exact decide_eq_true hd
          have HJ := Lib.hid hj2
          have HF : Hid (F + 10 * x = fA d.data.toList (1 + 1)) := Lib.hid (by rw [fA, ← hF, hxv]; rfl)
          have hdd : decide ((0 : Int) ≤ x ∧ x ≤ 9) = true := decide_eq_true hd
          clear hj2 hj hF hxv hx
          go_wp2_with fail
          refine (specIn6 _ 0 9 _).mono ?_
          rintro e w4 ⟨rfl, rfl⟩
          rw [hdd]
          go_wp2_with fail
          go_round
          case rel => exact ⟨by trivial, 1 + 1, F + 10 * x, 1, by omega, by go_num, by go_num, rfl, by go_num, HF.out, HJ.out⟩
          case measure => simp [intOf]; omega
        · have hdd : decide ((0 : Int) ≤ x ∧ x ≤ 9) = false := decide_eq_false hd
          clear hj hF hxv hx
          go_wp2_with fail
          refine (specIn6 _ 0 9 _).mono ?_
          rintro e w4 ⟨rfl, rfl⟩
          rw [hdd]
          go_wp2_with fail
          go_ret2
          exact ⟨rfl, HT.out⟩
      · have hU2 : U = 1 := hU
        clear hU
        subst hU2
        have hu0 : (0 : Int) ≤ (d[2].toNat : Int) := by omega
        have hu1 : (d[2].toNat : Int) ≤ 255 := by have := UInt8.toNat_lt d[2]; omega
        have hw1 : IntKind.i64.wrap (d[2].toNat : Int) = (d[2].toNat : Int) := by rw [IntKind.wrap_i64]; omega
        obtain ⟨x, hx⟩ : ∃ x : Int, (d[2].toNat : Int) - 48 = x := ⟨_, rfl⟩
        have hw2 : IntKind.i64.wrap ((d[2].toNat : Int) - 48) = x := by rw [IntKind.wrap_i64]; omega
        have hxv : dV (d.data.toList.getD 2 0) = x := by
          rw [← hx, dV, getD_atN hlt]
        by_cases hd : 0 ≤ x ∧ x ≤ 9
        · have hj2 : ∀ j, j < 2 + 1 → dgB (d.data.toList.getD j 0) = true := by
            intro j hjj
            by_cases hjk : j < 2
            · exact hj j hjk
            · obtain rfl : j = 2 := by omega
              rw [dgB, hxv]
              exact decide_eq_true hd
          have HJ := Lib.hid hj2
          have HF : Hid (F + 1 * x = fA d.data.toList (2 + 1)) := Lib.hid (by rw [fA, ← hF, hxv]; rfl)
          have hdd : decide ((0 : Int) ≤ x ∧ x ≤ 9) = true := decide_eq_true hd
          clear hj2 hj hF hxv hx
          go_wp2_with fail
          refine (specIn6 _ 0 9 _).mono ?_
          rintro e w4 ⟨rfl, rfl⟩
          rw [hdd]
          go_wp2_with fail
          go_round
          case rel => exact ⟨by trivial, 2 + 1, F + 1 * x, 0, by omega, by go_num, by go_num, rfl, by go_num, HF.out, HJ.out⟩
          case measure => simp [intOf]; omega
        · have hdd : decide ((0 : Int) ≤ x ∧ x ≤ 9) = false := decide_eq_false hd
          clear hj hF hxv hx
          go_wp2_with fail
          refine (specIn6 _ 0 9 _).mono ?_
          rintro e w4 ⟨rfl, rfl⟩
          rw [hdd]
          go_wp2_with fail
          go_ret2
          exact ⟨rfl, HT.out⟩
    · obtain rfl : k = d.size := by omega
      clear hlt
      exact absurd hj hbad
set_option maxRecDepth 100000 in
set_option maxHeartbeats 1000000 in
theorem specRead6_plain_two_true (s : ByteArray) (hs : s.size ≤ 20) (h0 : 0 < s.size) (h45 : ((s[0].toNat : Int) == 45) = false) (a d : ByteArray) (HP : Hid (partsL 46 s.data.toList = [a.data.toList, d.data.toList])) (n0 : Int) (l0 : 0 ≤ n0) (l1 : n0 ≤ 999999999) (HN : Hid (numE a.data.toList = .returned (.tuple #[.int .i64 n0, .bool true]))) (hl0 : 1 ≤ d.size) (hl3 : d.size ≤ 3) (hl : Hid (decide (1 ≤ (d.size : Int) ∧ (d.size : Int) ≤ 3) = true)) (hall : ∀ j, j < d.size → dgB (d.data.toList.getD j 0) = true) (hk : Hid (decide (-2147483647 ≤ 1000 * n0 + fA d.data.toList d.size ∧ 1000 * n0 + fA d.data.toList d.size ≤ 2147483647) = true)) (w : World) :
    Calls Tryz.prog 52 #[.string s] w fun e w' => e = .returned (.tuple #[.int .i64 (1000 * n0 + fA d.data.toList d.size), .bool true]) ∧ Below w.heap.size w w' := by
  have hq1 : decide ((20 : Int) < s.size) = false := by rw [decide_eq_false_iff_not]; omega
  have hq2 : decide ((0 : Int) < s.size) = true := by rw [decide_eq_true_eq]; omega
  go_enter Tryz.func52, Tryz.ntmps52
  go_wp2_with fail
  refine (specParts _ 46 _ (by omega)).mono ?_
  rintro e w1 ⟨v2, rfl, hown, hB⟩
  rw [HP.out] at hown
  obtain ⟨gg, cap, rfl⟩ := Joins.ownsRow_form hown (by simp)
  have q0 : w1.cell? ⟨gg, 0, none⟩ = some (.string a) := by have h := hown.cellAt 0 (by simp); simpa [strCells] using h
  have q1 : w1.cell? ⟨gg, 1, none⟩ = some (.string d) := by have h := hown.cellAt 1 (by simp); simpa [strCells] using h
  have HT := Lib.hid hB
  have lq := World.block_lt_of_cell? w1 _ q0
  clear hB hown
  go_wp2_with fail
  refine (specNumberE a _).mono ?_
  rintro e w2 ⟨rfl, hB2⟩
  rw [HN.out]
  replace q1 := cell_keep6 q1 hB2
  replace lq := World.block_lt_of_cell? w2 _ q1
  replace HT := Lib.hid (bt HT.out hB2)
  clear hB2 q0
  go_wp2_with fail
  refine (specIn6 _ 1 3 _).mono ?_
  rintro e w3 ⟨rfl, rfl⟩
  rw [hl.out]
  go_wp2_with fail
  go_loopw [2, 3, 8, 9, 10, 11] (fun _ _ n u i _ wr => wr = w3 ∧ ∃ (k : Nat) (F U : Int), k ≤ d.size ∧ i = .int .i64 k ∧ u = .int .i64 U ∧ U = unitV k ∧ n = .int .i64 (1000 * n0 + F) ∧ F = fA d.data.toList k ∧ ∀ j, j < k → dgB (d.data.toList.getD j 0) = true) (fun _ _ _ _ i _ _ => d.size - (intOf i).toNat)
  case atStart => exact ⟨rfl, 0, 0, 100, by omega, rfl, rfl, rfl, by simp, rfl, fun j hj => by omega⟩
  case round =>
    obtain ⟨rfl, k, F, U, hk0, rfl, rfl, hU, rfl, hF, hj⟩ := hrel
    have hFb := fA_le hj (by omega)
    rw [← hF] at hFb
    by_cases hlt : k < d.size
    · rcases (by omega : k = 0 ∨ k = 1 ∨ k = 2) with rfl | rfl | rfl
      · have hU2 : U = 100 := hU
        clear hU
        subst hU2
        have hu0 : (0 : Int) ≤ (d[0].toNat : Int) := by omega
        have hu1 : (d[0].toNat : Int) ≤ 255 := by have := UInt8.toNat_lt d[0]; omega
        have hw1 : IntKind.i64.wrap (d[0].toNat : Int) = (d[0].toNat : Int) := by rw [IntKind.wrap_i64]; omega
        obtain ⟨x, hx⟩ : ∃ x : Int, (d[0].toNat : Int) - 48 = x := ⟨_, rfl⟩
        have hw2 : IntKind.i64.wrap ((d[0].toNat : Int) - 48) = x := by rw [IntKind.wrap_i64]; omega
        have hxv : dV (d.data.toList.getD 0 0) = x := by
          rw [← hx, dV, getD_atN hlt]
        by_cases hd : 0 ≤ x ∧ x ≤ 9
        · have hj2 : ∀ j, j < 0 + 1 → dgB (d.data.toList.getD j 0) = true := by
            intro j hjj
            by_cases hjk : j < 0
            · exact hj j hjk
            · obtain rfl : j = 0 := by omega
              rw [dgB, hxv]
              exact decide_eq_true hd
          have HJ := Lib.hid hj2
          have HF : Hid (F + 100 * x = fA d.data.toList (0 + 1)) := Lib.hid (by rw [fA, ← hF, hxv]; rfl)
          have hdd : decide ((0 : Int) ≤ x ∧ x ≤ 9) = true := decide_eq_true hd
          clear hj2 hj hF hxv hx
          go_wp2_with fail
          refine (specIn6 _ 0 9 _).mono ?_
          rintro e w4 ⟨rfl, rfl⟩
          rw [hdd]
          go_wp2_with fail
          go_round
          case rel => exact ⟨by trivial, 0 + 1, F + 100 * x, 10, by omega, by go_num, by go_num, rfl, by go_num, HF.out, HJ.out⟩
          case measure => simp [intOf]; omega
        · exfalso
          have := hall 0 hlt
          rw [dgB, hxv] at this
          exact hd (of_decide_eq_true this)
      · have hU2 : U = 10 := hU
        clear hU
        subst hU2
        have hu0 : (0 : Int) ≤ (d[1].toNat : Int) := by omega
        have hu1 : (d[1].toNat : Int) ≤ 255 := by have := UInt8.toNat_lt d[1]; omega
        have hw1 : IntKind.i64.wrap (d[1].toNat : Int) = (d[1].toNat : Int) := by rw [IntKind.wrap_i64]; omega
        obtain ⟨x, hx⟩ : ∃ x : Int, (d[1].toNat : Int) - 48 = x := ⟨_, rfl⟩
        have hw2 : IntKind.i64.wrap ((d[1].toNat : Int) - 48) = x := by rw [IntKind.wrap_i64]; omega
        have hxv : dV (d.data.toList.getD 1 0) = x := by
          rw [← hx, dV, getD_atN hlt]
        by_cases hd : 0 ≤ x ∧ x ≤ 9
        · have hj2 : ∀ j, j < 1 + 1 → dgB (d.data.toList.getD j 0) = true := by
            intro j hjj
            by_cases hjk : j < 1
            · exact hj j hjk
            · obtain rfl : j = 1 := by omega
              rw [dgB, hxv]
              exact decide_eq_true hd
          have HJ := Lib.hid hj2
          have HF : Hid (F + 10 * x = fA d.data.toList (1 + 1)) := Lib.hid (by rw [fA, ← hF, hxv]; rfl)
          have hdd : decide ((0 : Int) ≤ x ∧ x ≤ 9) = true := decide_eq_true hd
          clear hj2 hj hF hxv hx
          go_wp2_with fail
          refine (specIn6 _ 0 9 _).mono ?_
          rintro e w4 ⟨rfl, rfl⟩
          rw [hdd]
          go_wp2_with fail
          go_round
          case rel => exact ⟨by trivial, 1 + 1, F + 10 * x, 1, by omega, by go_num, by go_num, rfl, by go_num, HF.out, HJ.out⟩
          case measure => simp [intOf]; omega
        · exfalso
          have := hall 1 hlt
          rw [dgB, hxv] at this
          exact hd (of_decide_eq_true this)
      · have hU2 : U = 1 := hU
        clear hU
        subst hU2
        have hu0 : (0 : Int) ≤ (d[2].toNat : Int) := by omega
        have hu1 : (d[2].toNat : Int) ≤ 255 := by have := UInt8.toNat_lt d[2]; omega
        have hw1 : IntKind.i64.wrap (d[2].toNat : Int) = (d[2].toNat : Int) := by rw [IntKind.wrap_i64]; omega
        obtain ⟨x, hx⟩ : ∃ x : Int, (d[2].toNat : Int) - 48 = x := ⟨_, rfl⟩
        have hw2 : IntKind.i64.wrap ((d[2].toNat : Int) - 48) = x := by rw [IntKind.wrap_i64]; omega
        have hxv : dV (d.data.toList.getD 2 0) = x := by
          rw [← hx, dV, getD_atN hlt]
        by_cases hd : 0 ≤ x ∧ x ≤ 9
        · have hj2 : ∀ j, j < 2 + 1 → dgB (d.data.toList.getD j 0) = true := by
            intro j hjj
            by_cases hjk : j < 2
            · exact hj j hjk
            · obtain rfl : j = 2 := by omega
              rw [dgB, hxv]
              exact decide_eq_true hd
          have HJ := Lib.hid hj2
          have HF : Hid (F + 1 * x = fA d.data.toList (2 + 1)) := Lib.hid (by rw [fA, ← hF, hxv]; rfl)
          have hdd : decide ((0 : Int) ≤ x ∧ x ≤ 9) = true := decide_eq_true hd
          clear hj2 hj hF hxv hx
          go_wp2_with fail
          refine (specIn6 _ 0 9 _).mono ?_
          rintro e w4 ⟨rfl, rfl⟩
          rw [hdd]
          go_wp2_with fail
          go_round
          case rel => exact ⟨by trivial, 2 + 1, F + 1 * x, 0, by omega, by go_num, by go_num, rfl, by go_num, HF.out, HJ.out⟩
          case measure => simp [intOf]; omega
        · exfalso
          have := hall 2 hlt
          rw [dgB, hxv] at this
          exact hd (of_decide_eq_true this)
    · obtain rfl : k = d.size := by omega
      clear hlt
      subst hF
      have hk1 : decide (((d.size : Nat) : Int) < d.size) = false := by simp
      go_wp2_with fail
      refine (specValue6 _ _).mono ?_
      rintro e w4 ⟨rfl, rfl⟩
      rw [hk.out]
      go_wp2_with fail
      go_ret2
      exact ⟨rfl, HT.out⟩
set_option maxRecDepth 100000 in
set_option maxHeartbeats 1000000 in
theorem specRead6_plain_two_false (s : ByteArray) (hs : s.size ≤ 20) (h0 : 0 < s.size) (h45 : ((s[0].toNat : Int) == 45) = false) (a d : ByteArray) (HP : Hid (partsL 46 s.data.toList = [a.data.toList, d.data.toList])) (n0 : Int) (l0 : 0 ≤ n0) (l1 : n0 ≤ 999999999) (HN : Hid (numE a.data.toList = .returned (.tuple #[.int .i64 n0, .bool true]))) (hl0 : 1 ≤ d.size) (hl3 : d.size ≤ 3) (hl : Hid (decide (1 ≤ (d.size : Int) ∧ (d.size : Int) ≤ 3) = true)) (hall : ∀ j, j < d.size → dgB (d.data.toList.getD j 0) = true) (hk : Hid (decide (-2147483647 ≤ 1000 * n0 + fA d.data.toList d.size ∧ 1000 * n0 + fA d.data.toList d.size ≤ 2147483647) = false)) (w : World) :
    Calls Tryz.prog 52 #[.string s] w fun e w' => e = .returned (.tuple #[.int .i64 0, .bool false]) ∧ Below w.heap.size w w' := by
  have hq1 : decide ((20 : Int) < s.size) = false := by rw [decide_eq_false_iff_not]; omega
  have hq2 : decide ((0 : Int) < s.size) = true := by rw [decide_eq_true_eq]; omega
  go_enter Tryz.func52, Tryz.ntmps52
  go_wp2_with fail
  refine (specParts _ 46 _ (by omega)).mono ?_
  rintro e w1 ⟨v2, rfl, hown, hB⟩
  rw [HP.out] at hown
  obtain ⟨gg, cap, rfl⟩ := Joins.ownsRow_form hown (by simp)
  have q0 : w1.cell? ⟨gg, 0, none⟩ = some (.string a) := by have h := hown.cellAt 0 (by simp); simpa [strCells] using h
  have q1 : w1.cell? ⟨gg, 1, none⟩ = some (.string d) := by have h := hown.cellAt 1 (by simp); simpa [strCells] using h
  have HT := Lib.hid hB
  have lq := World.block_lt_of_cell? w1 _ q0
  clear hB hown
  go_wp2_with fail
  refine (specNumberE a _).mono ?_
  rintro e w2 ⟨rfl, hB2⟩
  rw [HN.out]
  replace q1 := cell_keep6 q1 hB2
  replace lq := World.block_lt_of_cell? w2 _ q1
  replace HT := Lib.hid (bt HT.out hB2)
  clear hB2 q0
  go_wp2_with fail
  refine (specIn6 _ 1 3 _).mono ?_
  rintro e w3 ⟨rfl, rfl⟩
  rw [hl.out]
  go_wp2_with fail
  go_loopw [2, 3, 8, 9, 10, 11] (fun _ _ n u i _ wr => wr = w3 ∧ ∃ (k : Nat) (F U : Int), k ≤ d.size ∧ i = .int .i64 k ∧ u = .int .i64 U ∧ U = unitV k ∧ n = .int .i64 (1000 * n0 + F) ∧ F = fA d.data.toList k ∧ ∀ j, j < k → dgB (d.data.toList.getD j 0) = true) (fun _ _ _ _ i _ _ => d.size - (intOf i).toNat)
  case atStart => exact ⟨rfl, 0, 0, 100, by omega, rfl, rfl, rfl, by simp, rfl, fun j hj => by omega⟩
  case round =>
    obtain ⟨rfl, k, F, U, hk0, rfl, rfl, hU, rfl, hF, hj⟩ := hrel
    have hFb := fA_le hj (by omega)
    rw [← hF] at hFb
    by_cases hlt : k < d.size
    · rcases (by omega : k = 0 ∨ k = 1 ∨ k = 2) with rfl | rfl | rfl
      · have hU2 : U = 100 := hU
        clear hU
        subst hU2
        have hu0 : (0 : Int) ≤ (d[0].toNat : Int) := by omega
        have hu1 : (d[0].toNat : Int) ≤ 255 := by have := UInt8.toNat_lt d[0]; omega
        have hw1 : IntKind.i64.wrap (d[0].toNat : Int) = (d[0].toNat : Int) := by rw [IntKind.wrap_i64]; omega
        obtain ⟨x, hx⟩ : ∃ x : Int, (d[0].toNat : Int) - 48 = x := ⟨_, rfl⟩
        have hw2 : IntKind.i64.wrap ((d[0].toNat : Int) - 48) = x := by rw [IntKind.wrap_i64]; omega
        have hxv : dV (d.data.toList.getD 0 0) = x := by
          rw [← hx, dV, getD_atN hlt]
        by_cases hd : 0 ≤ x ∧ x ≤ 9
        · have hj2 : ∀ j, j < 0 + 1 → dgB (d.data.toList.getD j 0) = true := by
            intro j hjj
            by_cases hjk : j < 0
            · exact hj j hjk
            · obtain rfl : j = 0 := by omega
              rw [dgB, hxv]
              exact decide_eq_true hd
          have HJ := Lib.hid hj2
          have HF : Hid (F + 100 * x = fA d.data.toList (0 + 1)) := Lib.hid (by rw [fA, ← hF, hxv]; rfl)
          have hdd : decide ((0 : Int) ≤ x ∧ x ≤ 9) = true := decide_eq_true hd
          clear hj2 hj hF hxv hx
          go_wp2_with fail
          refine (specIn6 _ 0 9 _).mono ?_
          rintro e w4 ⟨rfl, rfl⟩
          rw [hdd]
          go_wp2_with fail
          go_round
          case rel => exact ⟨by trivial, 0 + 1, F + 100 * x, 10, by omega, by go_num, by go_num, rfl, by go_num, HF.out, HJ.out⟩
          case measure => simp [intOf]; omega
        · exfalso
          have := hall 0 hlt
          rw [dgB, hxv] at this
          exact hd (of_decide_eq_true this)
      · have hU2 : U = 10 := hU
        clear hU
        subst hU2
        have hu0 : (0 : Int) ≤ (d[1].toNat : Int) := by omega
        have hu1 : (d[1].toNat : Int) ≤ 255 := by have := UInt8.toNat_lt d[1]; omega
        have hw1 : IntKind.i64.wrap (d[1].toNat : Int) = (d[1].toNat : Int) := by rw [IntKind.wrap_i64]; omega
        obtain ⟨x, hx⟩ : ∃ x : Int, (d[1].toNat : Int) - 48 = x := ⟨_, rfl⟩
        have hw2 : IntKind.i64.wrap ((d[1].toNat : Int) - 48) = x := by rw [IntKind.wrap_i64]; omega
        have hxv : dV (d.data.toList.getD 1 0) = x := by
          rw [← hx, dV, getD_atN hlt]
        by_cases hd : 0 ≤ x ∧ x ≤ 9
        · have hj2 : ∀ j, j < 1 + 1 → dgB (d.data.toList.getD j 0) = true := by
            intro j hjj
            by_cases hjk : j < 1
            · exact hj j hjk
            · obtain rfl : j = 1 := by omega
              rw [dgB, hxv]
              exact decide_eq_true hd
          have HJ := Lib.hid hj2
          have HF : Hid (F + 10 * x = fA d.data.toList (1 + 1)) := Lib.hid (by rw [fA, ← hF, hxv]; rfl)
          have hdd : decide ((0 : Int) ≤ x ∧ x ≤ 9) = true := decide_eq_true hd
          clear hj2 hj hF hxv hx
          go_wp2_with fail
          refine (specIn6 _ 0 9 _).mono ?_
          rintro e w4 ⟨rfl, rfl⟩
          rw [hdd]
          go_wp2_with fail
          go_round
          case rel => exact ⟨by trivial, 1 + 1, F + 10 * x, 1, by omega, by go_num, by go_num, rfl, by go_num, HF.out, HJ.out⟩
          case measure => simp [intOf]; omega
        · exfalso
          have := hall 1 hlt
          rw [dgB, hxv] at this
          exact hd (of_decide_eq_true this)
      · have hU2 : U = 1 := hU
        clear hU
        subst hU2
        have hu0 : (0 : Int) ≤ (d[2].toNat : Int) := by omega
        have hu1 : (d[2].toNat : Int) ≤ 255 := by have := UInt8.toNat_lt d[2]; omega
        have hw1 : IntKind.i64.wrap (d[2].toNat : Int) = (d[2].toNat : Int) := by rw [IntKind.wrap_i64]; omega
        obtain ⟨x, hx⟩ : ∃ x : Int, (d[2].toNat : Int) - 48 = x := ⟨_, rfl⟩
        have hw2 : IntKind.i64.wrap ((d[2].toNat : Int) - 48) = x := by rw [IntKind.wrap_i64]; omega
        have hxv : dV (d.data.toList.getD 2 0) = x := by
          rw [← hx, dV, getD_atN hlt]
        by_cases hd : 0 ≤ x ∧ x ≤ 9
        · have hj2 : ∀ j, j < 2 + 1 → dgB (d.data.toList.getD j 0) = true := by
            intro j hjj
            by_cases hjk : j < 2
            · exact hj j hjk
            · obtain rfl : j = 2 := by omega
              rw [dgB, hxv]
              exact decide_eq_true hd
          have HJ := Lib.hid hj2
          have HF : Hid (F + 1 * x = fA d.data.toList (2 + 1)) := Lib.hid (by rw [fA, ← hF, hxv]; rfl)
          have hdd : decide ((0 : Int) ≤ x ∧ x ≤ 9) = true := decide_eq_true hd
          clear hj2 hj hF hxv hx
          go_wp2_with fail
          refine (specIn6 _ 0 9 _).mono ?_
          rintro e w4 ⟨rfl, rfl⟩
          rw [hdd]
          go_wp2_with fail
          go_round
          case rel => exact ⟨by trivial, 2 + 1, F + 1 * x, 0, by omega, by go_num, by go_num, rfl, by go_num, HF.out, HJ.out⟩
          case measure => simp [intOf]; omega
        · exfalso
          have := hall 2 hlt
          rw [dgB, hxv] at this
          exact hd (of_decide_eq_true this)
    · obtain rfl : k = d.size := by omega
      clear hlt
      subst hF
      have hk1 : decide (((d.size : Nat) : Int) < d.size) = false := by simp
      go_wp2_with fail
      refine (specValue6 _ _).mono ?_
      rintro e w4 ⟨rfl, rfl⟩
      rw [hk.out]
      go_wp2_with fail
      go_ret2
      exact ⟨rfl, HT.out⟩
set_option maxRecDepth 100000 in
set_option maxHeartbeats 1000000 in
theorem specRead6_neg_num (s : ByteArray) (hs : s.size ≤ 20) (h0 : 0 < s.size) (h45 : ((s[0].toNat : Int) == 45) = true) (a : ByteArray) (rest : List (List UInt8)) (HP : Hid (partsL 46 (s.extract 1 s.size).data.toList = a.data.toList :: rest)) (HN : Hid (numE a.data.toList = .returned (.tuple #[.int .i64 0, .bool false]))) (w : World) :
    Calls Tryz.prog 52 #[.string s] w fun e w' => e = .returned (.tuple #[.int .i64 0, .bool false]) ∧ Below w.heap.size w w' := by
  have hq1 : decide ((20 : Int) < s.size) = false := by rw [decide_eq_false_iff_not]; omega
  have hq2 : decide ((0 : Int) < s.size) = true := by rw [decide_eq_true_eq]; omega
  have hx1 : (1 : Int) ≤ s.size := by omega
  go_enter Tryz.func52, Tryz.ntmps52
  go_wp2_with fail
  refine (specParts _ 46 _ (by rw [ByteArray.size_extract]; omega)).mono ?_
  rintro e w1 ⟨v2, rfl, hown, hB⟩
  rw [HP.out] at hown
  obtain ⟨gg, cap, rfl⟩ := Joins.ownsRow_form hown (by simp)
  have q0 : w1.cell? ⟨gg, 0, none⟩ = some (.string a) := by have h := hown.cellAt 0 (by simp); simpa [strCells] using h
  have HT := Lib.hid hB
  have lq := World.block_lt_of_cell? w1 _ q0
  clear hB hown
  go_wp2_with fail
  refine (specNumberE a _).mono ?_
  rintro e w2 ⟨rfl, hB2⟩
  rw [HN.out]
  replace HT := Lib.hid (bt HT.out hB2)
  clear hB2 q0 lq
  go_wp2_with fail
  go_ret2
  exact ⟨rfl, HT.out⟩
set_option maxRecDepth 100000 in
set_option maxHeartbeats 1000000 in
theorem specRead6_neg_many (s : ByteArray) (hs : s.size ≤ 20) (h0 : 0 < s.size) (h45 : ((s[0].toNat : Int) == 45) = true) (a : ByteArray) (x y : List UInt8) (rest : List (List UInt8)) (HP : Hid (partsL 46 (s.extract 1 s.size).data.toList = a.data.toList :: x :: y :: rest)) (n0 : Int) (_l0 : 0 ≤ n0) (_l1 : n0 ≤ 999999999) (HN : Hid (numE a.data.toList = .returned (.tuple #[.int .i64 n0, .bool true]))) (w : World) :
    Calls Tryz.prog 52 #[.string s] w fun e w' => e = .returned (.tuple #[.int .i64 0, .bool false]) ∧ Below w.heap.size w w' := by
  have hq3 : decide ((2 : Int) < (rest.length : Int) + 1 + 1 + 1) = true := by rw [decide_eq_true_eq]; omega
  have hq1 : decide ((20 : Int) < s.size) = false := by rw [decide_eq_false_iff_not]; omega
  have hq2 : decide ((0 : Int) < s.size) = true := by rw [decide_eq_true_eq]; omega
  have hx1 : (1 : Int) ≤ s.size := by omega
  go_enter Tryz.func52, Tryz.ntmps52
  go_wp2_with fail
  refine (specParts _ 46 _ (by rw [ByteArray.size_extract]; omega)).mono ?_
  rintro e w1 ⟨v2, rfl, hown, hB⟩
  rw [HP.out] at hown
  obtain ⟨gg, cap, rfl⟩ := Joins.ownsRow_form hown (by simp)
  have q0 : w1.cell? ⟨gg, 0, none⟩ = some (.string a) := by have h := hown.cellAt 0 (by simp); simpa [strCells] using h
  have HT := Lib.hid hB
  have lq := World.block_lt_of_cell? w1 _ q0
  clear hB hown
  go_wp2_with fail
  refine (specNumberE a _).mono ?_
  rintro e w2 ⟨rfl, hB2⟩
  rw [HN.out]
  replace HT := Lib.hid (bt HT.out hB2)
  clear hB2 q0 lq
  go_wp2_with fail
  go_ret2
  exact ⟨rfl, HT.out⟩
set_option maxRecDepth 100000 in
set_option maxHeartbeats 1000000 in
theorem specRead6_neg_one_true (s : ByteArray) (hs : s.size ≤ 20) (h0 : 0 < s.size) (h45 : ((s[0].toNat : Int) == 45) = true) (a : ByteArray) (HP : Hid (partsL 46 (s.extract 1 s.size).data.toList = [a.data.toList])) (n0 : Int) (l0 : 0 ≤ n0) (l1 : n0 ≤ 999999999) (HN : Hid (numE a.data.toList = .returned (.tuple #[.int .i64 n0, .bool true]))) (hk : Hid (decide (-2147483647 ≤ -(1000 * n0) ∧ -(1000 * n0) ≤ 2147483647) = true)) (w : World) :
    Calls Tryz.prog 52 #[.string s] w fun e w' => e = .returned (.tuple #[.int .i64 (-(1000 * n0)), .bool true]) ∧ Below w.heap.size w w' := by
  have hq1 : decide ((20 : Int) < s.size) = false := by rw [decide_eq_false_iff_not]; omega
  have hq2 : decide ((0 : Int) < s.size) = true := by rw [decide_eq_true_eq]; omega
  have hx1 : (1 : Int) ≤ s.size := by omega
  go_enter Tryz.func52, Tryz.ntmps52
  go_wp2_with fail
  refine (specParts _ 46 _ (by rw [ByteArray.size_extract]; omega)).mono ?_
  rintro e w1 ⟨v2, rfl, hown, hB⟩
  rw [HP.out] at hown
  obtain ⟨gg, cap, rfl⟩ := Joins.ownsRow_form hown (by simp)
  have q0 : w1.cell? ⟨gg, 0, none⟩ = some (.string a) := by have h := hown.cellAt 0 (by simp); simpa [strCells] using h
  have HT := Lib.hid hB
  have lq := World.block_lt_of_cell? w1 _ q0
  clear hB hown
  go_wp2_with fail
  refine (specNumberE a _).mono ?_
  rintro e w2 ⟨rfl, hB2⟩
  rw [HN.out]
  replace HT := Lib.hid (bt HT.out hB2)
  clear hB2 q0 lq
  go_wp2_with fail
  refine (specValue6 _ _).mono ?_
  rintro e w3 ⟨rfl, rfl⟩
  rw [hk.out]
  go_wp2_with fail
  go_ret2
  exact ⟨rfl, HT.out⟩
set_option maxRecDepth 100000 in
set_option maxHeartbeats 1000000 in
theorem specRead6_neg_one_false (s : ByteArray) (hs : s.size ≤ 20) (h0 : 0 < s.size) (h45 : ((s[0].toNat : Int) == 45) = true) (a : ByteArray) (HP : Hid (partsL 46 (s.extract 1 s.size).data.toList = [a.data.toList])) (n0 : Int) (l0 : 0 ≤ n0) (l1 : n0 ≤ 999999999) (HN : Hid (numE a.data.toList = .returned (.tuple #[.int .i64 n0, .bool true]))) (hk : Hid (decide (-2147483647 ≤ -(1000 * n0) ∧ -(1000 * n0) ≤ 2147483647) = false)) (w : World) :
    Calls Tryz.prog 52 #[.string s] w fun e w' => e = .returned (.tuple #[.int .i64 0, .bool false]) ∧ Below w.heap.size w w' := by
  have hq1 : decide ((20 : Int) < s.size) = false := by rw [decide_eq_false_iff_not]; omega
  have hq2 : decide ((0 : Int) < s.size) = true := by rw [decide_eq_true_eq]; omega
  have hx1 : (1 : Int) ≤ s.size := by omega
  go_enter Tryz.func52, Tryz.ntmps52
  go_wp2_with fail
  refine (specParts _ 46 _ (by rw [ByteArray.size_extract]; omega)).mono ?_
  rintro e w1 ⟨v2, rfl, hown, hB⟩
  rw [HP.out] at hown
  obtain ⟨gg, cap, rfl⟩ := Joins.ownsRow_form hown (by simp)
  have q0 : w1.cell? ⟨gg, 0, none⟩ = some (.string a) := by have h := hown.cellAt 0 (by simp); simpa [strCells] using h
  have HT := Lib.hid hB
  have lq := World.block_lt_of_cell? w1 _ q0
  clear hB hown
  go_wp2_with fail
  refine (specNumberE a _).mono ?_
  rintro e w2 ⟨rfl, hB2⟩
  rw [HN.out]
  replace HT := Lib.hid (bt HT.out hB2)
  clear hB2 q0 lq
  go_wp2_with fail
  refine (specValue6 _ _).mono ?_
  rintro e w3 ⟨rfl, rfl⟩
  rw [hk.out]
  go_wp2_with fail
  go_ret2
  exact ⟨rfl, HT.out⟩
set_option maxRecDepth 100000 in
set_option maxHeartbeats 1000000 in
theorem specRead6_neg_len (s : ByteArray) (hs : s.size ≤ 20) (h0 : 0 < s.size) (h45 : ((s[0].toNat : Int) == 45) = true) (a d : ByteArray) (HP : Hid (partsL 46 (s.extract 1 s.size).data.toList = [a.data.toList, d.data.toList])) (n0 : Int) (l0 : 0 ≤ n0) (l1 : n0 ≤ 999999999) (HN : Hid (numE a.data.toList = .returned (.tuple #[.int .i64 n0, .bool true]))) (hk : Hid (decide (1 ≤ (d.size : Int) ∧ (d.size : Int) ≤ 3) = false)) (w : World) :
    Calls Tryz.prog 52 #[.string s] w fun e w' => e = .returned (.tuple #[.int .i64 0, .bool false]) ∧ Below w.heap.size w w' := by
  have hq1 : decide ((20 : Int) < s.size) = false := by rw [decide_eq_false_iff_not]; omega
  have hq2 : decide ((0 : Int) < s.size) = true := by rw [decide_eq_true_eq]; omega
  have hx1 : (1 : Int) ≤ s.size := by omega
  go_enter Tryz.func52, Tryz.ntmps52
  go_wp2_with fail
  refine (specParts _ 46 _ (by rw [ByteArray.size_extract]; omega)).mono ?_
  rintro e w1 ⟨v2, rfl, hown, hB⟩
  rw [HP.out] at hown
  obtain ⟨gg, cap, rfl⟩ := Joins.ownsRow_form hown (by simp)
  have q0 : w1.cell? ⟨gg, 0, none⟩ = some (.string a) := by have h := hown.cellAt 0 (by simp); simpa [strCells] using h
  have q1 : w1.cell? ⟨gg, 1, none⟩ = some (.string d) := by have h := hown.cellAt 1 (by simp); simpa [strCells] using h
  have HT := Lib.hid hB
  have lq := World.block_lt_of_cell? w1 _ q0
  clear hB hown
  go_wp2_with fail
  refine (specNumberE a _).mono ?_
  rintro e w2 ⟨rfl, hB2⟩
  rw [HN.out]
  replace q1 := cell_keep6 q1 hB2
  replace lq := World.block_lt_of_cell? w2 _ q1
  replace HT := Lib.hid (bt HT.out hB2)
  clear hB2 q0
  go_wp2_with fail
  refine (specIn6 _ 1 3 _).mono ?_
  rintro e w3 ⟨rfl, rfl⟩
  rw [hk.out]
  go_wp2_with fail
  go_ret2
  exact ⟨rfl, HT.out⟩
set_option maxRecDepth 100000 in
set_option maxHeartbeats 1000000 in
theorem specRead6_neg_bad (s : ByteArray) (hs : s.size ≤ 20) (h0 : 0 < s.size) (h45 : ((s[0].toNat : Int) == 45) = true) (a d : ByteArray) (HP : Hid (partsL 46 (s.extract 1 s.size).data.toList = [a.data.toList, d.data.toList])) (n0 : Int) (l0 : 0 ≤ n0) (l1 : n0 ≤ 999999999) (HN : Hid (numE a.data.toList = .returned (.tuple #[.int .i64 n0, .bool true]))) (hl0 : 1 ≤ d.size) (hl3 : d.size ≤ 3) (hl : Hid (decide (1 ≤ (d.size : Int) ∧ (d.size : Int) ≤ 3) = true)) (hbad : ¬ ∀ j, j < d.size → dgB (d.data.toList.getD j 0) = true) (w : World) :
    Calls Tryz.prog 52 #[.string s] w fun e w' => e = .returned (.tuple #[.int .i64 0, .bool false]) ∧ Below w.heap.size w w' := by
  have hq1 : decide ((20 : Int) < s.size) = false := by rw [decide_eq_false_iff_not]; omega
  have hq2 : decide ((0 : Int) < s.size) = true := by rw [decide_eq_true_eq]; omega
  have hx1 : (1 : Int) ≤ s.size := by omega
  go_enter Tryz.func52, Tryz.ntmps52
  go_wp2_with fail
  refine (specParts _ 46 _ (by rw [ByteArray.size_extract]; omega)).mono ?_
  rintro e w1 ⟨v2, rfl, hown, hB⟩
  rw [HP.out] at hown
  obtain ⟨gg, cap, rfl⟩ := Joins.ownsRow_form hown (by simp)
  have q0 : w1.cell? ⟨gg, 0, none⟩ = some (.string a) := by have h := hown.cellAt 0 (by simp); simpa [strCells] using h
  have q1 : w1.cell? ⟨gg, 1, none⟩ = some (.string d) := by have h := hown.cellAt 1 (by simp); simpa [strCells] using h
  have HT := Lib.hid hB
  have lq := World.block_lt_of_cell? w1 _ q0
  clear hB hown
  go_wp2_with fail
  refine (specNumberE a _).mono ?_
  rintro e w2 ⟨rfl, hB2⟩
  rw [HN.out]
  replace q1 := cell_keep6 q1 hB2
  replace lq := World.block_lt_of_cell? w2 _ q1
  replace HT := Lib.hid (bt HT.out hB2)
  clear hB2 q0
  go_wp2_with fail
  refine (specIn6 _ 1 3 _).mono ?_
  rintro e w3 ⟨rfl, rfl⟩
  rw [hl.out]
  go_wp2_with fail
  go_loopw [2, 3, 8, 9, 10, 11] (fun _ _ n u i _ wr => wr = w3 ∧ ∃ (k : Nat) (F U : Int), k ≤ d.size ∧ i = .int .i64 k ∧ u = .int .i64 U ∧ U = unitV k ∧ n = .int .i64 (1000 * n0 + F) ∧ F = fA d.data.toList k ∧ ∀ j, j < k → dgB (d.data.toList.getD j 0) = true) (fun _ _ _ _ i _ _ => d.size - (intOf i).toNat)
  case atStart => exact ⟨rfl, 0, 0, 100, by omega, rfl, rfl, rfl, by simp, rfl, fun j hj => by omega⟩
  case round =>
    obtain ⟨rfl, k, F, U, hk0, rfl, rfl, hU, rfl, hF, hj⟩ := hrel
    have hFb := fA_le hj (by omega)
    rw [← hF] at hFb
    by_cases hlt : k < d.size
    · rcases (by omega : k = 0 ∨ k = 1 ∨ k = 2) with rfl | rfl | rfl
      · have hU2 : U = 100 := hU
        clear hU
        subst hU2
        have hu0 : (0 : Int) ≤ (d[0].toNat : Int) := by omega
        have hu1 : (d[0].toNat : Int) ≤ 255 := by have := UInt8.toNat_lt d[0]; omega
        have hw1 : IntKind.i64.wrap (d[0].toNat : Int) = (d[0].toNat : Int) := by rw [IntKind.wrap_i64]; omega
        obtain ⟨x, hx⟩ : ∃ x : Int, (d[0].toNat : Int) - 48 = x := ⟨_, rfl⟩
        have hw2 : IntKind.i64.wrap ((d[0].toNat : Int) - 48) = x := by rw [IntKind.wrap_i64]; omega
        have hxv : dV (d.data.toList.getD 0 0) = x := by
          rw [← hx, dV, getD_atN hlt]
        by_cases hd : 0 ≤ x ∧ x ≤ 9
        · have hj2 : ∀ j, j < 0 + 1 → dgB (d.data.toList.getD j 0) = true := by
            intro j hjj
            by_cases hjk : j < 0
            · exact hj j hjk
            · obtain rfl : j = 0 := by omega
              rw [dgB, hxv]
              exact decide_eq_true hd
          have HJ := Lib.hid hj2
          have HF : Hid (F + 100 * x = fA d.data.toList (0 + 1)) := Lib.hid (by rw [fA, ← hF, hxv]; rfl)
          have hdd : decide ((0 : Int) ≤ x ∧ x ≤ 9) = true := decide_eq_true hd
          clear hj2 hj hF hxv hx
          go_wp2_with fail
          refine (specIn6 _ 0 9 _).mono ?_
          rintro e w4 ⟨rfl, rfl⟩
          rw [hdd]
          go_wp2_with fail
          go_round
          case rel => exact ⟨by trivial, 0 + 1, F + 100 * x, 10, by omega, by go_num, by go_num, rfl, by go_num, HF.out, HJ.out⟩
          case measure => simp [intOf]; omega
        · have hdd : decide ((0 : Int) ≤ x ∧ x ≤ 9) = false := decide_eq_false hd
          clear hj hF hxv hx
          go_wp2_with fail
          refine (specIn6 _ 0 9 _).mono ?_
          rintro e w4 ⟨rfl, rfl⟩
          rw [hdd]
          go_wp2_with fail
          go_ret2
          exact ⟨rfl, HT.out⟩
      · have hU2 : U = 10 := hU
        clear hU
        subst hU2
        have hu0 : (0 : Int) ≤ (d[1].toNat : Int) := by omega
        have hu1 : (d[1].toNat : Int) ≤ 255 := by have := UInt8.toNat_lt d[1]; omega
        have hw1 : IntKind.i64.wrap (d[1].toNat : Int) = (d[1].toNat : Int) := by rw [IntKind.wrap_i64]; omega
        obtain ⟨x, hx⟩ : ∃ x : Int, (d[1].toNat : Int) - 48 = x := ⟨_, rfl⟩
        have hw2 : IntKind.i64.wrap ((d[1].toNat : Int) - 48) = x := by rw [IntKind.wrap_i64]; omega
        have hxv : dV (d.data.toList.getD 1 0) = x := by
          rw [← hx, dV, getD_atN hlt]
        by_cases hd : 0 ≤ x ∧ x ≤ 9
        · have hj2 : ∀ j, j < 1 + 1 → dgB (d.data.toList.getD j 0) = true := by
            intro j hjj
            by_cases hjk : j < 1
            · exact hj j hjk
            · obtain rfl : j = 1 := by omega
              rw [dgB, hxv]
              exact decide_eq_true hd
          have HJ := Lib.hid hj2
          have HF : Hid (F + 10 * x = fA d.data.toList (1 + 1)) := Lib.hid (by rw [fA, ← hF, hxv]; rfl)
          have hdd : decide ((0 : Int) ≤ x ∧ x ≤ 9) = true := decide_eq_true hd
          clear hj2 hj hF hxv hx
          go_wp2_with fail
          refine (specIn6 _ 0 9 _).mono ?_
          rintro e w4 ⟨rfl, rfl⟩
          rw [hdd]
          go_wp2_with fail
          go_round
          case rel => exact ⟨by trivial, 1 + 1, F + 10 * x, 1, by omega, by go_num, by go_num, rfl, by go_num, HF.out, HJ.out⟩
          case measure => simp [intOf]; omega
        · have hdd : decide ((0 : Int) ≤ x ∧ x ≤ 9) = false := decide_eq_false hd
          clear hj hF hxv hx
          go_wp2_with fail
          refine (specIn6 _ 0 9 _).mono ?_
          rintro e w4 ⟨rfl, rfl⟩
          rw [hdd]
          go_wp2_with fail
          go_ret2
          exact ⟨rfl, HT.out⟩
      · have hU2 : U = 1 := hU
        clear hU
        subst hU2
        have hu0 : (0 : Int) ≤ (d[2].toNat : Int) := by omega
        have hu1 : (d[2].toNat : Int) ≤ 255 := by have := UInt8.toNat_lt d[2]; omega
        have hw1 : IntKind.i64.wrap (d[2].toNat : Int) = (d[2].toNat : Int) := by rw [IntKind.wrap_i64]; omega
        obtain ⟨x, hx⟩ : ∃ x : Int, (d[2].toNat : Int) - 48 = x := ⟨_, rfl⟩
        have hw2 : IntKind.i64.wrap ((d[2].toNat : Int) - 48) = x := by rw [IntKind.wrap_i64]; omega
        have hxv : dV (d.data.toList.getD 2 0) = x := by
          rw [← hx, dV, getD_atN hlt]
        by_cases hd : 0 ≤ x ∧ x ≤ 9
        · have hj2 : ∀ j, j < 2 + 1 → dgB (d.data.toList.getD j 0) = true := by
            intro j hjj
            by_cases hjk : j < 2
            · exact hj j hjk
            · obtain rfl : j = 2 := by omega
              rw [dgB, hxv]
              exact decide_eq_true hd
          have HJ := Lib.hid hj2
          have HF : Hid (F + 1 * x = fA d.data.toList (2 + 1)) := Lib.hid (by rw [fA, ← hF, hxv]; rfl)
          have hdd : decide ((0 : Int) ≤ x ∧ x ≤ 9) = true := decide_eq_true hd
          clear hj2 hj hF hxv hx
          go_wp2_with fail
          refine (specIn6 _ 0 9 _).mono ?_
          rintro e w4 ⟨rfl, rfl⟩
          rw [hdd]
          go_wp2_with fail
          go_round
          case rel => exact ⟨by trivial, 2 + 1, F + 1 * x, 0, by omega, by go_num, by go_num, rfl, by go_num, HF.out, HJ.out⟩
          case measure => simp [intOf]; omega
        · have hdd : decide ((0 : Int) ≤ x ∧ x ≤ 9) = false := decide_eq_false hd
          clear hj hF hxv hx
          go_wp2_with fail
          refine (specIn6 _ 0 9 _).mono ?_
          rintro e w4 ⟨rfl, rfl⟩
          rw [hdd]
          go_wp2_with fail
          go_ret2
          exact ⟨rfl, HT.out⟩
    · obtain rfl : k = d.size := by omega
      clear hlt
      exact absurd hj hbad
set_option maxRecDepth 100000 in
set_option maxHeartbeats 1000000 in
theorem specRead6_neg_two_true (s : ByteArray) (hs : s.size ≤ 20) (h0 : 0 < s.size) (h45 : ((s[0].toNat : Int) == 45) = true) (a d : ByteArray) (HP : Hid (partsL 46 (s.extract 1 s.size).data.toList = [a.data.toList, d.data.toList])) (n0 : Int) (l0 : 0 ≤ n0) (l1 : n0 ≤ 999999999) (HN : Hid (numE a.data.toList = .returned (.tuple #[.int .i64 n0, .bool true]))) (hl0 : 1 ≤ d.size) (hl3 : d.size ≤ 3) (hl : Hid (decide (1 ≤ (d.size : Int) ∧ (d.size : Int) ≤ 3) = true)) (hall : ∀ j, j < d.size → dgB (d.data.toList.getD j 0) = true) (hk : Hid (decide (-2147483647 ≤ -(1000 * n0 + fA d.data.toList d.size) ∧ -(1000 * n0 + fA d.data.toList d.size) ≤ 2147483647) = true)) (w : World) :
    Calls Tryz.prog 52 #[.string s] w fun e w' => e = .returned (.tuple #[.int .i64 (-(1000 * n0 + fA d.data.toList d.size)), .bool true]) ∧ Below w.heap.size w w' := by
  have hq1 : decide ((20 : Int) < s.size) = false := by rw [decide_eq_false_iff_not]; omega
  have hq2 : decide ((0 : Int) < s.size) = true := by rw [decide_eq_true_eq]; omega
  have hx1 : (1 : Int) ≤ s.size := by omega
  go_enter Tryz.func52, Tryz.ntmps52
  go_wp2_with fail
  refine (specParts _ 46 _ (by rw [ByteArray.size_extract]; omega)).mono ?_
  rintro e w1 ⟨v2, rfl, hown, hB⟩
  rw [HP.out] at hown
  obtain ⟨gg, cap, rfl⟩ := Joins.ownsRow_form hown (by simp)
  have q0 : w1.cell? ⟨gg, 0, none⟩ = some (.string a) := by have h := hown.cellAt 0 (by simp); simpa [strCells] using h
  have q1 : w1.cell? ⟨gg, 1, none⟩ = some (.string d) := by have h := hown.cellAt 1 (by simp); simpa [strCells] using h
  have HT := Lib.hid hB
  have lq := World.block_lt_of_cell? w1 _ q0
  clear hB hown
  go_wp2_with fail
  refine (specNumberE a _).mono ?_
  rintro e w2 ⟨rfl, hB2⟩
  rw [HN.out]
  replace q1 := cell_keep6 q1 hB2
  replace lq := World.block_lt_of_cell? w2 _ q1
  replace HT := Lib.hid (bt HT.out hB2)
  clear hB2 q0
  go_wp2_with fail
  refine (specIn6 _ 1 3 _).mono ?_
  rintro e w3 ⟨rfl, rfl⟩
  rw [hl.out]
  go_wp2_with fail
  go_loopw [2, 3, 8, 9, 10, 11] (fun _ _ n u i _ wr => wr = w3 ∧ ∃ (k : Nat) (F U : Int), k ≤ d.size ∧ i = .int .i64 k ∧ u = .int .i64 U ∧ U = unitV k ∧ n = .int .i64 (1000 * n0 + F) ∧ F = fA d.data.toList k ∧ ∀ j, j < k → dgB (d.data.toList.getD j 0) = true) (fun _ _ _ _ i _ _ => d.size - (intOf i).toNat)
  case atStart => exact ⟨rfl, 0, 0, 100, by omega, rfl, rfl, rfl, by simp, rfl, fun j hj => by omega⟩
  case round =>
    obtain ⟨rfl, k, F, U, hk0, rfl, rfl, hU, rfl, hF, hj⟩ := hrel
    have hFb := fA_le hj (by omega)
    rw [← hF] at hFb
    by_cases hlt : k < d.size
    · rcases (by omega : k = 0 ∨ k = 1 ∨ k = 2) with rfl | rfl | rfl
      · have hU2 : U = 100 := hU
        clear hU
        subst hU2
        have hu0 : (0 : Int) ≤ (d[0].toNat : Int) := by omega
        have hu1 : (d[0].toNat : Int) ≤ 255 := by have := UInt8.toNat_lt d[0]; omega
        have hw1 : IntKind.i64.wrap (d[0].toNat : Int) = (d[0].toNat : Int) := by rw [IntKind.wrap_i64]; omega
        obtain ⟨x, hx⟩ : ∃ x : Int, (d[0].toNat : Int) - 48 = x := ⟨_, rfl⟩
        have hw2 : IntKind.i64.wrap ((d[0].toNat : Int) - 48) = x := by rw [IntKind.wrap_i64]; omega
        have hxv : dV (d.data.toList.getD 0 0) = x := by
          rw [← hx, dV, getD_atN hlt]
        by_cases hd : 0 ≤ x ∧ x ≤ 9
        · have hj2 : ∀ j, j < 0 + 1 → dgB (d.data.toList.getD j 0) = true := by
            intro j hjj
            by_cases hjk : j < 0
            · exact hj j hjk
            · obtain rfl : j = 0 := by omega
              rw [dgB, hxv]
              exact decide_eq_true hd
          have HJ := Lib.hid hj2
          have HF : Hid (F + 100 * x = fA d.data.toList (0 + 1)) := Lib.hid (by rw [fA, ← hF, hxv]; rfl)
          have hdd : decide ((0 : Int) ≤ x ∧ x ≤ 9) = true := decide_eq_true hd
          clear hj2 hj hF hxv hx
          go_wp2_with fail
          refine (specIn6 _ 0 9 _).mono ?_
          rintro e w4 ⟨rfl, rfl⟩
          rw [hdd]
          go_wp2_with fail
          go_round
          case rel => exact ⟨by trivial, 0 + 1, F + 100 * x, 10, by omega, by go_num, by go_num, rfl, by go_num, HF.out, HJ.out⟩
          case measure => simp [intOf]; omega
        · exfalso
          have := hall 0 hlt
          rw [dgB, hxv] at this
          exact hd (of_decide_eq_true this)
      · have hU2 : U = 10 := hU
        clear hU
        subst hU2
        have hu0 : (0 : Int) ≤ (d[1].toNat : Int) := by omega
        have hu1 : (d[1].toNat : Int) ≤ 255 := by have := UInt8.toNat_lt d[1]; omega
        have hw1 : IntKind.i64.wrap (d[1].toNat : Int) = (d[1].toNat : Int) := by rw [IntKind.wrap_i64]; omega
        obtain ⟨x, hx⟩ : ∃ x : Int, (d[1].toNat : Int) - 48 = x := ⟨_, rfl⟩
        have hw2 : IntKind.i64.wrap ((d[1].toNat : Int) - 48) = x := by rw [IntKind.wrap_i64]; omega
        have hxv : dV (d.data.toList.getD 1 0) = x := by
          rw [← hx, dV, getD_atN hlt]
        by_cases hd : 0 ≤ x ∧ x ≤ 9
        · have hj2 : ∀ j, j < 1 + 1 → dgB (d.data.toList.getD j 0) = true := by
            intro j hjj
            by_cases hjk : j < 1
            · exact hj j hjk
            · obtain rfl : j = 1 := by omega
              rw [dgB, hxv]
              exact decide_eq_true hd
          have HJ := Lib.hid hj2
          have HF : Hid (F + 10 * x = fA d.data.toList (1 + 1)) := Lib.hid (by rw [fA, ← hF, hxv]; rfl)
          have hdd : decide ((0 : Int) ≤ x ∧ x ≤ 9) = true := decide_eq_true hd
          clear hj2 hj hF hxv hx
          go_wp2_with fail
          refine (specIn6 _ 0 9 _).mono ?_
          rintro e w4 ⟨rfl, rfl⟩
          rw [hdd]
          go_wp2_with fail
          go_round
          case rel => exact ⟨by trivial, 1 + 1, F + 10 * x, 1, by omega, by go_num, by go_num, rfl, by go_num, HF.out, HJ.out⟩
          case measure => simp [intOf]; omega
        · exfalso
          have := hall 1 hlt
          rw [dgB, hxv] at this
          exact hd (of_decide_eq_true this)
      · have hU2 : U = 1 := hU
        clear hU
        subst hU2
        have hu0 : (0 : Int) ≤ (d[2].toNat : Int) := by omega
        have hu1 : (d[2].toNat : Int) ≤ 255 := by have := UInt8.toNat_lt d[2]; omega
        have hw1 : IntKind.i64.wrap (d[2].toNat : Int) = (d[2].toNat : Int) := by rw [IntKind.wrap_i64]; omega
        obtain ⟨x, hx⟩ : ∃ x : Int, (d[2].toNat : Int) - 48 = x := ⟨_, rfl⟩
        have hw2 : IntKind.i64.wrap ((d[2].toNat : Int) - 48) = x := by rw [IntKind.wrap_i64]; omega
        have hxv : dV (d.data.toList.getD 2 0) = x := by
          rw [← hx, dV, getD_atN hlt]
        by_cases hd : 0 ≤ x ∧ x ≤ 9
        · have hj2 : ∀ j, j < 2 + 1 → dgB (d.data.toList.getD j 0) = true := by
            intro j hjj
            by_cases hjk : j < 2
            · exact hj j hjk
            · obtain rfl : j = 2 := by omega
              rw [dgB, hxv]
              exact decide_eq_true hd
          have HJ := Lib.hid hj2
          have HF : Hid (F + 1 * x = fA d.data.toList (2 + 1)) := Lib.hid (by rw [fA, ← hF, hxv]; rfl)
          have hdd : decide ((0 : Int) ≤ x ∧ x ≤ 9) = true := decide_eq_true hd
          clear hj2 hj hF hxv hx
          go_wp2_with fail
          refine (specIn6 _ 0 9 _).mono ?_
          rintro e w4 ⟨rfl, rfl⟩
          rw [hdd]
          go_wp2_with fail
          go_round
          case rel => exact ⟨by trivial, 2 + 1, F + 1 * x, 0, by omega, by go_num, by go_num, rfl, by go_num, HF.out, HJ.out⟩
          case measure => simp [intOf]; omega
        · exfalso
          have := hall 2 hlt
          rw [dgB, hxv] at this
          exact hd (of_decide_eq_true this)
    · obtain rfl : k = d.size := by omega
      clear hlt
      subst hF
      have hk1 : decide (((d.size : Nat) : Int) < d.size) = false := by simp
      go_wp2_with fail
      refine (specValue6 _ _).mono ?_
      rintro e w4 ⟨rfl, rfl⟩
      rw [hk.out]
      go_wp2_with fail
      go_ret2
      exact ⟨rfl, HT.out⟩
set_option maxRecDepth 100000 in
set_option maxHeartbeats 1000000 in
theorem specRead6_neg_two_false (s : ByteArray) (hs : s.size ≤ 20) (h0 : 0 < s.size) (h45 : ((s[0].toNat : Int) == 45) = true) (a d : ByteArray) (HP : Hid (partsL 46 (s.extract 1 s.size).data.toList = [a.data.toList, d.data.toList])) (n0 : Int) (l0 : 0 ≤ n0) (l1 : n0 ≤ 999999999) (HN : Hid (numE a.data.toList = .returned (.tuple #[.int .i64 n0, .bool true]))) (hl0 : 1 ≤ d.size) (hl3 : d.size ≤ 3) (hl : Hid (decide (1 ≤ (d.size : Int) ∧ (d.size : Int) ≤ 3) = true)) (hall : ∀ j, j < d.size → dgB (d.data.toList.getD j 0) = true) (hk : Hid (decide (-2147483647 ≤ -(1000 * n0 + fA d.data.toList d.size) ∧ -(1000 * n0 + fA d.data.toList d.size) ≤ 2147483647) = false)) (w : World) :
    Calls Tryz.prog 52 #[.string s] w fun e w' => e = .returned (.tuple #[.int .i64 0, .bool false]) ∧ Below w.heap.size w w' := by
  have hq1 : decide ((20 : Int) < s.size) = false := by rw [decide_eq_false_iff_not]; omega
  have hq2 : decide ((0 : Int) < s.size) = true := by rw [decide_eq_true_eq]; omega
  have hx1 : (1 : Int) ≤ s.size := by omega
  go_enter Tryz.func52, Tryz.ntmps52
  go_wp2_with fail
  refine (specParts _ 46 _ (by rw [ByteArray.size_extract]; omega)).mono ?_
  rintro e w1 ⟨v2, rfl, hown, hB⟩
  rw [HP.out] at hown
  obtain ⟨gg, cap, rfl⟩ := Joins.ownsRow_form hown (by simp)
  have q0 : w1.cell? ⟨gg, 0, none⟩ = some (.string a) := by have h := hown.cellAt 0 (by simp); simpa [strCells] using h
  have q1 : w1.cell? ⟨gg, 1, none⟩ = some (.string d) := by have h := hown.cellAt 1 (by simp); simpa [strCells] using h
  have HT := Lib.hid hB
  have lq := World.block_lt_of_cell? w1 _ q0
  clear hB hown
  go_wp2_with fail
  refine (specNumberE a _).mono ?_
  rintro e w2 ⟨rfl, hB2⟩
  rw [HN.out]
  replace q1 := cell_keep6 q1 hB2
  replace lq := World.block_lt_of_cell? w2 _ q1
  replace HT := Lib.hid (bt HT.out hB2)
  clear hB2 q0
  go_wp2_with fail
  refine (specIn6 _ 1 3 _).mono ?_
  rintro e w3 ⟨rfl, rfl⟩
  rw [hl.out]
  go_wp2_with fail
  go_loopw [2, 3, 8, 9, 10, 11] (fun _ _ n u i _ wr => wr = w3 ∧ ∃ (k : Nat) (F U : Int), k ≤ d.size ∧ i = .int .i64 k ∧ u = .int .i64 U ∧ U = unitV k ∧ n = .int .i64 (1000 * n0 + F) ∧ F = fA d.data.toList k ∧ ∀ j, j < k → dgB (d.data.toList.getD j 0) = true) (fun _ _ _ _ i _ _ => d.size - (intOf i).toNat)
  case atStart => exact ⟨rfl, 0, 0, 100, by omega, rfl, rfl, rfl, by simp, rfl, fun j hj => by omega⟩
  case round =>
    obtain ⟨rfl, k, F, U, hk0, rfl, rfl, hU, rfl, hF, hj⟩ := hrel
    have hFb := fA_le hj (by omega)
    rw [← hF] at hFb
    by_cases hlt : k < d.size
    · rcases (by omega : k = 0 ∨ k = 1 ∨ k = 2) with rfl | rfl | rfl
      · have hU2 : U = 100 := hU
        clear hU
        subst hU2
        have hu0 : (0 : Int) ≤ (d[0].toNat : Int) := by omega
        have hu1 : (d[0].toNat : Int) ≤ 255 := by have := UInt8.toNat_lt d[0]; omega
        have hw1 : IntKind.i64.wrap (d[0].toNat : Int) = (d[0].toNat : Int) := by rw [IntKind.wrap_i64]; omega
        obtain ⟨x, hx⟩ : ∃ x : Int, (d[0].toNat : Int) - 48 = x := ⟨_, rfl⟩
        have hw2 : IntKind.i64.wrap ((d[0].toNat : Int) - 48) = x := by rw [IntKind.wrap_i64]; omega
        have hxv : dV (d.data.toList.getD 0 0) = x := by
          rw [← hx, dV, getD_atN hlt]
        by_cases hd : 0 ≤ x ∧ x ≤ 9
        · have hj2 : ∀ j, j < 0 + 1 → dgB (d.data.toList.getD j 0) = true := by
            intro j hjj
            by_cases hjk : j < 0
            · exact hj j hjk
            · obtain rfl : j = 0 := by omega
              rw [dgB, hxv]
              exact decide_eq_true hd
          have HJ := Lib.hid hj2
          have HF : Hid (F + 100 * x = fA d.data.toList (0 + 1)) := Lib.hid (by rw [fA, ← hF, hxv]; rfl)
          have hdd : decide ((0 : Int) ≤ x ∧ x ≤ 9) = true := decide_eq_true hd
          clear hj2 hj hF hxv hx
          go_wp2_with fail
          refine (specIn6 _ 0 9 _).mono ?_
          rintro e w4 ⟨rfl, rfl⟩
          rw [hdd]
          go_wp2_with fail
          go_round
          case rel => exact ⟨by trivial, 0 + 1, F + 100 * x, 10, by omega, by go_num, by go_num, rfl, by go_num, HF.out, HJ.out⟩
          case measure => simp [intOf]; omega
        · exfalso
          have := hall 0 hlt
          rw [dgB, hxv] at this
          exact hd (of_decide_eq_true this)
      · have hU2 : U = 10 := hU
        clear hU
        subst hU2
        have hu0 : (0 : Int) ≤ (d[1].toNat : Int) := by omega
        have hu1 : (d[1].toNat : Int) ≤ 255 := by have := UInt8.toNat_lt d[1]; omega
        have hw1 : IntKind.i64.wrap (d[1].toNat : Int) = (d[1].toNat : Int) := by rw [IntKind.wrap_i64]; omega
        obtain ⟨x, hx⟩ : ∃ x : Int, (d[1].toNat : Int) - 48 = x := ⟨_, rfl⟩
        have hw2 : IntKind.i64.wrap ((d[1].toNat : Int) - 48) = x := by rw [IntKind.wrap_i64]; omega
        have hxv : dV (d.data.toList.getD 1 0) = x := by
          rw [← hx, dV, getD_atN hlt]
        by_cases hd : 0 ≤ x ∧ x ≤ 9
        · have hj2 : ∀ j, j < 1 + 1 → dgB (d.data.toList.getD j 0) = true := by
            intro j hjj
            by_cases hjk : j < 1
            · exact hj j hjk
            · obtain rfl : j = 1 := by omega
              rw [dgB, hxv]
              exact decide_eq_true hd
          have HJ := Lib.hid hj2
          have HF : Hid (F + 10 * x = fA d.data.toList (1 + 1)) := Lib.hid (by rw [fA, ← hF, hxv]; rfl)
          have hdd : decide ((0 : Int) ≤ x ∧ x ≤ 9) = true := decide_eq_true hd
          clear hj2 hj hF hxv hx
          go_wp2_with fail
          refine (specIn6 _ 0 9 _).mono ?_
          rintro e w4 ⟨rfl, rfl⟩
          rw [hdd]
          go_wp2_with fail
          go_round
          case rel => exact ⟨by trivial, 1 + 1, F + 10 * x, 1, by omega, by go_num, by go_num, rfl, by go_num, HF.out, HJ.out⟩
          case measure => simp [intOf]; omega
        · exfalso
          have := hall 1 hlt
          rw [dgB, hxv] at this
          exact hd (of_decide_eq_true this)
      · have hU2 : U = 1 := hU
        clear hU
        subst hU2
        have hu0 : (0 : Int) ≤ (d[2].toNat : Int) := by omega
        have hu1 : (d[2].toNat : Int) ≤ 255 := by have := UInt8.toNat_lt d[2]; omega
        have hw1 : IntKind.i64.wrap (d[2].toNat : Int) = (d[2].toNat : Int) := by rw [IntKind.wrap_i64]; omega
        obtain ⟨x, hx⟩ : ∃ x : Int, (d[2].toNat : Int) - 48 = x := ⟨_, rfl⟩
        have hw2 : IntKind.i64.wrap ((d[2].toNat : Int) - 48) = x := by rw [IntKind.wrap_i64]; omega
        have hxv : dV (d.data.toList.getD 2 0) = x := by
          rw [← hx, dV, getD_atN hlt]
        by_cases hd : 0 ≤ x ∧ x ≤ 9
        · have hj2 : ∀ j, j < 2 + 1 → dgB (d.data.toList.getD j 0) = true := by
            intro j hjj
            by_cases hjk : j < 2
            · exact hj j hjk
            · obtain rfl : j = 2 := by omega
              rw [dgB, hxv]
              exact decide_eq_true hd
          have HJ := Lib.hid hj2
          have HF : Hid (F + 1 * x = fA d.data.toList (2 + 1)) := Lib.hid (by rw [fA, ← hF, hxv]; rfl)
          have hdd : decide ((0 : Int) ≤ x ∧ x ≤ 9) = true := decide_eq_true hd
          clear hj2 hj hF hxv hx
          go_wp2_with fail
          refine (specIn6 _ 0 9 _).mono ?_
          rintro e w4 ⟨rfl, rfl⟩
          rw [hdd]
          go_wp2_with fail
          go_round
          case rel => exact ⟨by trivial, 2 + 1, F + 1 * x, 0, by omega, by go_num, by go_num, rfl, by go_num, HF.out, HJ.out⟩
          case measure => simp [intOf]; omega
        · exfalso
          have := hall 2 hlt
          rw [dgB, hxv] at this
          exact hd (of_decide_eq_true this)
    · obtain rfl : k = d.size := by omega
      clear hlt
      subst hF
      have hk1 : decide (((d.size : Nat) : Int) < d.size) = false := by simp
      go_wp2_with fail
      refine (specValue6 _ _).mono ?_
      rintro e w4 ⟨rfl, rfl⟩
      rw [hk.out]
      go_wp2_with fail
      go_ret2
      exact ⟨rfl, HT.out⟩
set_option maxRecDepth 100000 in
set_option maxHeartbeats 1000000 in
theorem specRead6_long (s : ByteArray) (hs : 20 < s.size) (w : World) :
    Calls Tryz.prog 52 #[.string s] w fun e w' => e = .returned (.tuple #[.int .i64 0, .bool false]) ∧ Below w.heap.size w w' := by
  have hq1 : decide ((20 : Int) < s.size) = true := by rw [decide_eq_true_eq]; omega
  go_enter Tryz.func52, Tryz.ntmps52
  go_wp2_with fail
  go_ret2
  exact ⟨rfl, Below.refl _ _⟩
theorem all_dg (d : ByteArray) : d.data.toList.all dgB = true ↔ ∀ j, j < d.size → dgB (d.data.toList.getD j 0) = true := by
  rw [List.all_eq_true]
  constructor
  · intro h j hj
    rw [getD_atN hj]
    exact h _ (List.mem_of_getElem? (at_byte hj))
  · intro h x hx
    obtain ⟨j, hj, rfl⟩ := List.getElem_of_mem hx
    have hj2 : j < d.size := by rw [Lib.size_eq]; exact hj
    have := h j hj2
    rw [List.getD_eq_getElem?_getD, List.getElem?_eq_getElem hj] at this
    exact this
theorem frac_yes {d : ByteArray} (h0 : 1 ≤ d.size) (h1 : d.size ≤ 3) (h : ∀ j, j < d.size → dgB (d.data.toList.getD j 0) = true) : fracV d.data.toList = some (fA d.data.toList d.size) := by
  have e : d.data.toList.length = d.size := (Lib.size_eq d).symm
  rw [fracV, e, if_pos ⟨h0, h1, (all_dg d).mpr h⟩]
theorem frac_len {d : ByteArray} (h : ¬ (1 ≤ d.size ∧ d.size ≤ 3)) : fracV d.data.toList = none := by
  have e : d.data.toList.length = d.size := (Lib.size_eq d).symm
  rw [fracV, e, if_neg (fun k => h ⟨k.1, k.2.1⟩)]
theorem frac_bad {d : ByteArray} (h : ¬ ∀ j, j < d.size → dgB (d.data.toList.getD j 0) = true) : fracV d.data.toList = none := by
  rw [fracV, if_neg (fun k => h ((all_dg d).mp k.2.2))]
theorem body_num {a : List UInt8} {r : List (List UInt8)} (h : numV a = none) : bodyV (a :: r) = none := by
  match r with
  | [] => simp [bodyV, h]
  | [b] => simp [bodyV, h]
  | _ :: _ :: _ => rfl
theorem body_one {a : List UInt8} {n : Int} (h : numV a = some n) : bodyV [a] = some (1000 * n) := by simp [bodyV, h]
theorem body_two {a b : List UInt8} {n : Int} (h : numV a = some n) : bodyV [a, b] = (fracV b).map fun r => 1000 * n + r := by simp [bodyV, h]
theorem inV_yes {n : Int} (h : -2147483647 ≤ n ∧ n ≤ 2147483647) : inV n = some n := by rw [inV, if_pos h]
theorem inV_no {n : Int} (h : ¬ (-2147483647 ≤ n ∧ n ≤ 2147483647)) : inV n = none := by rw [inV, if_neg h]
theorem head_at {s : ByteArray} (h : 0 < s.size) : s.data.toList.head? = some s[0] := by
  rw [List.head?_eq_getElem?, at_byte h]
theorem tail_cut (s : ByteArray) : (s.extract 1 s.size).data.toList = s.data.toList.tail := by
  have e : s.data.toList.length = s.size := (Lib.size_eq s).symm
  rw [ByteArray.data_extract, Array.toList_extract, List.extract_eq_take_drop, List.drop_one, List.take_of_length_le]
  rw [List.length_tail, e]
  omega
theorem bytes_of (l : List UInt8) : ∃ a : ByteArray, a.data.toList = l := ⟨⟨l.toArray⟩, by simp⟩
theorem specRead6_plain (s : ByteArray) (hs : s.size ≤ 20) (h0 : 0 < s.size) (h45 : ((s[0].toNat : Int) == 45) = false) (w : World) :
    Calls Tryz.prog 52 #[.string s] w fun e w' => e = rfE s.data.toList ∧ Below w.heap.size w w' := by
  have hrd : rdV s.data.toList = (bodyV (partsL 46 s.data.toList)).bind inV := by
    rw [rdV, if_neg ?_]
    rw [head_at h0]
    intro k
    rw [Option.some.inj k] at h45
    simp at h45
  generalize hps : partsL 46 s.data.toList = ps at hrd
  have hpp := hps
  match ps with
  | [] =>
    have := parts_pos (c := 46) (s.data.toList)
    rw [hps] at this
    simp at this
  | la :: rest =>
    obtain ⟨a, rfl⟩ := bytes_of la
    cases hn : numV a.data.toList with
    | none =>
      rw [body_num hn] at hrd
      rw [rfE_none hrd]
      exact specRead6_plain_num s hs h0 h45 a rest (Lib.hid hpp) (Lib.hid (numE_none hn)) w
    | some n0 =>
      have hb := (numV_is hn).2
      have HN := Lib.hid (numE_some hn)
      match rest with
      | x :: y :: r =>
        rw [show bodyV (a.data.toList :: x :: y :: r) = none from rfl] at hrd
        rw [rfE_none hrd]
        exact specRead6_plain_many s hs h0 h45 a x y r (Lib.hid hpp) n0 hb.1 hb.2 HN w
      | [] =>
        rw [body_one hn, Option.bind_some] at hrd
        by_cases hr : -2147483647 ≤ 1000 * n0 ∧ 1000 * n0 ≤ 2147483647
        · rw [inV_yes hr] at hrd
          rw [rfE_some hrd]
          exact specRead6_plain_one_true s hs h0 h45 a (Lib.hid hpp) n0 hb.1 hb.2 HN (Lib.hid (decide_eq_true hr)) w
        · rw [inV_no hr] at hrd
          rw [rfE_none hrd]
          exact specRead6_plain_one_false s hs h0 h45 a (Lib.hid hpp) n0 hb.1 hb.2 HN (Lib.hid (decide_eq_false hr)) w
      | [lb] =>
        obtain ⟨d, rfl⟩ := bytes_of lb
        rw [body_two hn] at hrd
        by_cases hl : 1 ≤ d.size ∧ d.size ≤ 3
        · have HL : Hid (decide (1 ≤ (d.size : Int) ∧ (d.size : Int) ≤ 3) = true) := Lib.hid (decide_eq_true (by omega))
          by_cases ha : ∀ j, j < d.size → dgB (d.data.toList.getD j 0) = true
          · rw [frac_yes hl.1 hl.2 ha, Option.map_some, Option.bind_some] at hrd
            by_cases hr : -2147483647 ≤ 1000 * n0 + fA d.data.toList d.size ∧ 1000 * n0 + fA d.data.toList d.size ≤ 2147483647
            · rw [inV_yes hr] at hrd
              rw [rfE_some hrd]
              exact specRead6_plain_two_true s hs h0 h45 a d (Lib.hid hpp) n0 hb.1 hb.2 HN hl.1 hl.2 HL ha (Lib.hid (decide_eq_true hr)) w
            · rw [inV_no hr] at hrd
              rw [rfE_none hrd]
              exact specRead6_plain_two_false s hs h0 h45 a d (Lib.hid hpp) n0 hb.1 hb.2 HN hl.1 hl.2 HL ha (Lib.hid (decide_eq_false hr)) w
          · rw [frac_bad ha, Option.map_none, Option.bind_none] at hrd
            rw [rfE_none hrd]
            exact specRead6_plain_bad s hs h0 h45 a d (Lib.hid hpp) n0 hb.1 hb.2 HN hl.1 hl.2 HL ha w
        · rw [frac_len hl, Option.map_none, Option.bind_none] at hrd
          rw [rfE_none hrd]
          exact specRead6_plain_len s hs h0 h45 a d (Lib.hid hpp) n0 hb.1 hb.2 HN (Lib.hid (decide_eq_false (by omega))) w
theorem specRead6_neg (s : ByteArray) (hs : s.size ≤ 20) (h0 : 0 < s.size) (h45 : ((s[0].toNat : Int) == 45) = true) (w : World) :
    Calls Tryz.prog 52 #[.string s] w fun e w' => e = rfE s.data.toList ∧ Below w.heap.size w w' := by
  have hrd : rdV s.data.toList = (bodyV (partsL 46 s.data.toList.tail)).bind fun n => inV (-n) := by
    rw [rdV, if_pos ?_]
    rw [head_at h0]
    have h : s[0].toNat = 45 := by have := eq_of_beq h45; omega
    rw [show s[0] = 45 from UInt8.toNat_inj.mp h]
  have hpp : partsL 46 (s.extract 1 s.size).data.toList = partsL 46 s.data.toList.tail := by rw [tail_cut]
  generalize hps : partsL 46 s.data.toList.tail = ps at hrd hpp
  match ps with
  | [] =>
    have := parts_pos (c := 46) (s.data.toList.tail)
    rw [hps] at this
    simp at this
  | la :: rest =>
    obtain ⟨a, rfl⟩ := bytes_of la
    cases hn : numV a.data.toList with
    | none =>
      rw [body_num hn] at hrd
      rw [rfE_none hrd]
      exact specRead6_neg_num s hs h0 h45 a rest (Lib.hid hpp) (Lib.hid (numE_none hn)) w
    | some n0 =>
      have hb := (numV_is hn).2
      have HN := Lib.hid (numE_some hn)
      match rest with
      | x :: y :: r =>
        rw [show bodyV (a.data.toList :: x :: y :: r) = none from rfl] at hrd
        rw [rfE_none hrd]
        exact specRead6_neg_many s hs h0 h45 a x y r (Lib.hid hpp) n0 hb.1 hb.2 HN w
      | [] =>
        rw [body_one hn, Option.bind_some] at hrd
        by_cases hr : -2147483647 ≤ -(1000 * n0) ∧ -(1000 * n0) ≤ 2147483647
        · rw [inV_yes hr] at hrd
          rw [rfE_some hrd]
          exact specRead6_neg_one_true s hs h0 h45 a (Lib.hid hpp) n0 hb.1 hb.2 HN (Lib.hid (decide_eq_true hr)) w
        · rw [inV_no hr] at hrd
          rw [rfE_none hrd]
          exact specRead6_neg_one_false s hs h0 h45 a (Lib.hid hpp) n0 hb.1 hb.2 HN (Lib.hid (decide_eq_false hr)) w
      | [lb] =>
        obtain ⟨d, rfl⟩ := bytes_of lb
        rw [body_two hn] at hrd
        by_cases hl : 1 ≤ d.size ∧ d.size ≤ 3
        · have HL : Hid (decide (1 ≤ (d.size : Int) ∧ (d.size : Int) ≤ 3) = true) := Lib.hid (decide_eq_true (by omega))
          by_cases ha : ∀ j, j < d.size → dgB (d.data.toList.getD j 0) = true
          · rw [frac_yes hl.1 hl.2 ha, Option.map_some, Option.bind_some] at hrd
            by_cases hr : -2147483647 ≤ -(1000 * n0 + fA d.data.toList d.size) ∧ -(1000 * n0 + fA d.data.toList d.size) ≤ 2147483647
            · rw [inV_yes hr] at hrd
              rw [rfE_some hrd]
              exact specRead6_neg_two_true s hs h0 h45 a d (Lib.hid hpp) n0 hb.1 hb.2 HN hl.1 hl.2 HL ha (Lib.hid (decide_eq_true hr)) w
            · rw [inV_no hr] at hrd
              rw [rfE_none hrd]
              exact specRead6_neg_two_false s hs h0 h45 a d (Lib.hid hpp) n0 hb.1 hb.2 HN hl.1 hl.2 HL ha (Lib.hid (decide_eq_false hr)) w
          · rw [frac_bad ha, Option.map_none, Option.bind_none] at hrd
            rw [rfE_none hrd]
            exact specRead6_neg_bad s hs h0 h45 a d (Lib.hid hpp) n0 hb.1 hb.2 HN hl.1 hl.2 HL ha w
        · rw [frac_len hl, Option.map_none, Option.bind_none] at hrd
          rw [rfE_none hrd]
          exact specRead6_neg_len s hs h0 h45 a d (Lib.hid hpp) n0 hb.1 hb.2 HN (Lib.hid (decide_eq_false (by omega))) w
/-- THE DECIMAL THAT A TEXT STANDS FOR. -/
theorem specReadFix (s : ByteArray) (w : World) :
    Calls Tryz.prog 52 #[.string s] w fun e w' => e = rfE s.data.toList ∧ Below w.heap.size w w' := by
  have hl : s.data.toList.length = s.size := (Lib.size_eq s).symm
  by_cases hs : s.size ≤ 20
  · by_cases h0 : s.size = 0
    · have e : s.data.toList = [] := List.eq_nil_of_length_eq_zero (by omega)
      rw [e, rfE_none rd_nil]
      exact specRead6_empty_num s hs h0 ⟨#[]⟩ [] (Lib.hid (by rw [e]; rfl)) (Lib.hid (numE_none numV_nil)) w
    · cases h45 : ((s[0].toNat : Int) == 45) with
      | true => exact specRead6_neg s hs (by omega) h45 w
      | false => exact specRead6_plain s hs (by omega) h45 w
  · have hn : rdV s.data.toList = none := by
      cases h : rdV s.data.toList with
      | none => rfl
      | some n => have := rd_len h; omega
    rw [rfE_none hn]
    exact specRead6_long s (by omega) w
end Go.Proofs.YticeagjonfifbaaGreatDoor
