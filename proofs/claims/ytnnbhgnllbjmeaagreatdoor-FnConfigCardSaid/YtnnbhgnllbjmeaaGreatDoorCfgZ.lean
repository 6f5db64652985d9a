/-
  A rate, and what a line lays: the reference's way.
-/
import Derived.Test.YtnnbhgnllbjmeaaGreatDoorCfgY
namespace Go.Proofs.YtnnbhgnllbjmeaaGreatDoor
open Go.RowKit

/-- What reading a rate ends in. -/
noncomputable def rateE (l : List UInt8) : Ending := .returned (.tuple #[.int .i64 (rateV l).1, .int .i64 (rateV l).2.1, .int .i64 ((rateV l).2.2 : Nat)])
theorem rateE_of {l : List UInt8} {n d : Int} {c : Nat} {e : Ending} (h : rateV l = (n, d, c)) (he : e = .returned (.tuple #[.int .i64 n, .int .i64 d, .int .i64 (c : Nat)])) : e = rateE l := by rw [he, rateE, h]
theorem rateV_len {l : List UInt8} {ps : List (List UInt8)} (h : partsL 47 l = ps) (hn : ps.length ≠ 2) : rateV l = (0, 0, 12) := by
  unfold rateV
  rw [h]
  match ps, hn with
  | [], _ => rfl
  | [_], _ => rfl
  | [_, _], hn => exact absurd rfl hn
  | _ :: _ :: _ :: _, _ => rfl
theorem rateV_none1 {l a b : List UInt8} (h : partsL 47 l = [a, b]) (ha : numV a = none) : rateV l = (0, 0, 12) := by
  rw [rateV, h]
  simp only
  rw [ha]
theorem rateV_none2 {l a b : List UInt8} (h : partsL 47 l = [a, b]) (hb : numV b = none) : rateV l = (0, 0, 12) := by
  rw [rateV, h]
  simp only
  rw [hb]
  cases numV a <;> rfl
theorem rateV_out {l a b : List UInt8} {n d : Int} (h : partsL 47 l = [a, b]) (ha : numV a = some n) (hb : numV b = some d) (hc : ¬ (inZ n 1 1000 = true ∧ inZ d 1 1000 = true ∧ n ≤ d)) : rateV l = (0, 0, 13) := by
  rw [rateV, h]
  simp only
  rw [ha, hb]
  simp only
  rw [if_neg hc]
theorem rateV_in {l a b : List UInt8} {n d : Int} (h : partsL 47 l = [a, b]) (ha : numV a = some n) (hb : numV b = some d) (hc : inZ n 1 1000 = true ∧ inZ d 1 1000 = true ∧ n ≤ d) : rateV l = (n, d, 0) := by
  rw [rateV, h]
  simp only
  rw [ha, hb]
  simp only
  rw [if_pos hc]
set_option maxRecDepth 100000 in
set_option maxHeartbeats 1000000 in
theorem specRate_len (s : ByteArray) (hs : s.size ≤ 1048576) (ps : List (List UInt8)) (HP : Hid (partsL 47 s.data.toList = ps)) (hn : ((ps.length : Int) == 2) = false) (hp : 1 ≤ ps.length) (w : World) :
    Calls Tryz.prog 63 #[.string s] w fun e w' => e = .returned (.tuple #[.int .i64 0, .int .i64 0, .int .i64 12]) ∧ Below w.heap.size w w' := by
  go_enter Tryz.func63, Tryz.ntmps63
  go_wp2_with fail
  refine (specParts s 47 _ hs).mono ?_
  rintro e w1 ⟨v, rfl, hown1, hB1⟩
  rw [HP.out] at hown1
  obtain ⟨gg, cap, rfl⟩ := Joins.ownsRow_form hown1 hp
  go_wp2_with fail
  go_ret3
  exact ⟨rfl, hB1⟩
set_option maxRecDepth 100000 in
set_option maxHeartbeats 1000000 in
theorem specRate_nn (s : ByteArray) (hs : s.size ≤ 1048576) (a b : List UInt8) (HP : Hid (partsL 47 s.data.toList = [a, b]))  (HA : Hid (numE a = .returned (.tuple #[.int .i64 0, .bool false]))) (HB : Hid (numE b = .returned (.tuple #[.int .i64 0, .bool false]))) (w : World) :
    Calls Tryz.prog 63 #[.string s] w fun e w' => e = .returned (.tuple #[.int .i64 0, .int .i64 0, .int .i64 12]) ∧ Below w.heap.size w w' := by
  go_enter Tryz.func63, Tryz.ntmps63
  go_wp2_with fail
  refine (specParts s 47 _ hs).mono ?_
  rintro e w1 ⟨v, rfl, hown1, hB1⟩
  rw [HP.out] at hown1
  obtain ⟨gg, cap, rfl⟩ := Joins.ownsRow_form hown1 (by simp)
  have q0 : w1.cell? ⟨gg, 0, none⟩ = some (.string ⟨a.toArray⟩) := by have h := hown1.cellAt 0 (by simp); simpa [strCells] using h
  have q1 : w1.cell? ⟨gg, 1, none⟩ = some (.string ⟨b.toArray⟩) := by have h := hown1.cellAt 1 (by simp); simpa [strCells] using h
  have lq := World.block_lt_of_cell? w1 _ q0
  have HT := Lib.hid hB1
  clear hB1 hown1
  go_wp2_with fail
  refine (specNumberE _ _).mono ?_
  rintro e w2 ⟨rfl, hB2⟩
  rw [show (ByteArray.mk a.toArray).data.toList = a by simp, HA.out]
  replace q1 := cell_keep6 q1 hB2
  replace lq := World.block_lt_of_cell? w2 _ q1
  replace HT := Lib.hid (bt HT.out hB2)
  clear hB2 q0
  go_wp2_with fail
  refine (specNumberE _ _).mono ?_
  rintro e w3 ⟨rfl, hB3⟩
  rw [show (ByteArray.mk b.toArray).data.toList = b by simp, HB.out]
  replace HT := Lib.hid (bt HT.out hB3)
  clear hB3 q1 lq
  go_wp2_with fail
  go_ret3
  exact ⟨rfl, HT.out⟩
set_option maxRecDepth 100000 in
set_option maxHeartbeats 1000000 in
theorem specRate_ny (s : ByteArray) (hs : s.size ≤ 1048576) (a b : List UInt8) (HP : Hid (partsL 47 s.data.toList = [a, b])) (d : Int) (HA : Hid (numE a = .returned (.tuple #[.int .i64 0, .bool false]))) (HB : Hid (numE b = .returned (.tuple #[.int .i64 d, .bool true]))) (w : World) :
    Calls Tryz.prog 63 #[.string s] w fun e w' => e = .returned (.tuple #[.int .i64 0, .int .i64 0, .int .i64 12]) ∧ Below w.heap.size w w' := by
  go_enter Tryz.func63, Tryz.ntmps63
  go_wp2_with fail
  refine (specParts s 47 _ hs).mono ?_
  rintro e w1 ⟨v, rfl, hown1, hB1⟩
  rw [HP.out] at hown1
  obtain ⟨gg, cap, rfl⟩ := Joins.ownsRow_form hown1 (by simp)
  have q0 : w1.cell? ⟨gg, 0, none⟩ = some (.string ⟨a.toArray⟩) := by have h := hown1.cellAt 0 (by simp); simpa [strCells] using h
  have q1 : w1.cell? ⟨gg, 1, none⟩ = some (.string ⟨b.toArray⟩) := by have h := hown1.cellAt 1 (by simp); simpa [strCells] using h
  have lq := World.block_lt_of_cell? w1 _ q0
  have HT := Lib.hid hB1
  clear hB1 hown1
  go_wp2_with fail
  refine (specNumberE _ _).mono ?_
  rintro e w2 ⟨rfl, hB2⟩
  rw [show (ByteArray.mk a.toArray).data.toList = a by simp, HA.out]
  replace q1 := cell_keep6 q1 hB2
  replace lq := World.block_lt_of_cell? w2 _ q1
  replace HT := Lib.hid (bt HT.out hB2)
  clear hB2 q0
  go_wp2_with fail
  refine (specNumberE _ _).mono ?_
  rintro e w3 ⟨rfl, hB3⟩
  rw [show (ByteArray.mk b.toArray).data.toList = b by simp, HB.out]
  replace HT := Lib.hid (bt HT.out hB3)
  clear hB3 q1 lq
  go_wp2_with fail
  go_ret3
  exact ⟨rfl, HT.out⟩
set_option maxRecDepth 100000 in
set_option maxHeartbeats 1000000 in
theorem specRate_yn (s : ByteArray) (hs : s.size ≤ 1048576) (a b : List UInt8) (HP : Hid (partsL 47 s.data.toList = [a, b])) (n : Int) (HA : Hid (numE a = .returned (.tuple #[.int .i64 n, .bool true]))) (HB : Hid (numE b = .returned (.tuple #[.int .i64 0, .bool false]))) (w : World) :
    Calls Tryz.prog 63 #[.string s] w fun e w' => e = .returned (.tuple #[.int .i64 0, .int .i64 0, .int .i64 12]) ∧ Below w.heap.size w w' := by
  go_enter Tryz.func63, Tryz.ntmps63
  go_wp2_with fail
  refine (specParts s 47 _ hs).mono ?_
  rintro e w1 ⟨v, rfl, hown1, hB1⟩
  rw [HP.out] at hown1
  obtain ⟨gg, cap, rfl⟩ := Joins.ownsRow_form hown1 (by simp)
  have q0 : w1.cell? ⟨gg, 0, none⟩ = some (.string ⟨a.toArray⟩) := by have h := hown1.cellAt 0 (by simp); simpa [strCells] using h
  have q1 : w1.cell? ⟨gg, 1, none⟩ = some (.string ⟨b.toArray⟩) := by have h := hown1.cellAt 1 (by simp); simpa [strCells] using h
  have lq := World.block_lt_of_cell? w1 _ q0
  have HT := Lib.hid hB1
  clear hB1 hown1
  go_wp2_with fail
  refine (specNumberE _ _).mono ?_
  rintro e w2 ⟨rfl, hB2⟩
  rw [show (ByteArray.mk a.toArray).data.toList = a by simp, HA.out]
  replace q1 := cell_keep6 q1 hB2
  replace lq := World.block_lt_of_cell? w2 _ q1
  replace HT := Lib.hid (bt HT.out hB2)
  clear hB2 q0
  go_wp2_with fail
  refine (specNumberE _ _).mono ?_
  rintro e w3 ⟨rfl, hB3⟩
  rw [show (ByteArray.mk b.toArray).data.toList = b by simp, HB.out]
  replace HT := Lib.hid (bt HT.out hB3)
  clear hB3 q1 lq
  go_wp2_with fail
  go_ret3
  exact ⟨rfl, HT.out⟩
set_option maxRecDepth 100000 in
set_option maxHeartbeats 1000000 in
theorem specRate_on (s : ByteArray) (hs : s.size ≤ 1048576) (a b : List UInt8) (HP : Hid (partsL 47 s.data.toList = [a, b])) (n d : Int) (_n0 : 0 ≤ n) (_n1 : n ≤ 999999999) (_d0 : 0 ≤ d) (_d1 : d ≤ 999999999) (HN : Hid (inZ n 1 1000 = false)) (HA : Hid (numE a = .returned (.tuple #[.int .i64 n, .bool true]))) (HB : Hid (numE b = .returned (.tuple #[.int .i64 d, .bool true]))) (w : World) :
    Calls Tryz.prog 63 #[.string s] w fun e w' => e = .returned (.tuple #[.int .i64 0, .int .i64 0, .int .i64 13]) ∧ Below w.heap.size w w' := by
  go_enter Tryz.func63, Tryz.ntmps63
  go_wp2_with fail
  refine (specParts s 47 _ hs).mono ?_
  rintro e w1 ⟨v, rfl, hown1, hB1⟩
  rw [HP.out] at hown1
  obtain ⟨gg, cap, rfl⟩ := Joins.ownsRow_form hown1 (by simp)
  have q0 : w1.cell? ⟨gg, 0, none⟩ = some (.string ⟨a.toArray⟩) := by have h := hown1.cellAt 0 (by simp); simpa [strCells] using h
  have q1 : w1.cell? ⟨gg, 1, none⟩ = some (.string ⟨b.toArray⟩) := by have h := hown1.cellAt 1 (by simp); simpa [strCells] using h
  have lq := World.block_lt_of_cell? w1 _ q0
  have HT := Lib.hid hB1
  clear hB1 hown1
  go_wp2_with fail
  refine (specNumberE _ _).mono ?_
  rintro e w2 ⟨rfl, hB2⟩
  rw [show (ByteArray.mk a.toArray).data.toList = a by simp, HA.out]
  replace q1 := cell_keep6 q1 hB2
  replace lq := World.block_lt_of_cell? w2 _ q1
  replace HT := Lib.hid (bt HT.out hB2)
  clear hB2 q0
  go_wp2_with fail
  refine (specNumberE _ _).mono ?_
  rintro e w3 ⟨rfl, hB3⟩
  rw [show (ByteArray.mk b.toArray).data.toList = b by simp, HB.out]
  replace HT := Lib.hid (bt HT.out hB3)
  clear hB3 q1 lq
  go_wp2_with fail
  refine (specIn8 _ _ _ _).mono ?_
  rintro e w4 ⟨rfl, rfl⟩
  rw [HN.out]
  go_wp2_with fail
  go_ret3
  exact ⟨rfl, HT.out⟩
set_option maxRecDepth 100000 in
set_option maxHeartbeats 1000000 in
theorem specRate_od (s : ByteArray) (hs : s.size ≤ 1048576) (a b : List UInt8) (HP : Hid (partsL 47 s.data.toList = [a, b])) (n d : Int) (_n0 : 0 ≤ n) (_n1 : n ≤ 999999999) (_d0 : 0 ≤ d) (_d1 : d ≤ 999999999) (HN : Hid (inZ n 1 1000 = true)) (HD : Hid (inZ d 1 1000 = false)) (HA : Hid (numE a = .returned (.tuple #[.int .i64 n, .bool true]))) (HB : Hid (numE b = .returned (.tuple #[.int .i64 d, .bool true]))) (w : World) :
    Calls Tryz.prog 63 #[.string s] w fun e w' => e = .returned (.tuple #[.int .i64 0, .int .i64 0, .int .i64 13]) ∧ Below w.heap.size w w' := by
  go_enter Tryz.func63, Tryz.ntmps63
  go_wp2_with fail
  refine (specParts s 47 _ hs).mono ?_
  rintro e w1 ⟨v, rfl, hown1, hB1⟩
  rw [HP.out] at hown1
  obtain ⟨gg, cap, rfl⟩ := Joins.ownsRow_form hown1 (by simp)
  have q0 : w1.cell? ⟨gg, 0, none⟩ = some (.string ⟨a.toArray⟩) := by have h := hown1.cellAt 0 (by simp); simpa [strCells] using h
  have q1 : w1.cell? ⟨gg, 1, none⟩ = some (.string ⟨b.toArray⟩) := by have h := hown1.cellAt 1 (by simp); simpa [strCells] using h
  have lq := World.block_lt_of_cell? w1 _ q0
  have HT := Lib.hid hB1
  clear hB1 hown1
  go_wp2_with fail
  refine (specNumberE _ _).mono ?_
  rintro e w2 ⟨rfl, hB2⟩
  rw [show (ByteArray.mk a.toArray).data.toList = a by simp, HA.out]
  replace q1 := cell_keep6 q1 hB2
  replace lq := World.block_lt_of_cell? w2 _ q1
  replace HT := Lib.hid (bt HT.out hB2)
  clear hB2 q0
  go_wp2_with fail
  refine (specNumberE _ _).mono ?_
  rintro e w3 ⟨rfl, hB3⟩
  rw [show (ByteArray.mk b.toArray).data.toList = b by simp, HB.out]
  replace HT := Lib.hid (bt HT.out hB3)
  clear hB3 q1 lq
  go_wp2_with fail
  refine (specIn8 _ _ _ _).mono ?_
  rintro e w4 ⟨rfl, rfl⟩
  rw [HN.out]
  go_wp2_with fail
  refine (specIn8 _ _ _ _).mono ?_
  rintro e w5 ⟨rfl, rfl⟩
  rw [HD.out]
  go_wp2_with fail
  go_ret3
  exact ⟨rfl, HT.out⟩
set_option maxRecDepth 100000 in
set_option maxHeartbeats 1000000 in
theorem specRate_og (s : ByteArray) (hs : s.size ≤ 1048576) (a b : List UInt8) (HP : Hid (partsL 47 s.data.toList = [a, b])) (n d : Int) (_n0 : 0 ≤ n) (_n1 : n ≤ 999999999) (_d0 : 0 ≤ d) (_d1 : d ≤ 999999999) (HN : Hid (inZ n 1 1000 = true)) (HD : Hid (inZ d 1 1000 = true)) (hg : d < n) (HA : Hid (numE a = .returned (.tuple #[.int .i64 n, .bool true]))) (HB : Hid (numE b = .returned (.tuple #[.int .i64 d, .bool true]))) (w : World) :
    Calls Tryz.prog 63 #[.string s] w fun e w' => e = .returned (.tuple #[.int .i64 0, .int .i64 0, .int .i64 13]) ∧ Below w.heap.size w w' := by
  go_enter Tryz.func63, Tryz.ntmps63
  go_wp2_with fail
  refine (specParts s 47 _ hs).mono ?_
  rintro e w1 ⟨v, rfl, hown1, hB1⟩
  rw [HP.out] at hown1
  obtain ⟨gg, cap, rfl⟩ := Joins.ownsRow_form hown1 (by simp)
  have q0 : w1.cell? ⟨gg, 0, none⟩ = some (.string ⟨a.toArray⟩) := by have h := hown1.cellAt 0 (by simp); simpa [strCells] using h
  have q1 : w1.cell? ⟨gg, 1, none⟩ = some (.string ⟨b.toArray⟩) := by have h := hown1.cellAt 1 (by simp); simpa [strCells] using h
  have lq := World.block_lt_of_cell? w1 _ q0
  have HT := Lib.hid hB1
  clear hB1 hown1
  go_wp2_with fail
  refine (specNumberE _ _).mono ?_
  rintro e w2 ⟨rfl, hB2⟩
  rw [show (ByteArray.mk a.toArray).data.toList = a by simp, HA.out]
  replace q1 := cell_keep6 q1 hB2
  replace lq := World.block_lt_of_cell? w2 _ q1
  replace HT := Lib.hid (bt HT.out hB2)
  clear hB2 q0
  go_wp2_with fail
  refine (specNumberE _ _).mono ?_
  rintro e w3 ⟨rfl, hB3⟩
  rw [show (ByteArray.mk b.toArray).data.toList = b by simp, HB.out]
  replace HT := Lib.hid (bt HT.out hB3)
  clear hB3 q1 lq
  go_wp2_with fail
  refine (specIn8 _ _ _ _).mono ?_
  rintro e w4 ⟨rfl, rfl⟩
  rw [HN.out]
  go_wp2_with fail
  refine (specIn8 _ _ _ _).mono ?_
  rintro e w5 ⟨rfl, rfl⟩
  rw [HD.out]
  go_wp2_with fail
  go_ret3
  exact ⟨rfl, HT.out⟩
set_option maxRecDepth 100000 in
set_option maxHeartbeats 1000000 in
theorem specRate_ok (s : ByteArray) (hs : s.size ≤ 1048576) (a b : List UInt8) (HP : Hid (partsL 47 s.data.toList = [a, b])) (n d : Int) (_n0 : 0 ≤ n) (_n1 : n ≤ 999999999) (_d0 : 0 ≤ d) (_d1 : d ≤ 999999999) (HN : Hid (inZ n 1 1000 = true)) (HD : Hid (inZ d 1 1000 = true)) (hg : ¬ d < n) (HA : Hid (numE a = .returned (.tuple #[.int .i64 n, .bool true]))) (HB : Hid (numE b = .returned (.tuple #[.int .i64 d, .bool true]))) (w : World) :
    Calls Tryz.prog 63 #[.string s] w fun e w' => e = .returned (.tuple #[.int .i64 n, .int .i64 d, .int .i64 0]) ∧ Below w.heap.size w w' := by
  go_enter Tryz.func63, Tryz.ntmps63
  go_wp2_with fail
  refine (specParts s 47 _ hs).mono ?_
  rintro e w1 ⟨v, rfl, hown1, hB1⟩
  rw [HP.out] at hown1
  obtain ⟨gg, cap, rfl⟩ := Joins.ownsRow_form hown1 (by simp)
  have q0 : w1.cell? ⟨gg, 0, none⟩ = some (.string ⟨a.toArray⟩) := by have h := hown1.cellAt 0 (by simp); simpa [strCells] using h
  have q1 : w1.cell? ⟨gg, 1, none⟩ = some (.string ⟨b.toArray⟩) := by have h := hown1.cellAt 1 (by simp); simpa [strCells] using h
  have lq := World.block_lt_of_cell? w1 _ q0
  have HT := Lib.hid hB1
  clear hB1 hown1
  go_wp2_with fail
  refine (specNumberE _ _).mono ?_
  rintro e w2 ⟨rfl, hB2⟩
  rw [show (ByteArray.mk a.toArray).data.toList = a by simp, HA.out]
  replace q1 := cell_keep6 q1 hB2
  replace lq := World.block_lt_of_cell? w2 _ q1
  replace HT := Lib.hid (bt HT.out hB2)
  clear hB2 q0
  go_wp2_with fail
  refine (specNumberE _ _).mono ?_
  rintro e w3 ⟨rfl, hB3⟩
  rw [show (ByteArray.mk b.toArray).data.toList = b by simp, HB.out]
  replace HT := Lib.hid (bt HT.out hB3)
  clear hB3 q1 lq
  go_wp2_with fail
  refine (specIn8 _ _ _ _).mono ?_
  rintro e w4 ⟨rfl, rfl⟩
  rw [HN.out]
  go_wp2_with fail
  refine (specIn8 _ _ _ _).mono ?_
  rintro e w5 ⟨rfl, rfl⟩
  rw [HD.out]
  go_wp2_with fail
  go_ret3
  exact ⟨rfl, HT.out⟩
/-- WHAT THE READING OF A RATE ANSWERS. -/
theorem specRate (s : ByteArray) (hs : s.size ≤ 1048576) (w : World) :
    Calls Tryz.prog 63 #[.string s] w fun e w' => e = rateE s.data.toList ∧ Below w.heap.size w w' := by
  obtain ⟨ps, hps⟩ : ∃ ps, partsL 47 s.data.toList = ps := ⟨_, rfl⟩
  have hpp := parts_pos (c := 47) s.data.toList
  rw [hps] at hpp
  by_cases h2 : ps.length = 2
  · match ps, h2 with
    | [a, b], _ =>
      cases ha : numV a with
      | none =>
        have hr := rateV_none1 hps ha
        cases hb : numV b with
        | none => exact (specRate_nn s hs a b (Lib.hid hps) (Lib.hid (numE_none ha)) (Lib.hid (numE_none hb)) w).mono fun e w' k => ⟨rateE_of hr k.1, k.2⟩
        | some d => exact (specRate_ny s hs a b (Lib.hid hps) d (Lib.hid (numE_none ha)) (Lib.hid (numE_some hb)) w).mono fun e w' k => ⟨rateE_of hr k.1, k.2⟩
      | some n =>
        have hi := (numV_is ha).2
        cases hb : numV b with
        | none =>
          have hr := rateV_none2 hps hb
          exact (specRate_yn s hs a b (Lib.hid hps) n (Lib.hid (numE_some ha)) (Lib.hid (numE_none hb)) w).mono fun e w' k => ⟨rateE_of hr k.1, k.2⟩
        | some d =>
          have hj := (numV_is hb).2
          rcases Bool.eq_false_or_eq_true (inZ n 1 1000) with hn | hn
          · rcases Bool.eq_false_or_eq_true (inZ d 1 1000) with hd | hd
            · by_cases hg : d < n
              · have hr := rateV_out hps ha hb (fun k => by omega)
                exact (specRate_og s hs a b (Lib.hid hps) n d hi.1 hi.2 hj.1 hj.2 (Lib.hid hn) (Lib.hid hd) hg (Lib.hid (numE_some ha)) (Lib.hid (numE_some hb)) w).mono fun e w' k => ⟨rateE_of hr k.1, k.2⟩
              · have hr := rateV_in hps ha hb ⟨hn, hd, by omega⟩
                exact (specRate_ok s hs a b (Lib.hid hps) n d hi.1 hi.2 hj.1 hj.2 (Lib.hid hn) (Lib.hid hd) hg (Lib.hid (numE_some ha)) (Lib.hid (numE_some hb)) w).mono fun e w' k => ⟨rateE_of hr k.1, k.2⟩
            · have hr := rateV_out hps ha hb (fun k => by rw [hd] at k; exact absurd k.2.1 (by decide))
              exact (specRate_od s hs a b (Lib.hid hps) n d hi.1 hi.2 hj.1 hj.2 (Lib.hid hn) (Lib.hid hd) (Lib.hid (numE_some ha)) (Lib.hid (numE_some hb)) w).mono fun e w' k => ⟨rateE_of hr k.1, k.2⟩
          · have hr := rateV_out hps ha hb (fun k => by rw [hn] at k; exact absurd k.1 (by decide))
            exact (specRate_on s hs a b (Lib.hid hps) n d hi.1 hi.2 hj.1 hj.2 (Lib.hid hn) (Lib.hid (numE_some ha)) (Lib.hid (numE_some hb)) w).mono fun e w' k => ⟨rateE_of hr k.1, k.2⟩
  · exact (specRate_len s hs ps (Lib.hid hps) (by rw [beq_eq_false_iff_ne]; omega) hpp w).mono fun e w' k => ⟨rateE_of (rateV_len hps h2) k.1, k.2⟩
end Go.Proofs.YtnnbhgnllbjmeaaGreatDoor
