/-
  The text of a decimal: the reference's way.
-/
import Derived.Test.YticeagjonfifbaaGreatDoorPk1
import Derived.Test.YticeagjonfifbaaGreatDoorPk3
import Derived.Lib.BufferMore
namespace Go.Proofs.YticeagjonfifbaaGreatDoor
open Go.RowKit

set_option maxRecDepth 100000 in
theorem specIn6 (x lo hi : Int) (w : World) :
    Calls Tryz.prog 51 #[.int .i64 x, .int .i64 lo, .int .i64 hi] w fun e w' => e = .returned (.bool (decide (lo ≤ x ∧ x ≤ hi))) ∧ w' = w := by
  by_cases h0 : lo ≤ x
  · by_cases h1 : x ≤ hi
    · rw [decide_eq_true ⟨h0, h1⟩]
      go_enter Tryz.func51, Tryz.ntmps51
      go_wp2_with fail
      go_ret
      exact ⟨rfl, rfl⟩
    · rw [decide_eq_false (fun k => h1 k.2)]
      go_enter Tryz.func51, Tryz.ntmps51
      go_wp2_with fail
      go_ret
      exact ⟨rfl, rfl⟩
  · rw [decide_eq_false (fun k => h0 k.1)]
    go_enter Tryz.func51, Tryz.ntmps51
    go_wp2_with fail
    go_ret
    exact ⟨rfl, rfl⟩
theorem box_new6 (w : World) (o : Obj) : (w.alloc o).heap[w.heap.size]? = some o := by
  show (w.heap.push _)[w.heap.size]? = _
  simp
theorem fix_cat (a b : List UInt8) : ((⟨a.toArray⟩ : ByteArray) ++ ⟨b.toArray⟩) = ⟨(a ++ b).toArray⟩ := by
  apply ByteArray.ext
  simp
theorem fix_cat3 (a b : List UInt8) : ((⟨a.toArray⟩ : ByteArray) ++ ⟨#[46]⟩ ++ ⟨b.toArray⟩) = ⟨(a ++ 46 :: b).toArray⟩ := by
  apply ByteArray.ext
  simp
set_option maxRecDepth 100000 in
theorem specValue6 (n : Int) (w : World) :
    Calls Tryz.prog 55 #[.int .i64 n] w fun e w' => e = .returned (.bool (decide (-2147483647 ≤ n ∧ n ≤ 2147483647))) ∧ w' = w := by
  go_enter Tryz.func55, Tryz.ntmps55
  go_wp2_with fail
  refine (specIn6 n (-2147483647) 2147483647 _).mono ?_
  rintro e w1 ⟨rfl, rfl⟩
  go_wp2_with fail
  go_ret
  exact ⟨by simp, rfl⟩
set_option maxRecDepth 100000 in
set_option maxHeartbeats 1000000 in
theorem specFix_no (n : Int) (hk : Hid (decide (-2147483647 ≤ n ∧ n ≤ 2147483647) = false)) (w : World) :
    Calls Tryz.prog 28 #[.int .i64 n] w fun e w' => e = .returned (.string ⟨#[]⟩) ∧ Below w.heap.size w w' := by
  go_enter Tryz.func28, Tryz.ntmps28
  go_wp2_with fail
  refine (specValue6 n _).mono ?_
  rintro e w1 ⟨rfl, rfl⟩
  rw [hk.out]
  go_wp2_with fail
  go_ret
  exact ⟨rfl, Below.refl _ _⟩
set_option maxRecDepth 100000 in
set_option maxHeartbeats 1000000 in
theorem specFix_wholeP (m q r : Int) (td : List UInt8) (m0 : 0 ≤ m) (m1 : m ≤ 2147483647) (hq : m / 1000 = q) (hr : m % 1000 = r) (hk : Hid (decide (-2147483647 ≤ m ∧ m ≤ 2147483647) = true)) (hd : Hid (Lib.itoa q = td)) (hl : ¬ 9223372036854775807 < 1 + td.length) (hz : r = 0) (w : World) :
    Calls Tryz.prog 28 #[.int .i64 m] w fun e w' => e = .returned (.string ⟨(td).toArray⟩) ∧ Below w.heap.size w w' := by
  have q0 : 0 ≤ q ∧ q ≤ 2147483 := by omega
  have r0 : 0 ≤ r ∧ r < 1000 := by omega
  go_enter Tryz.func28, Tryz.ntmps28
  go_wp2_with fail
  refine (specValue6 m _).mono ?_
  rintro e w1 ⟨rfl, rfl⟩
  rw [hk.out]
  go_wp2_with fail
  refine (specDigits q (by omega) (by omega) _).mono ?_
  rintro e w2 ⟨rfl, hB⟩
  rw [hd.out]
  go_wp2_with fail
  go_ret
  exact ⟨congrArg (fun b => Ending.returned (Value.string b)) (fix_cat [] td), hB⟩
set_option maxRecDepth 100000 in
set_option maxHeartbeats 1000000 in
theorem specFix_fracP3 (m q : Int) (r : Nat) (td : List UInt8) (m0 : 0 ≤ m) (m1 : m ≤ 2147483647) (hq : m / 1000 = q) (hr : m % 1000 = (r : Int)) (hk : Hid (decide (-2147483647 ≤ m ∧ m ≤ 2147483647) = true)) (hd : Hid (Lib.itoa q = td)) (hl : ¬ 9223372036854775807 < 1 + td.length)  (zn : ¬ (r : Int) % 10 = 0) (hl2 : ¬ 9223372036854775807 < td.length + 1) (hl3 : td.length ≤ 100) (w : World) :
    Calls Tryz.prog 28 #[.int .i64 m] w fun e w' => e = .returned (.string ⟨([] ++ td ++ 46 :: [UInt8.ofNat (48 + r / 100), UInt8.ofNat (48 + r / 10 % 10), UInt8.ofNat (48 + r % 10)]).toArray⟩) ∧ Below w.heap.size w w' := by
  have hm0 : ¬ m % 1000 = 0 := by omega
  have q0 : 0 ≤ q ∧ q ≤ 2147483 := by omega
  have r0 : 0 ≤ (r : Int) ∧ (r : Int) < 1000 := by omega
  go_enter Tryz.func28, Tryz.ntmps28
  go_wp2_with fail
  refine (specValue6 m _).mono ?_
  rintro e w1 ⟨rfl, rfl⟩
  rw [hk.out]
  go_wp2_with fail
  refine (specDigits q (by omega) (by omega) _).mono ?_
  rintro e w2 ⟨rfl, hB⟩
  rw [hd.out]
  go_wp2_with fail
  have hb : ((48 + (r : Int) % 10 : Int) == 48) = false := by rw [beq_eq_false_iff_ne]; omega
  have hcv := run_convert_bytes_back (P := Tryz.prog) (w2.alloc (.cells #[.int .u8 (48 + (r : Int) / 100), .int .u8 (48 + (r : Int) / 10 % 10), .int .u8 (48 + (r : Int) % 10)] 5)) 22 9 5 ⟨w2.heap.size, 0, none⟩ 3 [UInt8.ofNat (48 + r / 100), UInt8.ofNat (48 + r / 10 % 10), UInt8.ofNat (48 + r % 10)] Tryz.underlying22 Tryz.underlying5 Tryz.underlying9 (fun j hj => by
    have hbx := box_new6 w2 (.cells #[.int .u8 (48 + (r : Int) / 100), .int .u8 (48 + (r : Int) / 10 % 10), .int .u8 (48 + (r : Int) % 10)] 5)
    rw [Lib.addr_add]
    match j, hj with
    | 0, _ => exact (cell_blk hbx 0).trans (congrArg some (congrArg (Value.int .u8) (by show (48 + (r : Int) / 100 : Int) = (((UInt8.ofNat (48 + r / 100)).toNat : Nat) : Int); rw [dig_toNat (by omega)]; omega)))
    | 1, _ => exact (cell_blk hbx 1).trans (congrArg some (congrArg (Value.int .u8) (by show (48 + (r : Int) / 10 % 10 : Int) = (((UInt8.ofNat (48 + r / 10 % 10)).toNat : Nat) : Int); rw [dig_toNat (by omega)]; omega)))
    | 2, _ => exact (cell_blk hbx 2).trans (congrArg some (congrArg (Value.int .u8) (by show (48 + (r : Int) % 10 : Int) = (((UInt8.ofNat (48 + r % 10)).toNat : Nat) : Int); rw [dig_toNat (by omega)]; omega)))
  )
  rw [show [UInt8.ofNat (48 + r / 100), UInt8.ofNat (48 + r / 10 % 10), UInt8.ofNat (48 + r % 10)].length = 3 from rfl] at hcv
  go_loopw [5] (fun v wr => (v = .slice (some ⟨w2.heap.size, 0, none⟩) 3 3) ∧ wr = (w2.alloc (.cells #[.int .u8 (48 + (r : Int) / 100), .int .u8 (48 + (r : Int) / 10 % 10), .int .u8 (48 + (r : Int) % 10)] 5))) (fun v _ => match v with | .slice _ n _ => n | _ => 0)
  case atStart => exact ⟨rfl, rfl⟩
  case round =>
    obtain ⟨hv, rfl⟩ := hrel
    rcases hv with rfl
    · go_wp2_with fail
      go_ret
      exact ⟨congrArg (fun b => Ending.returned (Value.string b)) (by rw [fix_cat [] td, fix_cat3]; simp), hB.trans (((Below.refl _ _).alloc (Nat.le_refl _) _).mono hB.size)⟩
set_option maxRecDepth 100000 in
set_option maxHeartbeats 1000000 in
theorem specFix_fracP2 (m q : Int) (r : Nat) (td : List UInt8) (m0 : 0 ≤ m) (m1 : m ≤ 2147483647) (hq : m / 1000 = q) (hr : m % 1000 = (r : Int)) (hk : Hid (decide (-2147483647 ≤ m ∧ m ≤ 2147483647) = true)) (hd : Hid (Lib.itoa q = td)) (hl : ¬ 9223372036854775807 < 1 + td.length) (z2 : (r : Int) % 10 = 0) (zn : ¬ (r : Int) / 10 % 10 = 0) (hl2 : ¬ 9223372036854775807 < td.length + 1) (hl3 : td.length ≤ 100) (w : World) :
    Calls Tryz.prog 28 #[.int .i64 m] w fun e w' => e = .returned (.string ⟨([] ++ td ++ 46 :: [UInt8.ofNat (48 + r / 100), UInt8.ofNat (48 + r / 10 % 10)]).toArray⟩) ∧ Below w.heap.size w w' := by
  have hm0 : ¬ m % 1000 = 0 := by omega
  have q0 : 0 ≤ q ∧ q ≤ 2147483 := by omega
  have r0 : 0 ≤ (r : Int) ∧ (r : Int) < 1000 := by omega
  go_enter Tryz.func28, Tryz.ntmps28
  go_wp2_with fail
  refine (specValue6 m _).mono ?_
  rintro e w1 ⟨rfl, rfl⟩
  rw [hk.out]
  go_wp2_with fail
  refine (specDigits q (by omega) (by omega) _).mono ?_
  rintro e w2 ⟨rfl, hB⟩
  rw [hd.out]
  go_wp2_with fail
  have hb : ((48 + (r : Int) / 10 % 10 : Int) == 48) = false := by rw [beq_eq_false_iff_ne]; omega
  have hcv := run_convert_bytes_back (P := Tryz.prog) (w2.alloc (.cells #[.int .u8 (48 + (r : Int) / 100), .int .u8 (48 + (r : Int) / 10 % 10), .int .u8 48] 5)) 22 9 5 ⟨w2.heap.size, 0, none⟩ 3 [UInt8.ofNat (48 + r / 100), UInt8.ofNat (48 + r / 10 % 10)] Tryz.underlying22 Tryz.underlying5 Tryz.underlying9 (fun j hj => by
    have hbx := box_new6 w2 (.cells #[.int .u8 (48 + (r : Int) / 100), .int .u8 (48 + (r : Int) / 10 % 10), .int .u8 48] 5)
    rw [Lib.addr_add]
    match j, hj with
    | 0, _ => exact (cell_blk hbx 0).trans (congrArg some (congrArg (Value.int .u8) (by show (48 + (r : Int) / 100 : Int) = (((UInt8.ofNat (48 + r / 100)).toNat : Nat) : Int); rw [dig_toNat (by omega)]; omega)))
    | 1, _ => exact (cell_blk hbx 1).trans (congrArg some (congrArg (Value.int .u8) (by show (48 + (r : Int) / 10 % 10 : Int) = (((UInt8.ofNat (48 + r / 10 % 10)).toNat : Nat) : Int); rw [dig_toNat (by omega)]; omega)))
  )
  rw [show [UInt8.ofNat (48 + r / 100), UInt8.ofNat (48 + r / 10 % 10)].length = 2 from rfl] at hcv
  go_loopw [5] (fun v wr => (v = .slice (some ⟨w2.heap.size, 0, none⟩) 3 3 ∨ v = .slice (some ⟨w2.heap.size, 0, none⟩) 2 3) ∧ wr = (w2.alloc (.cells #[.int .u8 (48 + (r : Int) / 100), .int .u8 (48 + (r : Int) / 10 % 10), .int .u8 48] 5))) (fun v _ => match v with | .slice _ n _ => n | _ => 0)
  case atStart => exact ⟨Or.inl rfl, rfl⟩
  case round =>
    obtain ⟨hv, rfl⟩ := hrel
    rcases hv with rfl | rfl
    · go_wp2_with fail
      go_roundw
      case rel => exact ⟨Or.inr rfl, by first | rfl | trivial⟩
      case measure => simp
    · go_wp2_with fail
      go_ret
      exact ⟨congrArg (fun b => Ending.returned (Value.string b)) (by rw [fix_cat [] td, fix_cat3]; simp), hB.trans (((Below.refl _ _).alloc (Nat.le_refl _) _).mono hB.size)⟩
set_option maxRecDepth 100000 in
set_option maxHeartbeats 1000000 in
theorem specFix_fracP1 (m q : Int) (r : Nat) (td : List UInt8) (m0 : 0 ≤ m) (m1 : m ≤ 2147483647) (hq : m / 1000 = q) (hr : m % 1000 = (r : Int)) (hk : Hid (decide (-2147483647 ≤ m ∧ m ≤ 2147483647) = true)) (hd : Hid (Lib.itoa q = td)) (hl : ¬ 9223372036854775807 < 1 + td.length) (z1 : (r : Int) / 10 % 10 = 0) (z2 : (r : Int) % 10 = 0) (zn : ¬ (r : Int) / 100 = 0) (hl2 : ¬ 9223372036854775807 < td.length + 1) (hl3 : td.length ≤ 100) (w : World) :
    Calls Tryz.prog 28 #[.int .i64 m] w fun e w' => e = .returned (.string ⟨([] ++ td ++ 46 :: [UInt8.ofNat (48 + r / 100)]).toArray⟩) ∧ Below w.heap.size w w' := by
  have hm0 : ¬ m % 1000 = 0 := by omega
  have q0 : 0 ≤ q ∧ q ≤ 2147483 := by omega
  have r0 : 0 ≤ (r : Int) ∧ (r : Int) < 1000 := by omega
  go_enter Tryz.func28, Tryz.ntmps28
  go_wp2_with fail
  refine (specValue6 m _).mono ?_
  rintro e w1 ⟨rfl, rfl⟩
  rw [hk.out]
  go_wp2_with fail
  refine (specDigits q (by omega) (by omega) _).mono ?_
  rintro e w2 ⟨rfl, hB⟩
  rw [hd.out]
  go_wp2_with fail
  have hb : ((48 + (r : Int) / 100 : Int) == 48) = false := by rw [beq_eq_false_iff_ne]; omega
  have hcv := run_convert_bytes_back (P := Tryz.prog) (w2.alloc (.cells #[.int .u8 (48 + (r : Int) / 100), .int .u8 48, .int .u8 48] 5)) 22 9 5 ⟨w2.heap.size, 0, none⟩ 3 [UInt8.ofNat (48 + r / 100)] Tryz.underlying22 Tryz.underlying5 Tryz.underlying9 (fun j hj => by
    have hbx := box_new6 w2 (.cells #[.int .u8 (48 + (r : Int) / 100), .int .u8 48, .int .u8 48] 5)
    rw [Lib.addr_add]
    match j, hj with
    | 0, _ => exact (cell_blk hbx 0).trans (congrArg some (congrArg (Value.int .u8) (by show (48 + (r : Int) / 100 : Int) = (((UInt8.ofNat (48 + r / 100)).toNat : Nat) : Int); rw [dig_toNat (by omega)]; omega)))
  )
  rw [show [UInt8.ofNat (48 + r / 100)].length = 1 from rfl] at hcv
  go_loopw [5] (fun v wr => (v = .slice (some ⟨w2.heap.size, 0, none⟩) 3 3 ∨ v = .slice (some ⟨w2.heap.size, 0, none⟩) 2 3 ∨ v = .slice (some ⟨w2.heap.size, 0, none⟩) 1 3) ∧ wr = (w2.alloc (.cells #[.int .u8 (48 + (r : Int) / 100), .int .u8 48, .int .u8 48] 5))) (fun v _ => match v with | .slice _ n _ => n | _ => 0)
  case atStart => exact ⟨Or.inl rfl, rfl⟩
  case round =>
    obtain ⟨hv, rfl⟩ := hrel
    rcases hv with rfl | rfl | rfl
    · go_wp2_with fail
      go_roundw
      case rel => exact ⟨Or.inr (Or.inl rfl), by first | rfl | trivial⟩
      case measure => simp
    · go_wp2_with fail
      go_roundw
      case rel => exact ⟨Or.inr (Or.inr rfl), by first | rfl | trivial⟩
      case measure => simp
    · go_wp2_with fail
      go_ret
      exact ⟨congrArg (fun b => Ending.returned (Value.string b)) (by rw [fix_cat [] td, fix_cat3]; simp), hB.trans (((Below.refl _ _).alloc (Nat.le_refl _) _).mono hB.size)⟩
set_option maxRecDepth 100000 in
set_option maxHeartbeats 1000000 in
theorem specFix_wholeN (m q r : Int) (td : List UInt8) (m0 : 1 ≤ m) (m1 : m ≤ 2147483647) (hq : m / 1000 = q) (hr : m % 1000 = r) (hk : Hid (decide (-2147483647 ≤ -m ∧ -m ≤ 2147483647) = true)) (hd : Hid (Lib.itoa q = td)) (hl : ¬ 9223372036854775807 < 1 + td.length) (hz : r = 0) (w : World) :
    Calls Tryz.prog 28 #[.int .i64 (-m)] w fun e w' => e = .returned (.string ⟨(45 :: td).toArray⟩) ∧ Below w.heap.size w w' := by
  have q0 : 0 ≤ q ∧ q ≤ 2147483 := by omega
  have r0 : 0 ≤ r ∧ r < 1000 := by omega
  go_enter Tryz.func28, Tryz.ntmps28
  go_wp2_with fail
  refine (specValue6 (-m) _).mono ?_
  rintro e w1 ⟨rfl, rfl⟩
  rw [hk.out]
  go_wp2_with fail
  refine (specDigits q (by omega) (by omega) _).mono ?_
  rintro e w2 ⟨rfl, hB⟩
  rw [hd.out]
  go_wp2_with fail
  go_ret
  exact ⟨congrArg (fun b => Ending.returned (Value.string b)) (fix_cat [45] td), hB⟩
set_option maxRecDepth 100000 in
set_option maxHeartbeats 1000000 in
theorem specFix_fracN3 (m q : Int) (r : Nat) (td : List UInt8) (m0 : 1 ≤ m) (m1 : m ≤ 2147483647) (hq : m / 1000 = q) (hr : m % 1000 = (r : Int)) (hk : Hid (decide (-2147483647 ≤ -m ∧ -m ≤ 2147483647) = true)) (hd : Hid (Lib.itoa q = td)) (hl : ¬ 9223372036854775807 < 1 + td.length)  (zn : ¬ (r : Int) % 10 = 0) (_hl2 : ¬ 9223372036854775807 < td.length + 1) (hl3 : td.length ≤ 100) (w : World) :
    Calls Tryz.prog 28 #[.int .i64 (-m)] w fun e w' => e = .returned (.string ⟨([45] ++ td ++ 46 :: [UInt8.ofNat (48 + r / 100), UInt8.ofNat (48 + r / 10 % 10), UInt8.ofNat (48 + r % 10)]).toArray⟩) ∧ Below w.heap.size w w' := by
  have hm0 : ¬ m % 1000 = 0 := by omega
  have q0 : 0 ≤ q ∧ q ≤ 2147483 := by omega
  have r0 : 0 ≤ (r : Int) ∧ (r : Int) < 1000 := by omega
  go_enter Tryz.func28, Tryz.ntmps28
  go_wp2_with fail
  refine (specValue6 (-m) _).mono ?_
  rintro e w1 ⟨rfl, rfl⟩
  rw [hk.out]
  go_wp2_with fail
  refine (specDigits q (by omega) (by omega) _).mono ?_
  rintro e w2 ⟨rfl, hB⟩
  rw [hd.out]
  go_wp2_with fail
  have hb : ((48 + (r : Int) % 10 : Int) == 48) = false := by rw [beq_eq_false_iff_ne]; omega
  have hcv := run_convert_bytes_back (P := Tryz.prog) (w2.alloc (.cells #[.int .u8 (48 + (r : Int) / 100), .int .u8 (48 + (r : Int) / 10 % 10), .int .u8 (48 + (r : Int) % 10)] 5)) 22 9 5 ⟨w2.heap.size, 0, none⟩ 3 [UInt8.ofNat (48 + r / 100), UInt8.ofNat (48 + r / 10 % 10), UInt8.ofNat (48 + r % 10)] Tryz.underlying22 Tryz.underlying5 Tryz.underlying9 (fun j hj => by
    have hbx := box_new6 w2 (.cells #[.int .u8 (48 + (r : Int) / 100), .int .u8 (48 + (r : Int) / 10 % 10), .int .u8 (48 + (r : Int) % 10)] 5)
    rw [Lib.addr_add]
    match j, hj with
    | 0, _ => exact (cell_blk hbx 0).trans (congrArg some (congrArg (Value.int .u8) (by show (48 + (r : Int) / 100 : Int) = (((UInt8.ofNat (48 + r / 100)).toNat : Nat) : Int); rw [dig_toNat (by omega)]; omega)))
    | 1, _ => exact (cell_blk hbx 1).trans (congrArg some (congrArg (Value.int .u8) (by show (48 + (r : Int) / 10 % 10 : Int) = (((UInt8.ofNat (48 + r / 10 % 10)).toNat : Nat) : Int); rw [dig_toNat (by omega)]; omega)))
    | 2, _ => exact (cell_blk hbx 2).trans (congrArg some (congrArg (Value.int .u8) (by show (48 + (r : Int) % 10 : Int) = (((UInt8.ofNat (48 + r % 10)).toNat : Nat) : Int); rw [dig_toNat (by omega)]; omega)))
  )
  rw [show [UInt8.ofNat (48 + r / 100), UInt8.ofNat (48 + r / 10 % 10), UInt8.ofNat (48 + r % 10)].length = 3 from rfl] at hcv
  go_loopw [5] (fun v wr => (v = .slice (some ⟨w2.heap.size, 0, none⟩) 3 3) ∧ wr = (w2.alloc (.cells #[.int .u8 (48 + (r : Int) / 100), .int .u8 (48 + (r : Int) / 10 % 10), .int .u8 (48 + (r : Int) % 10)] 5))) (fun v _ => match v with | .slice _ n _ => n | _ => 0)
  case atStart => exact ⟨rfl, rfl⟩
  case round =>
    obtain ⟨hv, rfl⟩ := hrel
    rcases hv with rfl
    · go_wp2_with fail
      go_ret
      exact ⟨congrArg (fun b => Ending.returned (Value.string b)) (by rw [fix_cat [45] td, fix_cat3]; simp), hB.trans (((Below.refl _ _).alloc (Nat.le_refl _) _).mono hB.size)⟩
set_option maxRecDepth 100000 in
set_option maxHeartbeats 1000000 in
theorem specFix_fracN2 (m q : Int) (r : Nat) (td : List UInt8) (m0 : 1 ≤ m) (m1 : m ≤ 2147483647) (hq : m / 1000 = q) (hr : m % 1000 = (r : Int)) (hk : Hid (decide (-2147483647 ≤ -m ∧ -m ≤ 2147483647) = true)) (hd : Hid (Lib.itoa q = td)) (hl : ¬ 9223372036854775807 < 1 + td.length) (z2 : (r : Int) % 10 = 0) (zn : ¬ (r : Int) / 10 % 10 = 0) (_hl2 : ¬ 9223372036854775807 < td.length + 1) (hl3 : td.length ≤ 100) (w : World) :
    Calls Tryz.prog 28 #[.int .i64 (-m)] w fun e w' => e = .returned (.string ⟨([45] ++ td ++ 46 :: [UInt8.ofNat (48 + r / 100), UInt8.ofNat (48 + r / 10 % 10)]).toArray⟩) ∧ Below w.heap.size w w' := by
  have hm0 : ¬ m % 1000 = 0 := by omega
  have q0 : 0 ≤ q ∧ q ≤ 2147483 := by omega
  have r0 : 0 ≤ (r : Int) ∧ (r : Int) < 1000 := by omega
  go_enter Tryz.func28, Tryz.ntmps28
  go_wp2_with fail
  refine (specValue6 (-m) _).mono ?_
  rintro e w1 ⟨rfl, rfl⟩
  rw [hk.out]
  go_wp2_with fail
  refine (specDigits q (by omega) (by omega) _).mono ?_
  rintro e w2 ⟨rfl, hB⟩
  rw [hd.out]
  go_wp2_with fail
  have hb : ((48 + (r : Int) / 10 % 10 : Int) == 48) = false := by rw [beq_eq_false_iff_ne]; omega
  have hcv := run_convert_bytes_back (P := Tryz.prog) (w2.alloc (.cells #[.int .u8 (48 + (r : Int) / 100), .int .u8 (48 + (r : Int) / 10 % 10), .int .u8 48] 5)) 22 9 5 ⟨w2.heap.size, 0, none⟩ 3 [UInt8.ofNat (48 + r / 100), UInt8.ofNat (48 + r / 10 % 10)] Tryz.underlying22 Tryz.underlying5 Tryz.underlying9 (fun j hj => by
    have hbx := box_new6 w2 (.cells #[.int .u8 (48 + (r : Int) / 100), .int .u8 (48 + (r : Int) / 10 % 10), .int .u8 48] 5)
    rw [Lib.addr_add]
    match j, hj with
    | 0, _ => exact (cell_blk hbx 0).trans (congrArg some (congrArg (Value.int .u8) (by show (48 + (r : Int) / 100 : Int) = (((UInt8.ofNat (48 + r / 100)).toNat : Nat) : Int); rw [dig_toNat (by omega)]; omega)))
    | 1, _ => exact (cell_blk hbx 1).trans (congrArg some (congrArg (Value.int .u8) (by show (48 + (r : Int) / 10 % 10 : Int) = (((UInt8.ofNat (48 + r / 10 % 10)).toNat : Nat) : Int); rw [dig_toNat (by omega)]; omega)))
  )
  rw [show [UInt8.ofNat (48 + r / 100), UInt8.ofNat (48 + r / 10 % 10)].length = 2 from rfl] at hcv
  go_loopw [5] (fun v wr => (v = .slice (some ⟨w2.heap.size, 0, none⟩) 3 3 ∨ v = .slice (some ⟨w2.heap.size, 0, none⟩) 2 3) ∧ wr = (w2.alloc (.cells #[.int .u8 (48 + (r : Int) / 100), .int .u8 (48 + (r : Int) / 10 % 10), .int .u8 48] 5))) (fun v _ => match v with | .slice _ n _ => n | _ => 0)
  case atStart => exact ⟨Or.inl rfl, rfl⟩
  case round =>
    obtain ⟨hv, rfl⟩ := hrel
    rcases hv with rfl | rfl
    · go_wp2_with fail
      go_roundw
      case rel => exact ⟨Or.inr rfl, by first | rfl | trivial⟩
      case measure => simp
    · go_wp2_with fail
      go_ret
      exact ⟨congrArg (fun b => Ending.returned (Value.string b)) (by rw [fix_cat [45] td, fix_cat3]; simp), hB.trans (((Below.refl _ _).alloc (Nat.le_refl _) _).mono hB.size)⟩
set_option maxRecDepth 100000 in
set_option maxHeartbeats 1000000 in
theorem specFix_fracN1 (m q : Int) (r : Nat) (td : List UInt8) (m0 : 1 ≤ m) (m1 : m ≤ 2147483647) (hq : m / 1000 = q) (hr : m % 1000 = (r : Int)) (hk : Hid (decide (-2147483647 ≤ -m ∧ -m ≤ 2147483647) = true)) (hd : Hid (Lib.itoa q = td)) (hl : ¬ 9223372036854775807 < 1 + td.length) (z1 : (r : Int) / 10 % 10 = 0) (z2 : (r : Int) % 10 = 0) (zn : ¬ (r : Int) / 100 = 0) (_hl2 : ¬ 9223372036854775807 < td.length + 1) (hl3 : td.length ≤ 100) (w : World) :
    Calls Tryz.prog 28 #[.int .i64 (-m)] w fun e w' => e = .returned (.string ⟨([45] ++ td ++ 46 :: [UInt8.ofNat (48 + r / 100)]).toArray⟩) ∧ Below w.heap.size w w' := by
  have hm0 : ¬ m % 1000 = 0 := by omega
  have q0 : 0 ≤ q ∧ q ≤ 2147483 := by omega
  have r0 : 0 ≤ (r : Int) ∧ (r : Int) < 1000 := by omega
  go_enter Tryz.func28, Tryz.ntmps28
  go_wp2_with fail
  refine (specValue6 (-m) _).mono ?_
  rintro e w1 ⟨rfl, rfl⟩
  rw [hk.out]
  go_wp2_with fail
  refine (specDigits q (by omega) (by omega) _).mono ?_
  rintro e w2 ⟨rfl, hB⟩
  rw [hd.out]
  go_wp2_with fail
  have hb : ((48 + (r : Int) / 100 : Int) == 48) = false := by rw [beq_eq_false_iff_ne]; omega
  have hcv := run_convert_bytes_back (P := Tryz.prog) (w2.alloc (.cells #[.int .u8 (48 + (r : Int) / 100), .int .u8 48, .int .u8 48] 5)) 22 9 5 ⟨w2.heap.size, 0, none⟩ 3 [UInt8.ofNat (48 + r / 100)] Tryz.underlying22 Tryz.underlying5 Tryz.underlying9 (fun j hj => by
    have hbx := box_new6 w2 (.cells #[.int .u8 (48 + (r : Int) / 100), .int .u8 48, .int .u8 48] 5)
    rw [Lib.addr_add]
    match j, hj with
    | 0, _ => exact (cell_blk hbx 0).trans (congrArg some (congrArg (Value.int .u8) (by show (48 + (r : Int) / 100 : Int) = (((UInt8.ofNat (48 + r / 100)).toNat : Nat) : Int); rw [dig_toNat (by omega)]; omega)))
  )
  rw [show [UInt8.ofNat (48 + r / 100)].length = 1 from rfl] at hcv
  go_loopw [5] (fun v wr => (v = .slice (some ⟨w2.heap.size, 0, none⟩) 3 3 ∨ v = .slice (some ⟨w2.heap.size, 0, none⟩) 2 3 ∨ v = .slice (some ⟨w2.heap.size, 0, none⟩) 1 3) ∧ wr = (w2.alloc (.cells #[.int .u8 (48 + (r : Int) / 100), .int .u8 48, .int .u8 48] 5))) (fun v _ => match v with | .slice _ n _ => n | _ => 0)
  case atStart => exact ⟨Or.inl rfl, rfl⟩
  case round =>
    obtain ⟨hv, rfl⟩ := hrel
    rcases hv with rfl | rfl | rfl
    · go_wp2_with fail
      go_roundw
      case rel => exact ⟨Or.inr (Or.inl rfl), by first | rfl | trivial⟩
      case measure => simp
    · go_wp2_with fail
      go_roundw
      case rel => exact ⟨Or.inr (Or.inr rfl), by first | rfl | trivial⟩
      case measure => simp
    · go_wp2_with fail
      go_ret
      exact ⟨congrArg (fun b => Ending.returned (Value.string b)) (by rw [fix_cat [45] td, fix_cat3]; simp), hB.trans (((Below.refl _ _).alloc (Nat.le_refl _) _).mono hB.size)⟩
/-- THE TEXT OF A DECIMAL, whatever the number. -/
theorem specFixText (n : Int) (n0 : -9223372036854775808 ≤ n) (n1 : n ≤ 9223372036854775807) (w : World) :
    Calls Tryz.prog 28 #[.int .i64 n] w fun e w' => e = .returned (.string ⟨(fixT n).toArray⟩) ∧ Below w.heap.size w w' := by
  by_cases hr : -2147483647 ≤ n ∧ n ≤ 2147483647
  · have hk : decide (-2147483647 ≤ n ∧ n ≤ 2147483647) = true := decide_eq_true hr
    obtain ⟨u, hu⟩ : ∃ u : Nat, n.natAbs = u := ⟨_, rfl⟩
    obtain ⟨td, hd⟩ : ∃ l, Lib.itoa ((u : Int) / 1000) = l := ⟨_, rfl⟩
    have hl : td.length ≤ 20 := by
      rw [← hd, show ((u : Int) / 1000) = ((u / 1000 : Nat) : Int) by omega, Lib.itoa_nonneg]
      have := decDigits_len19 (u := u / 1000) (by omega)
      omega
    have ef : fixT n = (if n < 0 then [45] else []) ++ td ++ fracL (u % 1000) := by rw [fixT, if_pos hr, hu, hd]
    rw [ef]
    by_cases hn : n < 0
    · rw [if_pos hn]
      obtain rfl : n = -(u : Int) := by omega
      have hm : (u : Int) % 1000 = ((u % 1000 : Nat) : Int) := by omega
      generalize u % 1000 = r at hm
      by_cases z : r = 0
      · have e : [45] ++ td ++ fracL r = 45 :: td := by rw [fracL, if_pos z]; simp
        rw [e]
        exact specFix_wholeN (u : Int) _ _ td (by omega) (by omega) rfl hm (Lib.hid hk) (Lib.hid hd) (by omega) (by omega) w
      · by_cases z2 : r % 10 = 0
        · by_cases z1 : r / 10 % 10 = 0
          · have e : fracL r = 46 :: [UInt8.ofNat (48 + r / 100)] := by rw [fracL, if_neg z, if_neg (by simpa using z2), if_neg (by simpa using z1)]
            rw [e]
            exact specFix_fracN1 (u : Int) _ r td (by omega) (by omega) rfl hm (Lib.hid hk) (Lib.hid hd) (by omega) (by omega) (by omega) (by omega) (by omega) (by omega) w
          · have e : fracL r = 46 :: [UInt8.ofNat (48 + r / 100), UInt8.ofNat (48 + r / 10 % 10)] := by rw [fracL, if_neg z, if_neg (by simpa using z2), if_pos z1]
            rw [e]
            exact specFix_fracN2 (u : Int) _ r td (by omega) (by omega) rfl hm (Lib.hid hk) (Lib.hid hd) (by omega) (by omega) (by omega) (by omega) (by omega) w
        · have e : fracL r = 46 :: [UInt8.ofNat (48 + r / 100), UInt8.ofNat (48 + r / 10 % 10), UInt8.ofNat (48 + r % 10)] := by rw [fracL, if_neg z, if_pos z2]
          rw [e]
          exact specFix_fracN3 (u : Int) _ r td (by omega) (by omega) rfl hm (Lib.hid hk) (Lib.hid hd) (by omega)  (by omega) (by omega) (by omega) w
    · rw [if_neg hn]
      obtain rfl : n = (u : Int) := by omega
      have hm : (u : Int) % 1000 = ((u % 1000 : Nat) : Int) := by omega
      generalize u % 1000 = r at hm
      by_cases z : r = 0
      · have e : [] ++ td ++ fracL r = td := by rw [fracL, if_pos z]; simp
        rw [e]
        exact specFix_wholeP (u : Int) _ _ td (by omega) (by omega) rfl hm (Lib.hid hk) (Lib.hid hd) (by omega) (by omega) w
      · by_cases z2 : r % 10 = 0
        · by_cases z1 : r / 10 % 10 = 0
          · have e : fracL r = 46 :: [UInt8.ofNat (48 + r / 100)] := by rw [fracL, if_neg z, if_neg (by simpa using z2), if_neg (by simpa using z1)]
            rw [e]
            exact specFix_fracP1 (u : Int) _ r td (by omega) (by omega) rfl hm (Lib.hid hk) (Lib.hid hd) (by omega) (by omega) (by omega) (by omega) (by omega) (by omega) w
          · have e : fracL r = 46 :: [UInt8.ofNat (48 + r / 100), UInt8.ofNat (48 + r / 10 % 10)] := by rw [fracL, if_neg z, if_neg (by simpa using z2), if_pos z1]
            rw [e]
            exact specFix_fracP2 (u : Int) _ r td (by omega) (by omega) rfl hm (Lib.hid hk) (Lib.hid hd) (by omega) (by omega) (by omega) (by omega) (by omega) w
        · have e : fracL r = 46 :: [UInt8.ofNat (48 + r / 100), UInt8.ofNat (48 + r / 10 % 10), UInt8.ofNat (48 + r % 10)] := by rw [fracL, if_neg z, if_pos z2]
          rw [e]
          exact specFix_fracP3 (u : Int) _ r td (by omega) (by omega) rfl hm (Lib.hid hk) (Lib.hid hd) (by omega)  (by omega) (by omega) (by omega) w
  · rw [fixT, if_neg hr]
    exact specFix_no n (Lib.hid (decide_eq_false hr)) w
end Go.Proofs.YticeagjonfifbaaGreatDoor
