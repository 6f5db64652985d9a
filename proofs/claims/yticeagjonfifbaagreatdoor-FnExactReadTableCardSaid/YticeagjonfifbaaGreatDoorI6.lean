/-
  Decimals: the program's way.
-/
import Derived.Test.YticeagjonfifbaaGreatDoorPk1
import Derived.Test.YticeagjonfifbaaGreatDoorFixR
import Derived.Test.YticeagjonfifbaaGreatDoorPk3
import Derived.Test.YticeagjonfifbaaGreatDoorLaid
import Derived.Test.YticeagjonfifbaaGreatDoorPk4
import Derived.Test.YticeagjonfifbaaGreatDoorShFix
namespace Go.Proofs.YticeagjonfifbaaGreatDoor
open Go.RowKit

/-- What the library needs of a world. -/
structure Lib6 (w : World) : Prop where
  tab : Lib.TabIs Tryz.prog w "internal/strconv.uint64pow10" .u64 Lib.pow10Tab
  hg : 1 < w.heap.size
  errS : ∃ tp p, w.var? Tryz.prog "strconv.ErrSyntax" = some #[.iface tp p]
  errR : ∃ tp p, w.var? Tryz.prog "strconv.ErrRange" = some #[.iface tp p]
  mx : ∃ m, w.cell? ⟨4, 0, none⟩ = some (.int .i64 m)
theorem Lib6.mono {w w' : World} (h : Lib6 w) (hB : Below w.heap.size w w') : Lib6 w' := by
  obtain ⟨ht, hg, ⟨tp, p, hs⟩, ⟨tq, q, hr⟩, ⟨m, hm⟩⟩ := h
  exact ⟨tabIs_below ht hB gPow hg, Nat.lt_of_lt_of_le hg hB.size, ⟨tp, p, var?_below hB gES (var_lt gES hs) hs⟩, ⟨tq, q, var?_below hB gER (var_lt gER hr) hr⟩, ⟨m, cell_keep6 hm hB⟩⟩
theorem implNumberE (s : ByteArray) (hsz : s.size ≤ 1048576) (w : World) (h : Lib6 w) :
    Calls Tryz.prog 131 #[.string s] w fun e w' => e = numE s.data.toList ∧ Below w.heap.size w w' := by
  obtain ⟨ht, hg, ⟨tp, p, hs⟩, ⟨tq, q, hr⟩, _⟩ := h
  exact (implNumber s hsz tp tq p q w ht hg hs hr).mono fun _ _ k => ⟨nr_numE k.1, k.2⟩
/-- Whether an integer is a decimal. -/
def decB (n : Int) : Bool := decide (-2147483647 ≤ n ∧ n ≤ 2147483647)
theorem decB_yes {n : Int} (h0 : -2147483647 ≤ n) (h1 : n ≤ 2147483647) : decB n = true := by unfold decB; simp; omega
theorem decB_no {n : Int} (h : n < -2147483647 ∨ 2147483647 < n) : decB n = false := by unfold decB; simp; omega
theorem implIsDecimal (n : Int) (w : World) :
    Calls Tryz.prog 74 #[.int .i64 n] w fun e w' => e = .returned (.bool (decB n)) ∧ w = w' := by
  by_cases h0 : -2147483647 ≤ n
  · by_cases h1 : n ≤ 2147483647
    · rw [decB_yes h0 h1]
      go_enter Tryz.func74, Tryz.ntmps74
      go_wp2
      go_ret
      exact ⟨by first | rfl | (simp; done) | (simp; omega), rfl⟩
    · rw [decB_no (by omega)]
      go_enter Tryz.func74, Tryz.ntmps74
      go_wp2
      go_ret
      exact ⟨by first | rfl | (simp; done) | (simp; omega), rfl⟩
  · rw [decB_no (by omega)]
    go_enter Tryz.func74, Tryz.ntmps74
    go_wp2
    go_ret
    exact ⟨by first | rfl | (simp; done) | (simp; omega), rfl⟩
theorem ret_string {a b : ByteArray} (h : a = b) : Ending.returned (.string a) = .returned (.string b) := by rw [h]
theorem cut_tail {tp : List UInt8} (h : tp.length = 3) : (ByteArray.mk (49 :: tp).toArray).extract 1 4 = ⟨tp.toArray⟩ := by
  rw [extract_mk]
  simp [List.take_of_length_le, h]
theorem fix_sum (sg : List UInt8) {tw tf : List UInt8} : (ByteArray.mk sg.toArray ++ ⟨tw.toArray⟩ ++ ⟨#[46]⟩ ++ ⟨tf.toArray⟩) = ⟨(sg ++ (tw ++ 46 :: tf)).toArray⟩ := by
  apply ByteArray.ext
  simp
theorem libTrimRight (tp tf : List UInt8) (ht : tp.length ≤ 100) (h : Lib.trimRightB tp 48 = tf) (w : World) :
    Calls Tryz.prog 76 #[.string ⟨tp.toArray⟩, .string ⟨#[48]⟩] w fun e w' => e = .returned (.string ⟨tf.toArray⟩) ∧ w = w' :=
  (Tryz.strings_TrimRight_one ⟨tp.toArray⟩ 48 (by decide) w (by simp only [ByteArray.size, List.size_toArray]; omega)).mono fun e w' ⟨he, hw⟩ => ⟨by rw [he, ← h], hw.symm⟩
set_option maxRecDepth 100000 in
set_option maxHeartbeats 1000000 in
theorem implFixText_out (n : Int) (hk : Hid (decB n = false)) (w : World) :
    Calls Tryz.prog 26 #[.int .i64 n] w fun e w' => e = .returned (.string ⟨#[]⟩) ∧ Below w.heap.size w w' := by
  go_enter Tryz.func26, Tryz.ntmps26
  go_wp2_with fail
  refine (implIsDecimal n _).mono ?_
  rintro e w1 ⟨rfl, rfl⟩
  rw [hk.out]
  go_wp2_with fail
  go_ret
  exact ⟨rfl, Below.refl _ _⟩
set_option maxRecDepth 100000 in
set_option maxHeartbeats 1000000 in
theorem implFixText_pos_whole (m : Nat) (hm : m ≤ 2147483647)  (hr : m % 1000 = 0) (hk : Hid (decB ((m : Int)) = true)) (tw : List UInt8) (hd : Hid (Lib.itoa ((m : Int) / 1000) = tw)) (a0 : tw.length ≤ 20)  (w : World) (htab : Lib.TabIs Tryz.prog w "internal/strconv.uint64pow10" .u64 Lib.pow10Tab) (_hg : 1 < w.heap.size) :
    Calls Tryz.prog 26 #[.int .i64 ((m : Int))] w fun e w' => e = .returned (.string ⟨((tw)).toArray⟩) ∧ Below w.heap.size w w' := by
  have q0 : IntKind.i64.wrap ((m : Int) / 1000) = (m : Int) / 1000 := IntWalk.i64_in _ (by omega)
  have q1 : ((m : Int) % 1000 == 0) = true := by rw [beq_iff_eq]; omega
  have d0 : -9223372036854775808 ≤ (m : Int) / 1000 := by omega
  have d1 : (m : Int) / 1000 ≤ 9223372036854775807 := by omega
  clear hr
  go_enter Tryz.func26, Tryz.ntmps26
  go_wp2_with fail
  refine (implIsDecimal _ _).mono ?_
  rintro e w1 ⟨rfl, rfl⟩
  rw [hk.out]
  go_wp2_with fail
  refine (implDigits ((m : Int) / 1000) d0 d1 _ htab).mono ?_
  rintro e w2 ⟨rfl, hB⟩
  rw [hd.out]
  have HT := Lib.hid hB
  clear hB
  go_wp2_with fail
  go_ret
  exact ⟨ret_string (fix_cat ([] : List UInt8) tw), HT.out⟩
set_option maxRecDepth 100000 in
set_option maxHeartbeats 1000000 in
theorem implFixText_pos_frac (m : Nat) (hm : m ≤ 2147483647)  (hr : m % 1000 ≠ 0) (hk : Hid (decB ((m : Int)) = true)) (tw : List UInt8) (hd : Hid (Lib.itoa ((m : Int) / 1000) = tw)) (a0 : tw.length ≤ 20) (tp tf : List UInt8) (hp : Hid (Lib.itoa (1000 + ((m % 1000 : Nat) : Int)) = 49 :: tp)) (hf : Hid (Lib.trimRightB tp 48 = tf)) (a1 : tf.length ≤ 3) (a2 : tp.length = 3) (w : World) (htab : Lib.TabIs Tryz.prog w "internal/strconv.uint64pow10" .u64 Lib.pow10Tab) (hg : 1 < w.heap.size) :
    Calls Tryz.prog 26 #[.int .i64 ((m : Int))] w fun e w' => e = .returned (.string ⟨((tw ++ 46 :: tf)).toArray⟩) ∧ Below w.heap.size w w' := by
  have q0 : IntKind.i64.wrap ((m : Int) / 1000) = (m : Int) / 1000 := IntWalk.i64_in _ (by omega)
  have q1 : ((m : Int) % 1000 == 0) = false := by rw [beq_eq_false_iff_ne]; omega
  have d0 : -9223372036854775808 ≤ (m : Int) / 1000 := by omega
  have d1 : (m : Int) / 1000 ≤ 9223372036854775807 := by omega
  clear hr
  go_enter Tryz.func26, Tryz.ntmps26
  go_wp2_with fail
  refine (implIsDecimal _ _).mono ?_
  rintro e w1 ⟨rfl, rfl⟩
  rw [hk.out]
  go_wp2_with fail
  refine (implDigits ((m : Int) / 1000) d0 d1 _ htab).mono ?_
  rintro e w2 ⟨rfl, hB⟩
  rw [hd.out]
  have HT := Lib.hid hB
  clear hB
  go_wp2_with fail
  refine (implDigits (1000 + (m : Int) % 1000) (by omega) (by omega) _ (tabIs_below htab HT.out gPow hg)).mono ?_
  rintro e w3 ⟨rfl, hB⟩
  have hp2 : Hid (Lib.itoa (1000 + (m : Int) % 1000) = 49 :: tp) := Lib.hid (by have := hp.out; rwa [show ((m % 1000 : Nat) : Int) = (m : Int) % 1000 by omega] at this)
  rw [hp2.out]
  replace HT := Lib.hid (bt HT.out hB)
  clear hB
  go_wp2_with fail
  simp only [cut_tail a2]
  refine (libTrimRight tp tf (by omega) hf.out _).mono ?_
  rintro e w4 ⟨rfl, rfl⟩
  go_wp2_with fail
  go_ret
  exact ⟨ret_string (fix_sum ([] : List UInt8)), HT.out⟩
set_option maxRecDepth 100000 in
set_option maxHeartbeats 1000000 in
theorem implFixText_neg_whole (m : Nat) (hm : m ≤ 2147483647) (hn : -(m : Int) < 0) (hr : m % 1000 = 0) (hk : Hid (decB (-(m : Int)) = true)) (tw : List UInt8) (hd : Hid (Lib.itoa ((m : Int) / 1000) = tw)) (a0 : tw.length ≤ 20)  (w : World) (htab : Lib.TabIs Tryz.prog w "internal/strconv.uint64pow10" .u64 Lib.pow10Tab) (_hg : 1 < w.heap.size) :
    Calls Tryz.prog 26 #[.int .i64 (-(m : Int))] w fun e w' => e = .returned (.string ⟨(45 :: (tw)).toArray⟩) ∧ Below w.heap.size w w' := by
  have q0 : IntKind.i64.wrap ((m : Int) / 1000) = (m : Int) / 1000 := IntWalk.i64_in _ (by omega)
  have q1 : ((m : Int) % 1000 == 0) = true := by rw [beq_iff_eq]; omega
  have d0 : -9223372036854775808 ≤ (m : Int) / 1000 := by omega
  have d1 : (m : Int) / 1000 ≤ 9223372036854775807 := by omega
  clear hr
  go_enter Tryz.func26, Tryz.ntmps26
  go_wp2_with fail
  refine (implIsDecimal _ _).mono ?_
  rintro e w1 ⟨rfl, rfl⟩
  rw [hk.out]
  go_wp2_with fail
  refine (implDigits ((m : Int) / 1000) d0 d1 _ htab).mono ?_
  rintro e w2 ⟨rfl, hB⟩
  rw [hd.out]
  have HT := Lib.hid hB
  clear hB
  go_wp2_with fail
  go_ret
  exact ⟨ret_string (fix_cat [45] tw), HT.out⟩
set_option maxRecDepth 100000 in
set_option maxHeartbeats 1000000 in
theorem implFixText_neg_frac (m : Nat) (hm : m ≤ 2147483647) (hn : -(m : Int) < 0) (hr : m % 1000 ≠ 0) (hk : Hid (decB (-(m : Int)) = true)) (tw : List UInt8) (hd : Hid (Lib.itoa ((m : Int) / 1000) = tw)) (a0 : tw.length ≤ 20) (tp tf : List UInt8) (hp : Hid (Lib.itoa (1000 + ((m % 1000 : Nat) : Int)) = 49 :: tp)) (hf : Hid (Lib.trimRightB tp 48 = tf)) (a1 : tf.length ≤ 3) (a2 : tp.length = 3) (w : World) (htab : Lib.TabIs Tryz.prog w "internal/strconv.uint64pow10" .u64 Lib.pow10Tab) (hg : 1 < w.heap.size) :
    Calls Tryz.prog 26 #[.int .i64 (-(m : Int))] w fun e w' => e = .returned (.string ⟨(45 :: (tw ++ 46 :: tf)).toArray⟩) ∧ Below w.heap.size w w' := by
  have q0 : IntKind.i64.wrap ((m : Int) / 1000) = (m : Int) / 1000 := IntWalk.i64_in _ (by omega)
  have q1 : ((m : Int) % 1000 == 0) = false := by rw [beq_eq_false_iff_ne]; omega
  have d0 : -9223372036854775808 ≤ (m : Int) / 1000 := by omega
  have d1 : (m : Int) / 1000 ≤ 9223372036854775807 := by omega
  clear hr
  go_enter Tryz.func26, Tryz.ntmps26
  go_wp2_with fail
  refine (implIsDecimal _ _).mono ?_
  rintro e w1 ⟨rfl, rfl⟩
  rw [hk.out]
  go_wp2_with fail
  refine (implDigits ((m : Int) / 1000) d0 d1 _ htab).mono ?_
  rintro e w2 ⟨rfl, hB⟩
  rw [hd.out]
  have HT := Lib.hid hB
  clear hB
  go_wp2_with fail
  refine (implDigits (1000 + (m : Int) % 1000) (by omega) (by omega) _ (tabIs_below htab HT.out gPow hg)).mono ?_
  rintro e w3 ⟨rfl, hB⟩
  have hp2 : Hid (Lib.itoa (1000 + (m : Int) % 1000) = 49 :: tp) := Lib.hid (by have := hp.out; rwa [show ((m % 1000 : Nat) : Int) = (m : Int) % 1000 by omega] at this)
  rw [hp2.out]
  replace HT := Lib.hid (bt HT.out hB)
  clear hB
  go_wp2_with fail
  simp only [cut_tail a2]
  refine (libTrimRight tp tf (by omega) hf.out _).mono ?_
  rintro e w4 ⟨rfl, rfl⟩
  go_wp2_with fail
  go_ret
  exact ⟨ret_string (fix_sum [45]), HT.out⟩
end Go.Proofs.YticeagjonfifbaaGreatDoor
