
/-
  Chapter 2: the walk of the law over halved sums.
-/
import Derived.Test.YtiaajlgpddfahaaTwo
import Derived.Test.YtiaajlgpddfahaaWideB
namespace Go.Proofs.Ytiaajlgpddfahaa
open Go.RowKit

theorem wideC_shape (z : Int) : ∃ (n : Bool) (h l : Int), wideC z = .agg #[.bool n, .int .u64 h, .int .u64 l] := ⟨_, _, _, rfl⟩
theorem room_small {z : Int} (h0 : -36893488147419103232 ≤ z) (h1 : z ≤ 36893488147419103232) : RoomW z := by unfold RoomW; omega

set_option maxRecDepth 100000 in
set_option maxHeartbeats 2000000 in
theorem lawFnHalf (w : World) (v : Value) (n : Nat) (hb : Bytes w v n) :
    Calls Try.prog 4 #[v] w fun e w' => e = .returned (.bool true) ∧ Below w.heap.size w w' := by
  by_cases hbig : 1048576 < n
  · go_enter Try.func4, Try.ntmps4
    go_wp2_with fail
    refine (big_yes w v n hb hbig).mono ?_
    rintro e w1 ⟨rfl, rfl⟩
    go_wp2_with fail
    go_ret
    exact ⟨rfl, Below.refl _ _⟩
  · go_enter Try.func4, Try.ntmps4
    go_wp2_with fail
    refine (big_no w v n hb hbig).mono ?_
    rintro e w1 ⟨rfl, rfl⟩
    go_wp2_with fail
    refine (drawHalfSum w v n hb).mono ?_
    rintro e w1 ⟨⟨a, b, ha, hc, rfl⟩, hT1⟩
    obtain ⟨a0, a1⟩ := ha
    obtain ⟨c0, c1⟩ := hc
    clear hb hbig
    by_cases hlt : b < a
    · skip
      obtain ⟨n1, h1, l1, hs1⟩ := wideC_shape ((a + b) / 2 - b)
      have E1 := Lib.hid hs1
      obtain ⟨n2, h2, l2, hs2⟩ := wideC_shape (a - (a + b) / 2)
      have E2 := Lib.hid hs2
      obtain ⟨n3, h3, l3, hs3⟩ := wideC_shape (a - (a + b) / 2 - ((a + b) / 2 - b))
      have E3 := Lib.hid hs3
      have F1 : Hid (fitW ((a + b) / 2 - b) = _) := fitW_in (room_small (by omega) (by omega))
      have F2 : Hid (fitW (a - (a + b) / 2) = _) := fitW_in (room_small (by omega) (by omega))
      have F3 : Hid (fitW (a - (a + b) / 2 - ((a + b) / 2 - b)) = _) := fitW_in (room_small (by omega) (by omega))
      have HD : Hid (∃ d : Int, a - (a + b) / 2 - ((a + b) / 2 - b) = d ∧ (d = 0 ∨ d = 1)) := ⟨_, rfl, by omega⟩
      clear hs1 hs2 hs3
      go_wp2_with fail
      refine (implHalfSum a b a0 a1 c0 c1 _).mono ?_
      rintro e w2 ⟨rfl, hB2⟩
      have hT2 := bt hT1 hB2
      clear hT1 hB2
      go_wp2_with fail
      refine (implHalfSum b a c0 c1 a0 a1 _).mono ?_
      rintro e w3 ⟨rfl, hB3⟩
      rw [Int.add_comm b a]
      have hT3 := bt hT2 hB3
      clear hT2 hB3
      go_wp2_with fail
      refine (specHalfSum a b a0 a1 c0 c1 _).mono ?_
      rintro e w4 ⟨rfl, hB4⟩
      have hT4 := bt hT3 hB4
      clear hT3 hB4
      go_wp2_with fail
      refine (specWideOfW ((a + b) / 2) (by omega) (by omega) _).mono ?_
      rintro e w5 ⟨rfl, hB5⟩
      have hT5 := bt hT4 hB5
      clear hT4 hB5
      go_wp2_with fail
      refine (specWideOfW b c0 c1 _).mono ?_
      rintro e w6 ⟨rfl, hB6⟩
      have hT6 := bt hT5 hB6
      clear hT5 hB6
      go_wp2_with fail
      refine (specSubW ((a + b) / 2) b (room_small (by omega) (by omega)) (room_small (by omega) (by omega)) _).mono ?_
      rintro e w7 ⟨rfl, hB7⟩
      have hT7 := bt hT6 hB7
      clear hT6 hB7
      rw [F1.out, E1.out]
      go_wp2_with fail
      refine (specWideOfW a a0 a1 _).mono ?_
      rintro e w8 ⟨rfl, hB8⟩
      have hX8 := box_kept hB8
      have hT8 := bt hT7 (box_below hB8)
      have hs8 : w7.heap.size + 1 ≤ w8.heap.size := by have := hB8.size; simpa using this
      clear hT7 hB8
      go_wp2_with fail
      refine (specWideOfW ((a + b) / 2) (by omega) (by omega) _).mono ?_
      rintro e w9 ⟨rfl, hB9⟩
      have hX9 := box_still hX8 hB9
      have hT9 := bt hT8 hB9
      have hs9 := Nat.le_trans hs8 hB9.size
      clear hT8 hB9 hX8 hs8
      go_wp2_with fail
      refine (specSubW a ((a + b) / 2) (room_small (by omega) (by omega)) (room_small (by omega) (by omega)) _).mono ?_
      rintro e w10 ⟨rfl, hB10⟩
      have hX10 := box_still hX9 hB10
      have hT10 := bt hT9 hB10
      have hs10 := Nat.le_trans hs9 hB10.size
      clear hT9 hB10 hX9 hs9
      rw [F2.out, E2.out]
      have hcx0 : w10.cell? ⟨w7.heap.size, 0, none⟩ = some (.bool n1) := cell_blk hX10 0
      have hcx1 : w10.cell? ⟨w7.heap.size, 1, none⟩ = some (.int .u64 h1) := cell_blk hX10 1
      have hcx2 : w10.cell? ⟨w7.heap.size, 2, none⟩ = some (.int .u64 l1) := cell_blk hX10 2
      have hlx : w7.heap.size < w10.heap.size := by omega
      clear hX10
      go_wp2_with fail
      have cs := specSubW (a - (a + b) / 2) ((a + b) / 2 - b) (room_small (by omega) (by omega)) (room_small (by omega) (by omega)) (w10.alloc (.cells #[.bool n2, .int .u64 h2, .int .u64 l2] 31))
      rw [E1.out, E2.out] at cs
      refine cs.mono ?_
      clear cs
      rintro e w11 ⟨rfl, hB11⟩
      have hT11 := bt hT10 (box_below hB11)
      clear hT10 hB11
      rw [F3.out, E3.out]
      go_wp2_with fail
      have cs := specIntOfW (a - (a + b) / 2 - ((a + b) / 2 - b)) (by omega) (by omega) (w11.alloc (.cells #[.bool n3, .int .u64 h3, .int .u64 l3] 31))
      rw [E3.out] at cs
      refine cs.mono ?_
      clear cs
      rintro e w12 ⟨rfl, hB12⟩
      have hT12 := bt hT11 (box_below hB12)
      clear hT11 hB12
      obtain ⟨d, hd, hd01⟩ := HD.out
      rw [hd]
      clear hd
      have q1 : b ≤ (a + b) / 2 := by omega
      have q2 : (a + b) / 2 ≤ a := by omega
      rcases hd01 with rfl | rfl
      · go_wp2_with fail
        go_ret
        exact ⟨by first | rfl | simp, hT12⟩
      · go_wp2_with fail
        go_ret
        exact ⟨by first | rfl | simp, hT12⟩
    · skip
      obtain ⟨n1, h1, l1, hs1⟩ := wideC_shape ((a + b) / 2 - a)
      have E1 := Lib.hid hs1
      obtain ⟨n2, h2, l2, hs2⟩ := wideC_shape (b - (a + b) / 2)
      have E2 := Lib.hid hs2
      obtain ⟨n3, h3, l3, hs3⟩ := wideC_shape (b - (a + b) / 2 - ((a + b) / 2 - a))
      have E3 := Lib.hid hs3
      have F1 : Hid (fitW ((a + b) / 2 - a) = _) := fitW_in (room_small (by omega) (by omega))
      have F2 : Hid (fitW (b - (a + b) / 2) = _) := fitW_in (room_small (by omega) (by omega))
      have F3 : Hid (fitW (b - (a + b) / 2 - ((a + b) / 2 - a)) = _) := fitW_in (room_small (by omega) (by omega))
      have HD : Hid (∃ d : Int, b - (a + b) / 2 - ((a + b) / 2 - a) = d ∧ (d = 0 ∨ d = 1)) := ⟨_, rfl, by omega⟩
      clear hs1 hs2 hs3
      go_wp2_with fail
      refine (implHalfSum a b a0 a1 c0 c1 _).mono ?_
      rintro e w2 ⟨rfl, hB2⟩
      have hT2 := bt hT1 hB2
      clear hT1 hB2
      go_wp2_with fail
      refine (implHalfSum b a c0 c1 a0 a1 _).mono ?_
      rintro e w3 ⟨rfl, hB3⟩
      rw [Int.add_comm b a]
      have hT3 := bt hT2 hB3
      clear hT2 hB3
      go_wp2_with fail
      refine (specHalfSum a b a0 a1 c0 c1 _).mono ?_
      rintro e w4 ⟨rfl, hB4⟩
      have hT4 := bt hT3 hB4
      clear hT3 hB4
      go_wp2_with fail
      refine (specWideOfW ((a + b) / 2) (by omega) (by omega) _).mono ?_
      rintro e w5 ⟨rfl, hB5⟩
      have hT5 := bt hT4 hB5
      clear hT4 hB5
      go_wp2_with fail
      refine (specWideOfW a a0 a1 _).mono ?_
      rintro e w6 ⟨rfl, hB6⟩
      have hT6 := bt hT5 hB6
      clear hT5 hB6
      go_wp2_with fail
      refine (specSubW ((a + b) / 2) a (room_small (by omega) (by omega)) (room_small (by omega) (by omega)) _).mono ?_
      rintro e w7 ⟨rfl, hB7⟩
      have hT7 := bt hT6 hB7
      clear hT6 hB7
      rw [F1.out, E1.out]
      go_wp2_with fail
      refine (specWideOfW b c0 c1 _).mono ?_
      rintro e w8 ⟨rfl, hB8⟩
      have hX8 := box_kept hB8
      have hT8 := bt hT7 (box_below hB8)
      have hs8 : w7.heap.size + 1 ≤ w8.heap.size := by have := hB8.size; simpa using this
      clear hT7 hB8
      go_wp2_with fail
      refine (specWideOfW ((a + b) / 2) (by omega) (by omega) _).mono ?_
      rintro e w9 ⟨rfl, hB9⟩
      have hX9 := box_still hX8 hB9
      have hT9 := bt hT8 hB9
      have hs9 := Nat.le_trans hs8 hB9.size
      clear hT8 hB9 hX8 hs8
      go_wp2_with fail
      refine (specSubW b ((a + b) / 2) (room_small (by omega) (by omega)) (room_small (by omega) (by omega)) _).mono ?_
      rintro e w10 ⟨rfl, hB10⟩
      have hX10 := box_still hX9 hB10
      have hT10 := bt hT9 hB10
      have hs10 := Nat.le_trans hs9 hB10.size
      clear hT9 hB10 hX9 hs9
      rw [F2.out, E2.out]
      have hcx0 : w10.cell? ⟨w7.heap.size, 0, none⟩ = some (.bool n1) := cell_blk hX10 0
      have hcx1 : w10.cell? ⟨w7.heap.size, 1, none⟩ = some (.int .u64 h1) := cell_blk hX10 1
      have hcx2 : w10.cell? ⟨w7.heap.size, 2, none⟩ = some (.int .u64 l1) := cell_blk hX10 2
      have hlx : w7.heap.size < w10.heap.size := by omega
      clear hX10
      go_wp2_with fail
      have cs := specSubW (b - (a + b) / 2) ((a + b) / 2 - a) (room_small (by omega) (by omega)) (room_small (by omega) (by omega)) (w10.alloc (.cells #[.bool n2, .int .u64 h2, .int .u64 l2] 31))
      rw [E1.out, E2.out] at cs
      refine cs.mono ?_
      clear cs
      rintro e w11 ⟨rfl, hB11⟩
      have hT11 := bt hT10 (box_below hB11)
      clear hT10 hB11
      rw [F3.out, E3.out]
      go_wp2_with fail
      have cs := specIntOfW (b - (a + b) / 2 - ((a + b) / 2 - a)) (by omega) (by omega) (w11.alloc (.cells #[.bool n3, .int .u64 h3, .int .u64 l3] 31))
      rw [E3.out] at cs
      refine cs.mono ?_
      clear cs
      rintro e w12 ⟨rfl, hB12⟩
      have hT12 := bt hT11 (box_below hB12)
      clear hT11 hB12
      obtain ⟨d, hd, hd01⟩ := HD.out
      rw [hd]
      clear hd
      have q1 : a ≤ (a + b) / 2 := by omega
      have q2 : (a + b) / 2 ≤ b := by omega
      rcases hd01 with rfl | rfl
      · go_wp2_with fail
        go_ret
        exact ⟨by first | rfl | simp, hT12⟩
      · go_wp2_with fail
        go_ret
        exact ⟨by first | rfl | simp, hT12⟩
end Go.Proofs.Ytiaajlgpddfahaa
