/-
  What the reference answers for a field's text and for the text of rows.
-/
import Derived.Test.YticeagjonfifbaaGreatDoorPk3
import Derived.Test.YticeagjonfifbaaGreatDoorPk1
import Derived.Test.YticeagjonfifbaaGreatDoorPk4
import Derived.Deep.LoopGhost
namespace Go.Proofs.YticeagjonfifbaaGreatDoor
open Go.RowKit

theorem any_snoc (l : List UInt8) (c : UInt8) : (l ++ [c]).any spB = (l.any spB || spB c) := by simp
theorem dblL_one (c : UInt8) : dblL [c] = if c = 34 then [34, 34] else [c] := by
  rw [dblL]
  split <;> rfl
/-- A quoted field's text so far. -/
def quoS (l : List UInt8) : List UInt8 := 34 :: dblL l
theorem quoS_len (l : List UInt8) : (quoS l).length ≤ 2 * l.length + 1 := by
  have := dblL_len l
  simp only [quoS, List.length_cons]
  omega
theorem quoS_two (l : List UInt8) : quoS (l ++ [34]) = quoS l ++ [34] ++ [34] := by simp [quoS, dblL_append, dblL_one]
theorem quoS_one (l : List UInt8) {c : UInt8} (h : ¬ c = 34) : quoS (l ++ [c]) = quoS l ++ [c] := by simp [quoS, dblL_append, dblL_one, h]
theorem csvF_yes {l : List UInt8} (h : l.any spB = true) : csvF l = quoS l ++ [34] := by rw [csvF, if_pos h]; rfl
theorem ret_bytes {s : ByteArray} {l : List UInt8} (h : l = s.data.toList) : Ending.returned (.string s) = .returned (.string ⟨l.toArray⟩) := by rw [h, mk_toList]
theorem csvF_no {l : List UInt8} (h : l.any spB = false) : csvF l = l := by rw [csvF, if_neg (by simp [h])]

set_option maxRecDepth 100000 in
set_option maxHeartbeats 2000000 in
theorem specCsvField (s : ByteArray) (hs : s.size ≤ 1099511627776) (w : World) :
    Calls Tryz.prog 82 #[.string s] w fun e w' => e = .returned (.string ⟨(csvF s.data.toList).toArray⟩) ∧ Below w.heap.size w w' := by
  obtain ⟨i0, hi, hz0, hz1, hz2⟩ := info_parts infoU8
  go_enter Tryz.func82, Tryz.ntmps82
  go_wp2_with fail
  go_loopw [3, 4, 5] (fun q v i wr => ∃ k : Nat, k ≤ s.size ∧ i = .int .i64 k ∧ q = .bool ((s.data.toList.take k).any spB) ∧ ByRow wr w.heap.size v (quoS (s.data.toList.take k)) ∧ Below w.heap.size w wr) (fun _ _ i _ => s.size - (intOf i).toNat)
  case atStart => exact ⟨0, Nat.zero_le _, rfl, rfl, byRow_lit w 34 _ rfl, (Below.refl _ _).alloc (Nat.le_refl _) _⟩
  case round =>
    obtain ⟨k, hk, rfl, rfl, hR, hB⟩ := hrel
    have hlen : (quoS (s.data.toList.take k)).length ≤ 2 * k + 1 := by
      have h1 := quoS_len (s.data.toList.take k)
      have h2 : (s.data.toList.take k).length ≤ k := List.length_take_le _ _
      omega
    obtain ⟨Q, hQ⟩ : ∃ Q : Bool, (s.data.toList.take k).any spB = Q := ⟨_, rfl⟩
    by_cases hlt : k < s.size
    · have hk1 : (k : Int) < s.size := by omega
      have hk0 : (0 : Int) ≤ k := by omega
      rw [hQ]
      obtain ⟨hown, g, cap, rfl⟩ := hR
      have hR : ByRow wr w.heap.size (.slice (some ⟨g, 0, none⟩) (quoS (s.data.toList.take k)).length cap) (quoS (s.data.toList.take k)) := ⟨hown, g, cap, rfl⟩
      clear hown
      by_cases h34 : s[k] = 34
      · have hc := h34
        cases Q
        · have e34 : ((s[k].toNat : Int) == 34) = true := by rw [hc]; decide
          have e44 : ((s[k].toNat : Int) == 44) = false := by rw [hc]; decide
          have e10 : ((s[k].toNat : Int) == 10) = false := by rw [hc]; decide
          have e13 : ((s[k].toNat : Int) == 13) = false := by rw [hc]; decide
          have HQ : Hid ((s.data.toList.take (k + 1)).any spB = true) := Lib.hid (by rw [take_at hlt, any_snoc, hQ]; first | rfl | (rw [hc]; rfl) | simp only [Bool.true_or] | exact hsp)
          have HL : Hid (quoS (s.data.toList.take (k + 1)) = quoS (s.data.toList.take k) ++ [34] ++ [34]) := Lib.hid (by rw [take_at hlt, hc, quoS_two])
          clear hQ hc
          generalize quoS (s.data.toList.take k) = l at hR HL hlen
          have hbnd := Lib.hid hlen
          clear hlen
          go_wp2_with (at_builtin; refine wpList_append_own _ rfl _ _ 22 rfl w.heap.size 5 i0 (.int .u8 0) 1 1 Tryz.underlying22 hi hz0 hz1 hz2 rfl (by decide) _ _ _ rfl (hR.1.alloc _) ⟨wr.heap.size, 0, none⟩ 1 1 [.int .u8 34] rfl rfl ?c1 ?c2 ?c3 ?c4 ?c5 ?_)
          try (case c1 => exact news_one)
          case c2 => first | (intro u hu; simp at hu; subst hu; rfl) | rfl
          case c3 => have := hbnd.out; unfold maxLen; omega
          case c4 => have := hbnd.out; omega
          case c5 => have := hB.size; simp; omega
          intro v1 w1 hown1 hg1 _
          have hR1 := byRow_one (c := 34) rfl hown1
          have hB1 := below_one hB.size hB hR hg1
          clear hown1 hg1 hR hB
          have hbnd1 : Hid ((l ++ [34]).length ≤ 2 * k + 2) := Lib.hid (by have := hbnd.out; simp; omega)
          generalize l ++ [34] = l1 at hR1 HL hbnd1
          obtain ⟨hown, g, cap, rfl⟩ := hR1
          have hR1 : ByRow w1 w.heap.size (.slice (some ⟨g, 0, none⟩) l1.length cap) l1 := ⟨hown, g, cap, rfl⟩
          clear hown
          go_wp2_with (at_builtin; refine wpList_append_own _ rfl _ _ 22 rfl w.heap.size 5 i0 (.int .u8 0) 1 1 Tryz.underlying22 hi hz0 hz1 hz2 rfl (by decide) _ _ _ rfl (hR1.1.alloc _) ⟨w1.heap.size, 0, none⟩ 1 1 [.int .u8 34] rfl rfl ?d1 ?d2 ?d3 ?d4 ?d5 ?_)
          try (case d1 => exact news_one)
          case d2 => first | (intro u hu; simp at hu; subst hu; rfl) | rfl
          case d3 => have := hbnd1.out; unfold maxLen; omega
          case d4 => have := hbnd1.out; omega
          case d5 => have := hB1.size; simp; omega
          intro v2 w2 hown2 hg2 _
          have hR2 := byRow_one (c := 34) rfl hown2
          have hB2 := below_one hB1.size hB1 hR1 hg2
          clear hown2 hg2 hR1 hB1
          go_wp2_with fail
          go_roundw
          case rel => exact ⟨k + 1, by omega, by go_num, by rw [HQ.out], by rw [HL.out]; exact hR2, hB2⟩
          case measure => simp [intOf]; omega
        · have e34 : ((s[k].toNat : Int) == 34) = true := by rw [hc]; decide
          have e44 : ((s[k].toNat : Int) == 44) = false := by rw [hc]; decide
          have e10 : ((s[k].toNat : Int) == 10) = false := by rw [hc]; decide
          have e13 : ((s[k].toNat : Int) == 13) = false := by rw [hc]; decide
          have HQ : Hid ((s.data.toList.take (k + 1)).any spB = true) := Lib.hid (by rw [take_at hlt, any_snoc, hQ]; first | rfl | (rw [hc]; rfl) | simp only [Bool.true_or] | exact hsp)
          have HL : Hid (quoS (s.data.toList.take (k + 1)) = quoS (s.data.toList.take k) ++ [34] ++ [34]) := Lib.hid (by rw [take_at hlt, hc, quoS_two])
          clear hQ hc
          generalize quoS (s.data.toList.take k) = l at hR HL hlen
          have hbnd := Lib.hid hlen
          clear hlen
          go_wp2_with (at_builtin; refine wpList_append_own _ rfl _ _ 22 rfl w.heap.size 5 i0 (.int .u8 0) 1 1 Tryz.underlying22 hi hz0 hz1 hz2 rfl (by decide) _ _ _ rfl (hR.1.alloc _) ⟨wr.heap.size, 0, none⟩ 1 1 [.int .u8 34] rfl rfl ?c1 ?c2 ?c3 ?c4 ?c5 ?_)
          try (case c1 => exact news_one)
          case c2 => first | (intro u hu; simp at hu; subst hu; rfl) | rfl
          case c3 => have := hbnd.out; unfold maxLen; omega
          case c4 => have := hbnd.out; omega
          case c5 => have := hB.size; simp; omega
          intro v1 w1 hown1 hg1 _
          have hR1 := byRow_one (c := 34) rfl hown1
          have hB1 := below_one hB.size hB hR hg1
          clear hown1 hg1 hR hB
          have hbnd1 : Hid ((l ++ [34]).length ≤ 2 * k + 2) := Lib.hid (by have := hbnd.out; simp; omega)
          generalize l ++ [34] = l1 at hR1 HL hbnd1
          obtain ⟨hown, g, cap, rfl⟩ := hR1
          have hR1 : ByRow w1 w.heap.size (.slice (some ⟨g, 0, none⟩) l1.length cap) l1 := ⟨hown, g, cap, rfl⟩
          clear hown
          go_wp2_with (at_builtin; refine wpList_append_own _ rfl _ _ 22 rfl w.heap.size 5 i0 (.int .u8 0) 1 1 Tryz.underlying22 hi hz0 hz1 hz2 rfl (by decide) _ _ _ rfl (hR1.1.alloc _) ⟨w1.heap.size, 0, none⟩ 1 1 [.int .u8 34] rfl rfl ?d1 ?d2 ?d3 ?d4 ?d5 ?_)
          try (case d1 => exact news_one)
          case d2 => first | (intro u hu; simp at hu; subst hu; rfl) | rfl
          case d3 => have := hbnd1.out; unfold maxLen; omega
          case d4 => have := hbnd1.out; omega
          case d5 => have := hB1.size; simp; omega
          intro v2 w2 hown2 hg2 _
          have hR2 := byRow_one (c := 34) rfl hown2
          have hB2 := below_one hB1.size hB1 hR1 hg2
          clear hown2 hg2 hR1 hB1
          go_wp2_with fail
          go_roundw
          case rel => exact ⟨k + 1, by omega, by go_num, by rw [HQ.out], by rw [HL.out]; exact hR2, hB2⟩
          case measure => simp [intOf]; omega
      · have e34 : ((s[k].toNat : Int) == 34) = false := byte_ne (c := 34) h34
        cases Q
        · by_cases hsp : spB s[k] = true
          · have hc3 : s[k] = 44 ∨ s[k] = 10 ∨ s[k] = 13 := by
              simp only [spB, Bool.or_eq_true, beq_iff_eq] at hsp
              rcases hsp with ((h | h) | h) | h
              · exact Or.inl h
              · exact absurd h h34
              · exact Or.inr (Or.inl h)
              · exact Or.inr (Or.inr h)
            clear hsp
            rcases hc3 with hc | hc | hc
            · have e44 : ((s[k].toNat : Int) == 44) = true := by rw [hc]; decide
              have e10 : ((s[k].toNat : Int) == 10) = false := by rw [hc]; decide
              have e13 : ((s[k].toNat : Int) == 13) = false := by rw [hc]; decide
              have HQ : Hid ((s.data.toList.take (k + 1)).any spB = true) := Lib.hid (by rw [take_at hlt, any_snoc, hQ]; first | rfl | (rw [hc]; rfl) | simp only [Bool.true_or] | exact hsp)
              have HL : Hid (quoS (s.data.toList.take (k + 1)) = quoS (s.data.toList.take k) ++ [s[k]]) := Lib.hid (by rw [take_at hlt, quoS_one _ h34])
              clear hQ hc
              generalize quoS (s.data.toList.take k) = l at hR HL hlen
              have hbnd := Lib.hid hlen
              clear hlen
              go_wp2_with (at_builtin; refine wpList_append_own _ rfl _ _ 22 rfl w.heap.size 5 i0 (.int .u8 0) 1 1 Tryz.underlying22 hi hz0 hz1 hz2 rfl (by decide) _ _ _ rfl (hR.1.alloc _) ⟨wr.heap.size, 0, none⟩ 1 1 [.int .u8 (s[k].toNat : Int)] rfl rfl ?c1 ?c2 ?c3 ?c4 ?c5 ?_)
              try (case c1 => exact news_one)
              case c2 => first | (intro u hu; simp at hu; subst hu; rfl) | rfl
              case c3 => have := hbnd.out; unfold maxLen; omega
              case c4 => have := hbnd.out; omega
              case c5 => have := hB.size; simp; omega
              intro v1 w1 hown1 hg1 _
              have hR1 := byRow_one (c := s[k]) rfl hown1
              have hB1 := below_one hB.size hB hR hg1
              clear hown1 hg1 hR hB
              go_wp2_with fail
              go_roundw
              case rel => exact ⟨k + 1, by omega, by go_num, by rw [HQ.out], by rw [HL.out]; exact hR1, hB1⟩
              case measure => simp [intOf]; omega
            · have e10 : ((s[k].toNat : Int) == 10) = true := by rw [hc]; decide
              have e44 : ((s[k].toNat : Int) == 44) = false := by rw [hc]; decide
              have e13 : ((s[k].toNat : Int) == 13) = false := by rw [hc]; decide
              have HQ : Hid ((s.data.toList.take (k + 1)).any spB = true) := Lib.hid (by rw [take_at hlt, any_snoc, hQ]; first | rfl | (rw [hc]; rfl) | simp only [Bool.true_or] | exact hsp)
              have HL : Hid (quoS (s.data.toList.take (k + 1)) = quoS (s.data.toList.take k) ++ [s[k]]) := Lib.hid (by rw [take_at hlt, quoS_one _ h34])
              clear hQ hc
              generalize quoS (s.data.toList.take k) = l at hR HL hlen
              have hbnd := Lib.hid hlen
              clear hlen
              go_wp2_with (at_builtin; refine wpList_append_own _ rfl _ _ 22 rfl w.heap.size 5 i0 (.int .u8 0) 1 1 Tryz.underlying22 hi hz0 hz1 hz2 rfl (by decide) _ _ _ rfl (hR.1.alloc _) ⟨wr.heap.size, 0, none⟩ 1 1 [.int .u8 (s[k].toNat : Int)] rfl rfl ?c1 ?c2 ?c3 ?c4 ?c5 ?_)
              try (case c1 => exact news_one)
              case c2 => first | (intro u hu; simp at hu; subst hu; rfl) | rfl
              case c3 => have := hbnd.out; unfold maxLen; omega
              case c4 => have := hbnd.out; omega
              case c5 => have := hB.size; simp; omega
              intro v1 w1 hown1 hg1 _
              have hR1 := byRow_one (c := s[k]) rfl hown1
              have hB1 := below_one hB.size hB hR hg1
              clear hown1 hg1 hR hB
              go_wp2_with fail
              go_roundw
              case rel => exact ⟨k + 1, by omega, by go_num, by rw [HQ.out], by rw [HL.out]; exact hR1, hB1⟩
              case measure => simp [intOf]; omega
            · have e13 : ((s[k].toNat : Int) == 13) = true := by rw [hc]; decide
              have e44 : ((s[k].toNat : Int) == 44) = false := by rw [hc]; decide
              have e10 : ((s[k].toNat : Int) == 10) = false := by rw [hc]; decide
              have HQ : Hid ((s.data.toList.take (k + 1)).any spB = true) := Lib.hid (by rw [take_at hlt, any_snoc, hQ]; first | rfl | (rw [hc]; rfl) | simp only [Bool.true_or] | exact hsp)
              have HL : Hid (quoS (s.data.toList.take (k + 1)) = quoS (s.data.toList.take k) ++ [s[k]]) := Lib.hid (by rw [take_at hlt, quoS_one _ h34])
              clear hQ hc
              generalize quoS (s.data.toList.take k) = l at hR HL hlen
              have hbnd := Lib.hid hlen
              clear hlen
              go_wp2_with (at_builtin; refine wpList_append_own _ rfl _ _ 22 rfl w.heap.size 5 i0 (.int .u8 0) 1 1 Tryz.underlying22 hi hz0 hz1 hz2 rfl (by decide) _ _ _ rfl (hR.1.alloc _) ⟨wr.heap.size, 0, none⟩ 1 1 [.int .u8 (s[k].toNat : Int)] rfl rfl ?c1 ?c2 ?c3 ?c4 ?c5 ?_)
              try (case c1 => exact news_one)
              case c2 => first | (intro u hu; simp at hu; subst hu; rfl) | rfl
              case c3 => have := hbnd.out; unfold maxLen; omega
              case c4 => have := hbnd.out; omega
              case c5 => have := hB.size; simp; omega
              intro v1 w1 hown1 hg1 _
              have hR1 := byRow_one (c := s[k]) rfl hown1
              have hB1 := below_one hB.size hB hR hg1
              clear hown1 hg1 hR hB
              go_wp2_with fail
              go_roundw
              case rel => exact ⟨k + 1, by omega, by go_num, by rw [HQ.out], by rw [HL.out]; exact hR1, hB1⟩
              case measure => simp [intOf]; omega
          · replace hsp : spB s[k] = false := by simpa using hsp
            have hno : ¬ s[k] = 44 ∧ ¬ s[k] = 10 ∧ ¬ s[k] = 13 := by
              refine ⟨?_, ?_, ?_⟩ <;> (intro h; rw [h] at hsp; revert hsp; decide)
            have e44 : ((s[k].toNat : Int) == 44) = false := byte_ne (c := 44) hno.1
            have e10 : ((s[k].toNat : Int) == 10) = false := byte_ne (c := 10) hno.2.1
            have e13 : ((s[k].toNat : Int) == 13) = false := byte_ne (c := 13) hno.2.2
            have HQ : Hid ((s.data.toList.take (k + 1)).any spB = false) := Lib.hid (by rw [take_at hlt, any_snoc, hQ]; first | rfl | (rw [hc]; rfl) | simp only [Bool.true_or] | exact hsp)
            clear hno hsp
            have HL : Hid (quoS (s.data.toList.take (k + 1)) = quoS (s.data.toList.take k) ++ [s[k]]) := Lib.hid (by rw [take_at hlt, quoS_one _ h34])
            clear hQ
            generalize quoS (s.data.toList.take k) = l at hR HL hlen
            have hbnd := Lib.hid hlen
            clear hlen
            go_wp2_with (at_builtin; refine wpList_append_own _ rfl _ _ 22 rfl w.heap.size 5 i0 (.int .u8 0) 1 1 Tryz.underlying22 hi hz0 hz1 hz2 rfl (by decide) _ _ _ rfl (hR.1.alloc _) ⟨wr.heap.size, 0, none⟩ 1 1 [.int .u8 (s[k].toNat : Int)] rfl rfl ?c1 ?c2 ?c3 ?c4 ?c5 ?_)
            try (case c1 => exact news_one)
            case c2 => first | (intro u hu; simp at hu; subst hu; rfl) | rfl
            case c3 => have := hbnd.out; unfold maxLen; omega
            case c4 => have := hbnd.out; omega
            case c5 => have := hB.size; simp; omega
            intro v1 w1 hown1 hg1 _
            have hR1 := byRow_one (c := s[k]) rfl hown1
            have hB1 := below_one hB.size hB hR hg1
            clear hown1 hg1 hR hB
            go_wp2_with fail
            go_roundw
            case rel => exact ⟨k + 1, by omega, by go_num, by rw [HQ.out], by rw [HL.out]; exact hR1, hB1⟩
            case measure => simp [intOf]; omega
        · have HQ : Hid ((s.data.toList.take (k + 1)).any spB = true) := Lib.hid (by rw [take_at hlt, any_snoc, hQ]; first | rfl | (rw [hc]; rfl) | simp only [Bool.true_or] | exact hsp)
          have HL : Hid (quoS (s.data.toList.take (k + 1)) = quoS (s.data.toList.take k) ++ [s[k]]) := Lib.hid (by rw [take_at hlt, quoS_one _ h34])
          clear hQ
          generalize quoS (s.data.toList.take k) = l at hR HL hlen
          have hbnd := Lib.hid hlen
          clear hlen
          go_wp2_with (at_builtin; refine wpList_append_own _ rfl _ _ 22 rfl w.heap.size 5 i0 (.int .u8 0) 1 1 Tryz.underlying22 hi hz0 hz1 hz2 rfl (by decide) _ _ _ rfl (hR.1.alloc _) ⟨wr.heap.size, 0, none⟩ 1 1 [.int .u8 (s[k].toNat : Int)] rfl rfl ?c1 ?c2 ?c3 ?c4 ?c5 ?_)
          try (case c1 => exact news_one)
          case c2 => first | (intro u hu; simp at hu; subst hu; rfl) | rfl
          case c3 => have := hbnd.out; unfold maxLen; omega
          case c4 => have := hbnd.out; omega
          case c5 => have := hB.size; simp; omega
          intro v1 w1 hown1 hg1 _
          have hR1 := byRow_one (c := s[k]) rfl hown1
          have hB1 := below_one hB.size hB hR hg1
          clear hown1 hg1 hR hB
          go_wp2_with fail
          go_roundw
          case rel => exact ⟨k + 1, by omega, by go_num, by rw [HQ.out], by rw [HL.out]; exact hR1, hB1⟩
          case measure => simp [intOf]; omega
    · have hks : k = s.size := by omega
      have hk1 : ¬ (k : Int) < s.size := by omega
      rw [hQ]
      rw [hks, take_all] at hR hQ
      rw [hks, take_all] at hlen
      obtain ⟨hown, g, cap, rfl⟩ := hR
      have hR : ByRow wr w.heap.size (.slice (some ⟨g, 0, none⟩) (quoS s.data.toList).length cap) (quoS s.data.toList) := ⟨hown, g, cap, rfl⟩
      clear hown
      cases Q
      · have HQ := Lib.hid hQ
        clear hQ hks
        go_wp2_with fail
        go_ret
        exact ⟨ret_bytes (csvF_no HQ.out), hB⟩
      · clear hks
        have HL : Hid (csvF s.data.toList = quoS s.data.toList ++ [34]) := Lib.hid (csvF_yes hQ)
        clear hQ
        generalize quoS s.data.toList = l at hR HL hlen
        have hbnd := Lib.hid hlen
        clear hlen
        go_wp2_with (at_builtin; refine wpList_append_own _ rfl _ _ 22 rfl w.heap.size 5 i0 (.int .u8 0) 1 1 Tryz.underlying22 hi hz0 hz1 hz2 rfl (by decide) _ _ _ rfl (hR.1.alloc _) ⟨wr.heap.size, 0, none⟩ 1 1 [.int .u8 34] rfl rfl ?c1 ?c2 ?c3 ?c4 ?c5 ?_)
        try (case c1 => exact news_one)
        case c2 => first | (intro u hu; simp at hu; subst hu; rfl) | rfl
        case c3 => have := hbnd.out; unfold maxLen; omega
        case c4 => have := hbnd.out; omega
        case c5 => have := hB.size; simp; omega
        intro v1 w1 hown1 hg1 _
        have hR1 := byRow_one (c := 34) rfl hown1
        have hB1 := below_one hB.size hB hR hg1
        clear hown1 hg1 hR hB
        generalize l ++ [34] = l2 at hR1 HL
        obtain ⟨hown, g1, cap1, rfl⟩ := hR1
        have hR1 : ByRow w1 w.heap.size (.slice (some ⟨g1, 0, none⟩) l2.length cap1) l2 := ⟨hown, g1, cap1, rfl⟩
        clear hown
        have kc := byRow_conv Tryz.underlying22 Tryz.underlying5 Tryz.underlying9 hR1
        go_wp2_with fail
        go_ret
        exact ⟨ret_str HL.out.symm, hB1⟩

theorem specCsvFieldL (p : List UInt8) (hs : p.length ≤ 1099511627776) (w : World) :
    Calls Tryz.prog 82 #[.string ⟨p.toArray⟩] w fun e w' => e = .returned (.string ⟨(csvF p).toArray⟩) ∧ Below w.heap.size w w' := by
  exact specCsvField ⟨p.toArray⟩ (by simpa [ByteArray.size] using hs) w

theorem rowT_take_succ {r : List (List UInt8)} {q : Nat} {p : List UInt8} (h : r[q]? = some p) : rowT (r.take (q + 1)) = if q = 0 then csvF p else rowT (r.take q) ++ 44 :: csvF p := by
  have hq := (List.getElem?_eq_some_iff.1 h).1
  rw [List.take_add_one, h]
  show rowT (r.take q ++ [p]) = _
  rw [rowT_snoc]
  by_cases h0 : q = 0
  · subst h0
    simp
  · rw [if_neg h0, if_neg (by
      intro e
      have := congrArg List.length e
      rw [List.length_take] at this
      have hz : ([] : List (List UInt8)).length = 0 := rfl
      omega)]
theorem rowT_take_le (r : List (List UInt8)) (q : Nat) : (rowT (r.take q)).length ≤ (rowT r).length := by
  by_cases hq : q < r.length
  · have h : r[q]? = some r[q] := List.getElem?_eq_getElem hq
    have ih := rowT_take_le r (q + 1)
    rw [rowT_take_succ h] at ih
    split at ih
    · rename_i h0
      subst h0
      simp [rowT]
    · simp only [List.length_append] at ih
      omega
  · rw [List.take_of_length_le (by omega)]
    exact Nat.le_refl _
termination_by r.length - q
theorem csvT_take_succ {L : List (List (List UInt8))} {j : Nat} {r : List (List UInt8)} (h : L[j]? = some r) : csvT (L.take (j + 1)) = csvT (L.take j) ++ rowT r ++ [10] := by
  rw [List.take_add_one, h]
  show csvT (L.take j ++ [r]) = _
  rw [csvT_snoc, List.append_assoc]
theorem csvT_take_le (L : List (List (List UInt8))) (j : Nat) : (csvT (L.take j)).length ≤ (csvT L).length := by
  have e : csvT L = csvT (L.take j) ++ csvT (L.drop j) := by rw [← csvT_append, List.take_append_drop]
  rw [e, List.length_append]
  omega
theorem csvT_part {L : List (List (List UInt8))} {j : Nat} {r : List (List UInt8)} (h : L[j]? = some r) (q : Nat) : (csvT (L.take j) ++ rowT (r.take q)).length + 1 ≤ (csvT L).length := by
  have h1 := csvT_take_le L (j + 1)
  rw [csvT_take_succ h] at h1
  have h2 := rowT_take_le r q
  simp only [List.length_append, List.length_cons, List.length_nil] at h1 ⊢
  omega
theorem toArr_size (p : List UInt8) : (⟨p.toArray⟩ : ByteArray).size = p.length := by simp [ByteArray.size]
theorem strRow_form {w : World} {u : Value} {r : List (List UInt8)} (h : StrRow w u r) : ∃ a c, u = .slice a r.length c ∧ r.length ≤ 9223372036854775807 ∧ (∀ (q : Nat) p, r[q]? = some p → ∃ b off, a = some ⟨b, off, none⟩ ∧ w.cell? ⟨b, off + q, none⟩ = some (.string ⟨p.toArray⟩)) := by
  rcases h with ⟨rfl, a, c, rfl⟩ | ⟨b, off, c, rfl, hl, _, hc⟩
  · exact ⟨a, c, rfl, by simp, by simp⟩
  · exact ⟨_, c, rfl, hl, fun q p hp => ⟨b, off, rfl, hc q p hp⟩⟩

set_option maxRecDepth 100000 in
set_option maxHeartbeats 4000000 in
theorem specCsvText_some (w : World) (b off c : Nat) (L : List (List (List UInt8))) (hl : L.length ≤ 9223372036854775807) (ht : (csvT L).length ≤ 140737488355328) (hz : ∀ r ∈ L, ∀ p ∈ r, p.length ≤ 1099511627776)
    (hc : ∀ (j : Nat) row, L[j]? = some row → ∃ u, w.cell? ⟨b, off + j, none⟩ = some u ∧ StrRow w u row) :
    Calls Tryz.prog 29 #[.slice (some ⟨b, off, none⟩) L.length c] w fun e w' => e = .returned (.string ⟨(csvT L).toArray⟩) ∧ Below w.heap.size w w' := by
  obtain ⟨i0, hi, hz0, hz1, hz2⟩ := info_parts infoU8
  have HC := Lib.hid hc
  have HT := Lib.hid ht
  have HZ := Lib.hid hz
  clear hc ht hz
  obtain ⟨n, hn⟩ : ∃ n : Nat, L.length = n := ⟨_, rfl⟩
  rw [hn] at hl ⊢
  have HE := Lib.hid hn
  clear hn
  go_enter Tryz.func29, Tryz.ntmps29
  go_wp2_with fail
  go_loopg [3, 4, 5] n (fun g v i _ wr => ∃ j : Nat, j ≤ n ∧ g = n - j ∧ i = .int .i64 j ∧ ByRow wr w.heap.size v (csvT (L.take j)) ∧ Below w.heap.size w wr)
  case atStart => exact ⟨0, Nat.zero_le _, rfl, rfl, byRow_made w, (Below.refl _ _).alloc (Nat.le_refl _) _⟩
  case round =>
    obtain ⟨j, hj, rfl, rfl, hR, hB⟩ := hrel
    by_cases hlt : j < n
    · have hj1 : (j : Int) < n := by omega
      have hj0 : (0 : Int) ≤ j := by omega
      obtain ⟨r, hr⟩ : ∃ r, L[j]? = some r := ⟨_, List.getElem?_eq_getElem (by rw [HE.out]; exact hlt)⟩
      obtain ⟨u, hcu0, hru⟩ := HC.out j r hr
      obtain ⟨A, cA, rfl, hrl, hrc⟩ := strRow_form hru
      have HCU := Lib.hid hcu0
      have HRC := Lib.hid hrc
      have HR := Lib.hid hr
      have HPZ : Hid (∀ (q : Nat) p, r[q]? = some p → p.length ≤ 1099511627776) := Lib.hid (fun q p hq => HZ.out r (List.mem_of_getElem? hr) p (List.mem_of_getElem? hq))
      obtain ⟨m, hm⟩ : ∃ m : Nat, r.length = m := ⟨_, rfl⟩
      rw [hm] at hrl HCU
      have HM := Lib.hid hm
      clear hcu0 hru hrc hr hm
      have hR0 := hR
      rw [show csvT (L.take j) = csvT (L.take j) ++ rowT (r.take 0) from by simp [rowT]] at hR0
      clear hR
      go_wp2_with fail
      go_loopg [3, 5] m (fun g v k wr => ∃ q : Nat, q ≤ m ∧ g = m - q ∧ k = .int .i64 q ∧ ByRow wr w.heap.size v (csvT (L.take j) ++ rowT (r.take q)) ∧ Below w.heap.size w wr)
      case atStart => exact ⟨0, Nat.zero_le _, rfl, rfl, hR0, hB⟩
      case round =>
        clear hR0 hB
        obtain ⟨q, hq, rfl, rfl, hR, hB⟩ := hrel
        have hcu := (hB.cell (p := ⟨b, off + j, none⟩) (World.block_lt_of_cell? w _ HCU.out)).trans HCU.out
        by_cases hqm : q < m
        · have hq1 : (q : Int) < m := by omega
          have hq9 : (0 : Int) ≤ q := by omega
          obtain ⟨p, hp⟩ : ∃ p, r[q]? = some p := ⟨_, List.getElem?_eq_getElem (by rw [HM.out]; exact hqm)⟩
          obtain ⟨b2, off2, rfl, hcp0⟩ := HRC.out q p hp
          have HP := Lib.hid hp
          clear hp
          by_cases h0 : q = 0
          · have hq0 : ¬ (0 : Int) < q := by omega
            have HL : Hid (csvT (L.take j) ++ rowT (r.take (q + 1)) = csvT (L.take j) ++ rowT (r.take q) ++ csvF p) := Lib.hid (by rw [rowT_take_succ HP.out, if_pos h0, h0]; simp [rowT])
            have HB := Lib.hid (csvT_part HR.out (q + 1))
            rw [HL.out] at HB
            generalize csvT (L.take j) ++ rowT (r.take q) = l at hR HL HB
            obtain ⟨hown, g, cap, rfl⟩ := hR
            have hR : ByRow wr w.heap.size (.slice (some ⟨g, 0, none⟩) l.length cap) l := ⟨hown, g, cap, rfl⟩
            clear hown
            clear h0
            have HB2 : Hid (l.length + (csvF p).length ≤ 140737488355328) := Lib.hid (by have h1 := HB.out; have h2 := HT.out; rw [List.length_append] at h1; omega)
            have hcp := (hB.cell (p := ⟨b2, off2 + q, none⟩) (World.block_lt_of_cell? w _ hcp0)).trans hcp0
            clear hcp0
            go_wp2_with fail
            refine (specCsvFieldL p (HPZ.out q p HP.out) _).mono ?_
            rintro e w5 ⟨rfl, hB5⟩
            have hR5 := hR.below hB5
            have hB6 := hB.trans (hB5.mono hB.size)
            clear hR hB5 hB
            go_wp2_with (at_builtin; refine Lib.wpList_append_own_string _ rfl _ _ 22 9 rfl w.heap.size 5 i0 Tryz.underlying22 Tryz.underlying9 hi hz0 hz1 hz2 _ _ _ rfl hR5.1 ⟨(csvF p).toArray⟩ rfl ?e1 ?e2 ?e3 ?_)
            case e1 => have := HB2.out; rw [toArr_size]; unfold maxLen; omega
            case e2 => have := HB2.out; rw [toArr_size]; omega
            case e3 => exact hB6.size
            intro v9 w9 hown1 hg1 hnil
            have hR9 := byRow_strN hown1 hnil
            have hB9 := below_str hB6.size hB6 hR5 hg1
            clear hown1 hg1 hR5 hB6 hnil
            go_wp2_with fail
            go_roundg (m - (q + 1))
            case measure => omega
            case rel => exact ⟨q + 1, by omega, rfl, by go_num, by rw [HL.out]; exact hR9, hB9⟩
          · have hq0 : (0 : Int) < q := by omega
            have HL : Hid (csvT (L.take j) ++ rowT (r.take (q + 1)) = csvT (L.take j) ++ rowT (r.take q) ++ [44] ++ csvF p) := Lib.hid (by rw [rowT_take_succ HP.out, if_neg h0]; simp)
            have HB := Lib.hid (csvT_part HR.out (q + 1))
            rw [HL.out] at HB
            generalize csvT (L.take j) ++ rowT (r.take q) = l at hR HL HB
            obtain ⟨hown, g, cap, rfl⟩ := hR
            have hR : ByRow wr w.heap.size (.slice (some ⟨g, 0, none⟩) l.length cap) l := ⟨hown, g, cap, rfl⟩
            clear hown
            clear h0
            have HB2 : Hid (l.length + 1 + (csvF p).length ≤ 140737488355328) := Lib.hid (by have h1 := HB.out; have h2 := HT.out; simp only [List.length_append, List.length_cons, List.length_nil] at h1; omega)
            go_wp2_with (at_builtin; refine wpList_append_own _ rfl _ _ 22 rfl w.heap.size 5 i0 (.int .u8 0) 1 1 Tryz.underlying22 hi hz0 hz1 hz2 rfl (by decide) _ _ _ rfl (hR.1.alloc _) ⟨wr.heap.size, 0, none⟩ 1 1 [.int .u8 44] rfl rfl ?c1 ?c2 ?c3 ?c4 ?c5 ?_)
            try (case c1 => exact news_one)
            case c2 => first | (intro u hu; simp at hu; subst hu; rfl) | rfl
            case c3 => have := HB2.out; unfold maxLen; omega
            case c4 => have := HB2.out; omega
            case c5 => have := hB.size; simp; omega
            intro v1 w1 hown1 hg1 _
            have hR1 := byRow_one (c := 44) rfl hown1
            have hB1 := below_one hB.size hB hR hg1
            clear hown1 hg1 hR
            have HB3 : Hid ((l ++ [44]).length + (csvF p).length ≤ 140737488355328) := Lib.hid (by have := HB2.out; simp only [List.length_append, List.length_cons, List.length_nil]; omega)
            generalize l ++ [44] = l1 at hR1 HL HB HB3
            obtain ⟨hown, g1, cap1, rfl⟩ := hR1
            have hR1 : ByRow w1 w.heap.size (.slice (some ⟨g1, 0, none⟩) l1.length cap1) l1 := ⟨hown, g1, cap1, rfl⟩
            clear hown
            have hcu1 := (hB1.cell (p := ⟨b, off + j, none⟩) (World.block_lt_of_cell? w _ HCU.out)).trans HCU.out
            have hcp := (hB1.cell (p := ⟨b2, off2 + q, none⟩) (World.block_lt_of_cell? w _ hcp0)).trans hcp0
            clear hcp0 hcu hB
            go_wp2_with fail
            refine (specCsvFieldL p (HPZ.out q p HP.out) _).mono ?_
            rintro e w5 ⟨rfl, hB5⟩
            have hR5 := hR1.below hB5
            have hB6 := hB1.trans (hB5.mono hB1.size)
            clear hR1 hB5 hB1
            go_wp2_with (at_builtin; refine Lib.wpList_append_own_string _ rfl _ _ 22 9 rfl w.heap.size 5 i0 Tryz.underlying22 Tryz.underlying9 hi hz0 hz1 hz2 _ _ _ rfl hR5.1 ⟨(csvF p).toArray⟩ rfl ?e1 ?e2 ?e3 ?_)
            case e1 => have := HB3.out; rw [toArr_size]; unfold maxLen; omega
            case e2 => have := HB3.out; rw [toArr_size]; omega
            case e3 => exact hB6.size
            intro v9 w9 hown1 hg1 hnil
            have hR9 := byRow_strN hown1 hnil
            have hB9 := below_str hB6.size hB6 hR5 hg1
            clear hown1 hg1 hR5 hB6 hnil
            go_wp2_with fail
            go_roundg (m - (q + 1))
            case measure => omega
            case rel => exact ⟨q + 1, by omega, rfl, by go_num, by rw [HL.out]; exact hR9, hB9⟩
        · have hqe : q = m := by omega
          have hq1 : ¬ (q : Int) < m := by omega
          have hRr := hR
          rw [hqe, show r.take m = r from List.take_of_length_le (by rw [HM.out]; exact Nat.le_refl _)] at hRr
          have HL : Hid (csvT (L.take (j + 1)) = csvT (L.take j) ++ rowT r ++ [10]) := Lib.hid (csvT_take_succ HR.out)
          have HB := Lib.hid (csvT_take_le L (j + 1))
          rw [HL.out] at HB
          clear hR hqe
          generalize csvT (L.take j) ++ rowT r = l at hRr HL HB
          obtain ⟨hown, g, cap, rfl⟩ := hRr
          have hRr : ByRow wr w.heap.size (.slice (some ⟨g, 0, none⟩) l.length cap) l := ⟨hown, g, cap, rfl⟩
          clear hown
          have HB2 : Hid (l.length + 1 ≤ 140737488355328) := Lib.hid (by have h1 := HB.out; have h2 := HT.out; simp only [List.length_append, List.length_cons, List.length_nil] at h1; omega)
          go_wp2_with (at_builtin; refine wpList_append_own _ rfl _ _ 22 rfl w.heap.size 5 i0 (.int .u8 0) 1 1 Tryz.underlying22 hi hz0 hz1 hz2 rfl (by decide) _ _ _ rfl (hRr.1.alloc _) ⟨wr.heap.size, 0, none⟩ 1 1 [.int .u8 10] rfl rfl ?c1 ?c2 ?c3 ?c4 ?c5 ?_)
          try (case c1 => exact news_one)
          case c2 => first | (intro u hu; simp at hu; subst hu; rfl) | rfl
          case c3 => have := HB2.out; unfold maxLen; omega
          case c4 => have := HB2.out; omega
          case c5 => have := hB.size; simp; omega
          intro v1 w1 hown1 hg1 _
          have hR1 := byRow_one (c := 10) rfl hown1
          have hB1 := below_one hB.size hB hRr hg1
          clear hown1 hg1 hRr hB
          go_wp2_with fail
          go_roundg (n - (j + 1))
          case measure => omega
          case rel => exact ⟨j + 1, by omega, rfl, by go_num, by rw [HL.out]; exact hR1, hB1⟩
    · have hje : j = n := by omega
      have hj1 : ¬ (j : Int) < n := by omega
      have hRr := hR
      rw [hje, show L.take n = L from List.take_of_length_le (by rw [HE.out]; exact Nat.le_refl _)] at hRr
      clear hR hje
      obtain ⟨l, hl2⟩ : ∃ l, csvT L = l := ⟨_, rfl⟩
      rw [hl2] at hRr
      have HLL := Lib.hid hl2
      clear hl2
      obtain ⟨hown, g, cap, rfl⟩ := hRr
      have hR : ByRow wr w.heap.size (.slice (some ⟨g, 0, none⟩) l.length cap) l := ⟨hown, g, cap, rfl⟩
      clear hown
      have kc := byRow_conv Tryz.underlying22 Tryz.underlying5 Tryz.underlying9 hR
      go_wp2_with fail
      go_ret
      exact ⟨ret_str HLL.out.symm, hB⟩

set_option maxRecDepth 100000 in
theorem specCsvText_zero (w : World) (a : Option Addr) (c : Nat) :
    Calls Tryz.prog 29 #[.slice a 0 c] w fun e w' => e = .returned (.string ⟨#[]⟩) ∧ Below w.heap.size w w' := by
  have kc := byRow_conv Tryz.underlying22 Tryz.underlying5 Tryz.underlying9 (byRow_made w)
  go_enter Tryz.func29, Tryz.ntmps29
  go_wp2_with fail
  go_loopg [3, 4] 0 (fun _ v i wr => i = .int .i64 0 ∧ v = .slice (some ⟨w.heap.size, 0, none⟩) 0 0 ∧ wr = w.alloc (.cells #[] 5))
  case atStart => exact ⟨rfl, rfl, rfl⟩
  case round =>
    obtain ⟨rfl, rfl, rfl⟩ := hrel
    go_wp2_with fail
    go_ret
    exact ⟨rfl, (Below.refl _ _).alloc (Nat.le_refl _) _⟩

/-- WHAT spec.CsvText ANSWERS. -/
theorem specCsvText (w : World) (v : Value) (L : List (List (List UInt8))) (h : SSRow w v L) (ht : (csvT L).length ≤ 140737488355328) (hz : ∀ r ∈ L, ∀ p ∈ r, p.length ≤ 1099511627776) :
    Calls Tryz.prog 29 #[v] w fun e w' => e = .returned (.string ⟨(csvT L).toArray⟩) ∧ Below w.heap.size w w' := by
  rcases h with ⟨rfl, a, c, rfl⟩ | ⟨b, off, c, rfl, hl, _, hc⟩
  · exact specCsvText_zero w a c
  · exact specCsvText_some w b off c L hl ht hz hc
end Go.Proofs.YticeagjonfifbaaGreatDoor
