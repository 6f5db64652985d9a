/-
  What spec.Parts and impl.Parts answer: a new row that holds the parts.
-/
import Derived.Test.YtnnbhgnllbjmeaaDoorBas
import Derived.Test.YtnnbhgnllbjmeaaDoorPartsM
import Derived.Test.YtnnbhgnllbjmeaaDoorU
import Derived.Test.YtnnbhgnllbjmeaaDoorCur
namespace Go.Proofs.YtnnbhgnllbjmeaaDoor
open Go.RowKit

theorem strCells_append (a b : List (List UInt8)) : strCells (a ++ b) = strCells a ++ strCells b := List.map_append
/-- The part that the walk cuts out. -/
theorem cut_str (s : ByteArray) (fr k : Nat) : Value.string (s.extract fr k) = .string ⟨((s.data.toList.drop fr).take (k - fr)).toArray⟩ := by rw [extract_mk]

set_option maxRecDepth 100000 in
set_option maxHeartbeats 2000000 in
theorem specParts (s : ByteArray) (c : UInt8) (w : World) (hsz : s.size ≤ 1048576) :
    Calls Tryd.prog 30 #[.string s, .int .u8 (c.toNat : Int)] w fun e w' => ∃ v, e = .returned v ∧ w'.ownsRow w.heap.size 9 1 v (partsL c s.data.toList).length (strCells (partsL c s.data.toList)) ∧ Below w.heap.size w w' := by
  obtain ⟨i0, hi, hz0, hz1, hz2⟩ := info_parts infoStr
  have hln : s.data.toList.length = s.size := (Lib.size_eq s).symm
  go_enter Tryd.func30, Tryd.ntmps30
  go_wp2_with fail
  go_loopw [5, 6, 7] (fun v f i wr => ∃ (k fr : Nat) (ps : List (List UInt8)), i = .int .i64 k ∧ f = .int .i64 fr ∧ PInv c s.data.toList fr k ps ∧ wr.ownsRow w.heap.size 9 1 v ps.length (strCells ps) ∧ Below w.heap.size w wr) (fun _ _ i _ => s.size + 1 - (intOf i).toNat)
  case atStart =>
    exact ⟨0, 0, [], rfl, rfl, pinv_start _ _, World.ownsRow_made w #[] 0 (Nat.le_refl _) (by unfold maxLen; omega) (by simp), (Below.refl _ _).alloc (Nat.le_refl _) _⟩
  case round =>
    obtain ⟨k, fr, ps, rfl, rfl, hI, hown, hB⟩ := hrel
    have hle := pinv_le hI
    have HI := Lib.hid hI
    clear hI
    rw [hln] at hle
    by_cases hk : k ≤ s.size
    · by_cases hlt : k < s.size
      · have hq0 : ((k : Int) == s.size) = false := by rw [beq_eq_false_iff_ne]; omega
        have hk1 : (k : Int) ≤ s.size := by omega
        have hkl : k < s.data.toList.length := by omega
        have hat : s.data.toList[k] = s[k] := by simp; rfl
        by_cases hc : s[k] = c
        · have hq : ((s[k].toNat : Int) == (c.toNat : Int)) = true := by rw [hc]; simp
          have HP := Lib.hid (pinv_cut HI.out hkl (hat.trans hc))
          clear hc hat
          go_wp2_with (at_builtin; refine wpList_append_own _ rfl _ _ 41 rfl w.heap.size 9 i0 (.string ByteArray.empty) 1 16 Tryd.underlying41 hi hz0 hz1 hz2 rfl (by decide) _ _ _ rfl (hown.alloc _) ⟨wr.heap.size, 0, none⟩ 1 1 [.string (s.extract fr k)] rfl rfl ?c1 ?c2 ?c3 ?c4 ?c5 ?_)
          case c1 => exact news_one
          case c2 => intro u hu; simp at hu; subst hu; rfl
          case c3 => unfold maxLen; omega
          case c4 => omega
          case c5 => have := hB.size; simp; omega
          intro v' w1 hown1 hg1 _
          have hown2 : w1.ownsRow w.heap.size 9 1 v' (ps ++ [(s.data.toList.drop fr).take (k - fr)]).length (strCells (ps ++ [(s.data.toList.drop fr).take (k - fr)])) := by
            rw [strCells_append, List.length_append]
            have e : strCells [(s.data.toList.drop fr).take (k - fr)] = [.string (s.extract fr k)] := by rw [cut_str]; rfl
            rw [e]
            exact hown1
          have hB1 := (hB.alloc hB.size (.cells #[.string (s.extract fr k)] 9)).grown hg1 (by have := hB.size; simp; omega) (fun j hj => (hown.lt j hj).1)
          clear hown1 hg1
          go_wp2_with fail
          go_roundw
          case rel => exact ⟨k + 1, k + 1, _, by go_num, by go_num, HP.out, hown2, hB1⟩
          case measure => first | (simp [intOf]; done) | (simp [intOf]; omega)
        · have hq : ((s[k].toNat : Int) == (c.toNat : Int)) = false := by
            rw [beq_eq_false_iff_ne]
            intro h
            exact hc (UInt8.toNat_inj.1 (by omega))
          have HP := Lib.hid (pinv_more HI.out hkl (fun h => hc (hat.symm.trans h)))
          clear hc hat
          go_wp2_with fail
          go_roundw
          case rel => exact ⟨k + 1, fr, ps, by go_num, rfl, HP.out, hown, hB⟩
          case measure => first | (simp [intOf]; done) | (simp [intOf]; omega)
      · obtain rfl : k = s.size := by omega
        have HP := Lib.hid (pinv_end HI.out hln.symm)
        go_wp2_with (at_builtin; refine wpList_append_own _ rfl _ _ 41 rfl w.heap.size 9 i0 (.string ByteArray.empty) 1 16 Tryd.underlying41 hi hz0 hz1 hz2 rfl (by decide) _ _ _ rfl (hown.alloc _) ⟨wr.heap.size, 0, none⟩ 1 1 [.string (s.extract fr s.size)] rfl rfl ?c1 ?c2 ?c3 ?c4 ?c5 ?_)
        case c1 => exact news_one
        case c2 => intro u hu; simp at hu; subst hu; rfl
        case c3 => unfold maxLen; omega
        case c4 => omega
        case c5 => have := hB.size; simp; omega
        intro v' w1 hown1 hg1 _
        have hown2 : w1.ownsRow w.heap.size 9 1 v' (ps ++ [(s.data.toList.drop fr).take (s.size - fr)]).length (strCells (ps ++ [(s.data.toList.drop fr).take (s.size - fr)])) := by
          rw [strCells_append, List.length_append]
          have e : strCells [(s.data.toList.drop fr).take (s.size - fr)] = [.string (s.extract fr s.size)] := by rw [cut_str]; rfl
          rw [e]
          exact hown1
        have hB1 := (hB.alloc hB.size (.cells #[.string (s.extract fr s.size)] 9)).grown hg1 (by have := hB.size; simp; omega) (fun j hj => (hown.lt j hj).1)
        clear hown1 hg1
        go_wp2_with fail
        go_roundw
        case rel => exact ⟨s.size + 1, s.size + 1, _, by go_num, by go_num, HP.out, hown2, hB1⟩
        case measure => first | (simp [intOf]; done) | (simp [intOf]; omega)
    · have hk1 : ¬ (k : Int) ≤ s.size := by omega
      have HP := Lib.hid (pinv_done HI.out (by omega))
      go_wp2_with fail
      go_ret
      exact ⟨_, rfl, by rw [← HP.out]; exact hown, hB⟩
end Go.Proofs.YtnnbhgnllbjmeaaDoor
