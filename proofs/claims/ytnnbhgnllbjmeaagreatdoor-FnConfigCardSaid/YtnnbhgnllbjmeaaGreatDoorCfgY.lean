/-
  A word, signs, a rate: the reference's way.
-/
import Derived.Test.YtnnbhgnllbjmeaaGreatDoorPk4
import Derived.Test.YtnnbhgnllbjmeaaGreatDoorCfgX
import Derived.Test.YtnnbhgnllbjmeaaGreatDoorPk2
namespace Go.Proofs.YtnnbhgnllbjmeaaGreatDoor
open Go.RowKit

/-- Which key a word is; -1: none. -/
def wordZ (l : List UInt8) : Int := match wordOf l with | some k => (k : Int) | none => -1
theorem wordZ_at {k : Nat} (h : k < 7) : wordZ (wordL k) = k := by rw [wordZ, (wordL_ok k h).2.1]
theorem wordZ_no {l : List UInt8} (h : ∀ j, j < 7 → wordL j ≠ l) : wordZ l = -1 := by
  cases hw : wordOf l with
  | none => rw [wordZ, hw]
  | some k =>
    have := wordOf_lt hw
    exact absurd this.2 (h k this.1)
set_option maxRecDepth 100000 in
set_option maxHeartbeats 1000000 in
theorem specWord (l : List UInt8) (w : World) :
    Calls Tryz.prog 38 #[.string ⟨l.toArray⟩] w fun e w' => e = .returned (.int .i64 (wordZ l)) ∧ Below w.heap.size w w' := by
  go_enter Tryz.func38, Tryz.ntmps38
  go_wp2_with fail
  go_loopw [3] (fun i wr => ∃ k : Nat, k ≤ 7 ∧ i = .int .i64 k ∧ (∀ j, j < k → wordL j ≠ l) ∧ Below w.heap.size w wr) (fun i _ => 7 - (intOf i).toNat)
  case atStart => exact ⟨0, by omega, rfl, fun j hj => by omega, Below.refl _ _⟩
  case round =>
    obtain ⟨k, hk7, rfl, hno, hB⟩ := hrel
    have HNO := Lib.hid hno
    clear hno
    by_cases hlt : k < 7
    · have hk1 : (k : Int) < 7 := by omega
      have hk0 : (0 : Int) ≤ k := by omega
      have aW := atWord (k := k) (by omega)
      by_cases hw : wordL k = l
      · have HZ : Hid (wordZ l = k) := Lib.hid (by rw [← hw]; exact wordZ_at hlt)
        rw [hw] at aW
        clear hw
        go_wp2_with fail
        refine (specWordsB _ k _ aW).mono ?_
        rintro e w5 ⟨⟨rfl, hc5⟩, hB5⟩
        go_wp2_with fail
        go_ret
        exact ⟨ret_intI HZ.out.symm, bt hB hB5⟩
      · obtain ⟨wd, hwd⟩ : ∃ wd, wordL k = wd := ⟨_, rfl⟩
        rw [hwd] at aW hw
        have HW := Lib.hid hwd
        have HN := Lib.hid hw
        have hne : (wd == l) = false := beq_eq_false_iff_ne.2 hw
        clear hwd
        go_wp2_with fail
        refine (specWordsB _ k _ aW).mono ?_
        rintro e w5 ⟨⟨rfl, hc5⟩, hB5⟩
        go_wp2_with fail
        go_roundw
        case rel =>
          refine ⟨k + 1, by omega, by go_num, fun j hj => ?_, bt hB hB5⟩
          by_cases hjk : j < k
          · exact HNO.out j hjk
          · obtain rfl : j = k := by omega
            rw [HW.out]
            exact HN.out
        case measure => simp [intOf]; omega
    · have hk1 : ¬ (k : Int) < 7 := by omega
      have HZ : Hid (wordZ l = -1) := Lib.hid (wordZ_no (fun j hj => HNO.out j (by omega)))
      go_wp2_with fail
      go_ret
      exact ⟨ret_intI HZ.out.symm, hB⟩
/-- What the reading of signs answers. -/
def SgPost (w : World) (l : List UInt8) (e : Ending) (w' : World) : Prop :=
  (∃ zs v, signsV l = some zs ∧ e = .returned (.tuple #[v, .bool true]) ∧ w'.ownsRow w.heap.size 3 1 v zs.length (intCells zs)) ∨ (signsV l = none ∧ ∃ v, e = .returned (.tuple #[v, .bool false]) ∧ w'.ownsRow w.heap.size 3 1 v 0 [])
theorem sgPost_no {w w' : World} {l : List UInt8} {v : Value} {e : Ending} (h : signsV l = none) (he : e = .returned (.tuple #[v, .bool false])) (ho : w'.ownsRow w.heap.size 3 1 v 0 []) : SgPost w l e w' := Or.inr ⟨h, v, he, ho⟩
theorem sgPost_yes {w w' : World} {l : List UInt8} {v : Value} {zs : List Int} {e : Ending} (h : signsV l = some zs) (he : e = .returned (.tuple #[v, .bool true])) (ho : w'.ownsRow w.heap.size 3 1 v zs.length (intCells zs)) : SgPost w l e w' := Or.inl ⟨zs, v, h, he, ho⟩
theorem sgnsV_snoc : ∀ {L : List (List UInt8)} {s : List Int} {a : List UInt8} {z : Int}, sgnsV L = some s → sgnV a = some z → sgnsV (L ++ [a]) = some (s ++ [z])
  | [], s, a, z, h, hz => by
    obtain rfl : [] = s := by simpa [sgnsV] using h
    simp [sgnsV, hz]
  | b :: r, s, a, z, h, hz => by
    rw [sgnsV] at h
    cases h1 : sgnV b with
    | none => rw [h1] at h; cases h
    | some y =>
      cases h2 : sgnsV r with
      | none => rw [h1, h2] at h; cases h
      | some t =>
        rw [h1, h2] at h
        obtain rfl : y :: t = s := by simpa using h
        rw [List.cons_append, sgnsV, h1, sgnsV_snoc h2 hz]
        rfl
theorem sgnsV_bad : ∀ {L : List (List UInt8)} {a : List UInt8}, a ∈ L → sgnV a = none → sgnsV L = none
  | b :: r, a, h, hn => by
    rw [sgnsV]
    rcases List.mem_cons.1 h with rfl | h
    · rw [hn]
    · rw [sgnsV_bad h hn]
      cases sgnV b <;> rfl
set_option maxRecDepth 100000 in
set_option maxHeartbeats 4000000 in
theorem specSigns (s : ByteArray) (hs : s.size ≤ 1048576) (w : World) :
    Calls Tryz.prog 62 #[.string s] w fun e w' => SgPost w s.data.toList e w' ∧ Below w.heap.size w w' := by
  obtain ⟨iI, hi, hz0, hz1, hz2⟩ := info_parts infoInt
  go_enter Tryz.func62, Tryz.ntmps62
  go_wp2_with fail
  refine (specParts s 44 _ hs).mono ?_
  rintro e w1 ⟨v, rfl, hown1, hB1⟩
  obtain ⟨ps, hps⟩ : ∃ ps, partsL 44 s.data.toList = ps := ⟨_, rfl⟩
  have hpp := parts_pos (c := 44) s.data.toList
  rw [hps] at hown1 hpp
  obtain ⟨gg, cap, rfl⟩ := Joins.ownsRow_form hown1 hpp
  have HPS := Lib.hid hps
  have hO0 : w1.ownsRow w.heap.size 3 1 (.slice (some ⟨w.heap.size, 0, none⟩) 0 0) 0 [] := (World.ownsRow_made w #[] 0 (Nat.le_refl _) (by unfold maxLen; omega) (by simp)).kept (row := none) ⟨hB1.os, hB1.tape, hB1.output, hB1.size, fun k hk _ => hB1.block k hk⟩ (by simp [Value.ownBlock])
  have HB01 := Lib.hid (bt (below_al w (.cells #[] 3)) hB1)
  have hwd := World.ownsRow.mono (base' := w.heap.size) hown1 (by simp)
  clear hown1 hps hB1
  by_cases hq4 : 4 < ps.length
  · have hq : (4 : Int) < ps.length := by omega
    have HV : Hid (signsV s.data.toList = none) := Lib.hid (by rw [signsV, HPS.out, if_pos hq4])
    clear hq4
    go_wp2_with fail
    go_ret2
    exact ⟨sgPost_no HV.out rfl hO0, HB01.out⟩
  · have hq : ¬ (4 : Int) < ps.length := by omega
    have HV : Hid (signsV s.data.toList = sgnsV ps) := Lib.hid (by rw [signsV, HPS.out, if_neg hq4])
    go_wp2_with fail
    go_loopw [4, 6] (fun v i wr => ∃ (j : Nat) (zs : List Int), j ≤ ps.length ∧ i = .int .i64 j ∧ sgnsV (ps.take j) = some zs ∧ wr.ownsRow w.heap.size 3 1 v zs.length (intCells zs) ∧ wr.ownsRow w.heap.size 9 1 (.slice (some ⟨gg, 0, none⟩) ps.length cap) ps.length (strCells ps) ∧ Below w.heap.size w wr) (fun _ i _ => ps.length - (intOf i).toNat)
    case atStart => exact ⟨0, [], Nat.zero_le _, rfl, rfl, hO0, hwd, HB01.out⟩
    case round =>
      clear hO0 hwd
      obtain ⟨j, zs, hj, rfl, hzs, hown, hwd, hB⟩ := hrel
      have HZS := Lib.hid hzs
      clear hzs
      by_cases hlt : j < ps.length
      · have hj1 : (j : Int) < ps.length := by omega
        have hj0 : (0 : Int) ≤ j := by omega
        obtain ⟨p, hp⟩ : ∃ p, ps[j]? = some p := ⟨_, List.getElem?_eq_getElem hlt⟩
        have hcj : wr.cell? ⟨gg, j, none⟩ = some (.string ⟨p.toArray⟩) := by
          have h := hwd.cellAt j (by omega)
          simpa [strCells, hp] using h
        have hlj := World.block_lt_of_cell? wr _ hcj
        have HP := Lib.hid hp
        have hzl : zs.length ≤ 4 := by have := (sgnsV_ok HZS.out).1; rw [List.length_take] at this; omega
        clear hp
        by_cases h43 : p = [43]
        · subst h43
          have HVV : Hid (sgnsV (ps.take (j + 1)) = some (zs ++ [1])) := Lib.hid (by rw [List.take_add_one, HP.out]; exact sgnsV_snoc HZS.out rfl)
          go_wp2_with (at_builtin; refine wpList_append_own _ rfl _ _ 24 rfl w.heap.size 3 iI (.int .i64 0) 1 8 Tryz.underlying24 hi hz0 hz1 hz2 rfl (by decide) _ _ _ rfl (hown.alloc (.cells #[.int .i64 (1)] 3)) ⟨wr.heap.size, 0, none⟩ 1 1 [.int .i64 (1)] rfl rfl news_one (by intro y hy; simp at hy; subst hy; rfl) ?a3 ?a4 ?a5 ?_)
          case a3 => unfold maxLen; omega
          case a4 => omega
          case a5 => have := hB.size; simp; omega
          intro v' w7 hown1 hg1 _
          have hR := Lib.hid (int_row hown1)
          have hBB := Lib.hid ((hB.alloc hB.size (.cells #[.int .i64 (1)] 3)).grown hg1 (by have := hB.size; simp; omega) (fun q hq => (hown.lt q hq).1))
          have hWW := Lib.hid (owns_keep (hwd.alloc (.cells #[.int .i64 (1)] 3)) (hown.alloc (.cells #[.int .i64 (1)] 3)) (by decide) hg1)
          clear hown1 hg1 hown hB hwd
          go_wp2_with fail
          go_roundw
          case rel => exact ⟨j + 1, zs ++ [1], by omega, by go_num, HVV.out, hR.out, hWW.out, hBB.out⟩
          case measure => simp [intOf]; omega
        · have n43 : (p == [43]) = false := beq_eq_false_iff_ne.2 h43
          by_cases h48 : p = [48]
          · subst h48
            have HVV : Hid (sgnsV (ps.take (j + 1)) = some (zs ++ [0])) := Lib.hid (by rw [List.take_add_one, HP.out]; exact sgnsV_snoc HZS.out rfl)
            go_wp2_with (at_builtin; refine wpList_append_own _ rfl _ _ 24 rfl w.heap.size 3 iI (.int .i64 0) 1 8 Tryz.underlying24 hi hz0 hz1 hz2 rfl (by decide) _ _ _ rfl (hown.alloc (.cells #[.int .i64 (0)] 3)) ⟨wr.heap.size, 0, none⟩ 1 1 [.int .i64 (0)] rfl rfl news_one (by intro y hy; simp at hy; subst hy; rfl) ?d3 ?d4 ?d5 ?_)
            case d3 => unfold maxLen; omega
            case d4 => omega
            case d5 => have := hB.size; simp; omega
            intro v' w7 hown1 hg1 _
            have hR := Lib.hid (int_row hown1)
            have hBB := Lib.hid ((hB.alloc hB.size (.cells #[.int .i64 (0)] 3)).grown hg1 (by have := hB.size; simp; omega) (fun q hq => (hown.lt q hq).1))
            have hWW := Lib.hid (owns_keep (hwd.alloc (.cells #[.int .i64 (0)] 3)) (hown.alloc (.cells #[.int .i64 (0)] 3)) (by decide) hg1)
            clear hown1 hg1 hown hB hwd
            go_wp2_with fail
            go_roundw
            case rel => exact ⟨j + 1, zs ++ [0], by omega, by go_num, HVV.out, hR.out, hWW.out, hBB.out⟩
            case measure => simp [intOf]; omega
          · have n48 : (p == [48]) = false := beq_eq_false_iff_ne.2 h48
            by_cases h45 : p = [45]
            · subst h45
              have HVV : Hid (sgnsV (ps.take (j + 1)) = some (zs ++ [-1])) := Lib.hid (by rw [List.take_add_one, HP.out]; exact sgnsV_snoc HZS.out rfl)
              go_wp2_with (at_builtin; refine wpList_append_own _ rfl _ _ 24 rfl w.heap.size 3 iI (.int .i64 0) 1 8 Tryz.underlying24 hi hz0 hz1 hz2 rfl (by decide) _ _ _ rfl (hown.alloc (.cells #[.int .i64 (-1)] 3)) ⟨wr.heap.size, 0, none⟩ 1 1 [.int .i64 (-1)] rfl rfl news_one (by intro y hy; simp at hy; subst hy; rfl) ?f3 ?f4 ?f5 ?_)
              case f3 => unfold maxLen; omega
              case f4 => omega
              case f5 => have := hB.size; simp; omega
              intro v' w7 hown1 hg1 _
              have hR := Lib.hid (int_row hown1)
              have hBB := Lib.hid ((hB.alloc hB.size (.cells #[.int .i64 (-1)] 3)).grown hg1 (by have := hB.size; simp; omega) (fun q hq => (hown.lt q hq).1))
              have hWW := Lib.hid (owns_keep (hwd.alloc (.cells #[.int .i64 (-1)] 3)) (hown.alloc (.cells #[.int .i64 (-1)] 3)) (by decide) hg1)
              clear hown1 hg1 hown hB hwd
              go_wp2_with fail
              go_roundw
              case rel => exact ⟨j + 1, zs ++ [-1], by omega, by go_num, HVV.out, hR.out, hWW.out, hBB.out⟩
              case measure => simp [intOf]; omega
            · have n45 : (p == [45]) = false := beq_eq_false_iff_ne.2 h45
              have HN : Hid (signsV s.data.toList = none) := Lib.hid (by rw [HV.out]; exact sgnsV_bad (List.mem_of_getElem? HP.out) (by rw [sgnV, if_neg h43, if_neg h48, if_neg h45]))
              clear h43 h48 h45
              go_wp2_with fail
              go_ret2
              exact ⟨sgPost_no HN.out rfl (World.ownsRow_made wr #[] 0 hB.size (by unfold maxLen; omega) (by simp)), hB.trans ((below_al wr _).mono hB.size)⟩
      · have hje : j = ps.length := by omega
        have hj1 : ¬ (j : Int) < ps.length := by omega
        have HN : Hid (signsV s.data.toList = some zs) := Lib.hid (by
          rw [HV.out]
          have h := HZS.out
          rwa [List.take_of_length_le (by omega)] at h)
        clear hje
        go_wp2_with fail
        go_ret2
        exact ⟨sgPost_yes HN.out rfl hown, hB⟩
end Go.Proofs.YtnnbhgnllbjmeaaGreatDoor
