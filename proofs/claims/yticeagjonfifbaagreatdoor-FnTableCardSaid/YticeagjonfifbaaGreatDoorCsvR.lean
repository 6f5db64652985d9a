/-
  What the reference answers for a text of rows: the walk.
-/
import Derived.Test.YticeagjonfifbaaGreatDoorPk4
import Derived.Deep.LoopGhost
import Derived.Deep.RegionHeld3
import Derived.Laws.ResultCell
namespace Go.Proofs.YticeagjonfifbaaGreatDoor
open Go.RowKit

set_option maxRecDepth 100000 in
set_option maxHeartbeats 8000000 in
theorem specReadCsv_short (s : ByteArray) (hs : s.size ≤ 4000) (w : World) :
    Calls Tryz.prog 45 #[.string s] w fun e w' => CsvPost w s.data.toList e w' ∧ Below w.heap.size w w' := by
  obtain ⟨i1, hi, hz0, hz1, hz2⟩ := info_parts infoStr
  obtain ⟨i2, hj, hy0, hy1, hy2⟩ := info_parts infoSlS
  have hq4 : ¬ (4000 : Int) < s.size := by omega
  have HLN : Hid (¬ 4000 < s.data.toList.length) := Lib.hid (by rw [← Lib.size_eq]; omega)
  have HS := Lib.hid (allI_start s.data.toList)
  obtain ⟨R, hR⟩ : ∃ R, rdCsv s.data.toList = R := ⟨_, rfl⟩
  rw [hR] at HS
  have HR := Lib.hid hR
  clear hR
  have hO0 : OutSt w ((w.alloc (.cells #[.int .i64 0, .int .i64 0, .int .i64 0] 33)).alloc (.cells #[] 24)) (.slice (some ⟨w.heap.size + 1, 0, none⟩) 0 0) [] := outSt_start w
  go_enter Tryz.func45, Tryz.ntmps45
  go_wp2_with fail
  go_loopg [4, 5, 6, 7, 8, 9, 10, 11] s.size (fun g vo at_ _ _ _ _ _ _ wr => ∃ (p : Nat) (rows : List (List (List UInt8))), g = s.size - p ∧ at_ = .int .i64 p ∧ p ≤ s.size ∧ rows.length ≤ p ∧ AllI s.data.toList p rows R ∧ OutSt w wr vo rows)
  case atStart => exact ⟨0, [], rfl, rfl, Nat.zero_le _, Nat.zero_le _, HS.out, hO0⟩
  case round =>
    obtain ⟨p0, rows, rfl, rfl, hp0, hrl, hA, hO⟩ := hrel
    have HA := Lib.hid hA
    clear hA hO0 HS
    by_cases hlt : p0 < s.size
    · have hp1 : (p0 : Int) < s.size := by omega
      have hp9 : (0 : Int) ≤ p0 := by omega
      obtain ⟨RR, hRR⟩ : ∃ RR, rdRow ((s.data.toList.drop p0).length + 1) (s.data.toList.drop p0) [] = RR := ⟨_, rfl⟩
      have HI0 := Lib.hid (rowI_start s.data.toList p0)
      rw [hRR] at HI0
      have HRR := Lib.hid hRR
      clear hRR
      obtain ⟨ao, co, hvo⟩ := outSt_form hO
      subst hvo
      obtain ⟨lo0, hC0⟩ : ∃ lo0, CsvSt w (wr.alloc (.cells #[] 9)) lo0 (.slice ao rows.length co) (.slice (some ⟨wr.heap.size, 0, none⟩) 0 0) rows [] := ⟨_, hO.start⟩
      clear hO
      go_wp2_with fail
      go_loopg [5, 6, 7, 8, 9, 10, 11] (s.size + 2 - p0) (fun g at_ vr en _ _ _ _ wi => ∃ (b : Bool) (p : Nat) (row : List (List UInt8)), g = (if b then 0 else s.size + 2 - p) ∧ en = .bool b ∧ at_ = .int .i64 p ∧ p ≤ s.size ∧ row.length ≤ p + 1 ∧ (b = false → row.length ≤ p) ∧ RowI s.data.toList b p row RR ∧ CsvSt w wi lo0 (.slice ao rows.length co) vr rows row)
      case atStart => exact ⟨false, p0, [], by simp, rfl, rfl, by omega, by simp, by simp, HI0.out, hC0⟩
      case round =>
        clear hC0
        obtain ⟨b, p, row, hg, rfl, rfl, hp, hrw, hrw2, hI, hC⟩ := hrel
        obtain ⟨ar, cr, hvr⟩ := owns_form hC.row
        subst hvr
        cases b
        · have HI := Lib.hid hI
          have hrw3 := hrw2 rfl
          have hgg : gk = s.size + 2 - p := by simpa using hg
          clear hI hrw hrw2 hg
          go_wp2_with fail
          refine (specField s (by omega) p hp _).mono ?_
          rintro e w2 ⟨hf, hB2⟩
          have hC2 := (hC.next ((Below.refl _ _).alloc (Nat.le_refl _) _)).next hB2
          have hbx := blk_old hB2 (alloc_lt _ _) (alloc_blk wr #[.int .i64 2, .int .i64 (rows.length : Int), .int .i64 (row.length : Int)] 33)
          have hne : (Value.slice ar row.length cr).ownBlock ≠ some wr.heap.size := fun e => by have := (hC.row.lt _ e).2; omega
          have hlo2 := blk_lt hC.cell
          clear hB2 hC
          rcases hf with ⟨f, q, hR, hq, rfl⟩ | ⟨hR, k, rfl⟩
          · rw [← Lib.size_eq] at hq
            have HF := Lib.hid hR
            have hpq : p ≤ q ∨ s.size ≤ q := by
              have := rdF_len hR
              rw [List.length_drop, List.length_drop, ← Lib.size_eq] at this
              omega
            clear hR
            go_wp2_with (at_builtin; refine wpList_append_own _ rfl _ _ 24 rfl lo0 9 i1 (.string ByteArray.empty) 1 16 Tryz.underlying24 hi hz0 hz1 hz2 rfl (by decide) _ _ _ rfl (hC2.row.alloc _) ⟨w2.heap.size, 0, none⟩ 1 1 [.string ⟨f.toArray⟩] rfl rfl ?a1 ?a2 ?a3 ?a4 ?a5 ?_)
            try (case a1 => exact news_one)
            case a2 => first | (intro u hu; simp at hu; subst hu; rfl) | rfl
            case a3 => unfold maxLen; omega
            case a4 => omega
            case a5 => have := hC2.hi; simp; omega
            intro v3 w3 hown3 hg3 _
            have hSt := (hC2.next ((Below.refl _ _).alloc (Nat.le_refl _) _)).app hg3 hown3
            have hbx3 := (hg3.block wr.heap.size (by have := blk_lt hbx; simp; omega) (fun e => hne e.symm)).trans ((((Below.refl w2.heap.size w2).alloc (Nat.le_refl _) _).block _ (blk_lt hbx)).trans hbx)
            have HSt := Lib.hid hSt
            have HBx := Lib.hid hbx3
            clear hown3 hg3 hC2 hSt hbx hbx3
            by_cases hq1 : q < s.size
            · have hqa : ¬ (s.size : Int) ≤ q := by omega
              have hqb : (0 : Int) ≤ q := by omega
              have hqc : (q : Int) < s.size := by omega
              by_cases h44 : s[q] = 44
              · have e44 : ((s[q].toNat : Int) == 44) = true := byte_eq (c := 44) h44
                have HK := Lib.hid (rowI_comma HI.out HF.out hq1 h44)
                go_wp2_with fail
                go_roundg (s.size + 2 - (q + 1))
                case measure => omega
                case rel => exact ⟨false, q + 1, row ++ [f], rfl, rfl, by go_num, by omega, by simp only [List.length_append, List.length_singleton]; omega, (fun _ => by simp only [List.length_append, List.length_singleton]; omega), HK.out, HSt.out⟩
              · have e44 : ((s[q].toNat : Int) == 44) = false := byte_ne (c := 44) h44
                by_cases h10 : s[q] = 10
                · have e10 : ((s[q].toNat : Int) == 10) = true := byte_eq (c := 10) h10
                  have HK := Lib.hid (rowI_nl HI.out HF.out hq1 h10)
                  go_wp2_with fail
                  go_roundg 0
                  case measure => omega
                  case rel => exact ⟨true, q + 1, row ++ [f], rfl, rfl, by go_num, by omega, by simp only [List.length_append, List.length_singleton]; omega, (fun h => by cases h), HK.out, HSt.out⟩
                · have e10 : ((s[q].toNat : Int) == 10) = false := byte_ne (c := 10) h10
                  by_cases h13 : s[q] = 13
                  · have e13 : ((s[q].toNat : Int) == 13) = true := byte_eq (c := 13) h13
                    have hn1 : (0 : Int) ≤ (q : Int) + 1 := by omega
                    have hn2 : ((q : Int) + 1).toNat = q + 1 := by omega
                    by_cases hq2 : q + 1 < s.size
                    · have hqd : (q : Int) + 1 < s.size := by omega
                      by_cases hd : s[q + 1] = 10
                      · have d10 : ((s[q + 1].toNat : Int) == 10) = true := byte_eq (c := 10) hd
                        have HK := Lib.hid (rowI_crlf HI.out HF.out hq2 h13 hd)
                        go_wp2_with fail
                        go_roundg 0
                        case measure => omega
                        case rel => exact ⟨true, q + 2, row ++ [f], rfl, rfl, by go_num, by omega, by simp only [List.length_append, List.length_singleton]; omega, (fun h => by cases h), HK.out, HSt.out⟩
                      · have d10 : ((s[q + 1].toNat : Int) == 10) = false := byte_ne (c := 10) hd
                        have HK := Lib.hid (rowI_not HI.out HF.out hq1 h44 h10 (fun _ _ => hd))
                        clear h44 h10
                        have c0 := cell_blk HSt.out.cell 0
                        have c1 := cell_blk HSt.out.cell 1
                        have c2 := cell_blk HSt.out.cell 2
                        have f0 := free_blk HSt.out.cell 0
                        have f1 := free_blk HSt.out.cell 1
                        have f2 := free_blk HSt.out.cell 2
                        have d0 := cell_blk HBx.out 0
                        have d1 := cell_blk HBx.out 1
                        have d2 := cell_blk HBx.out 2
                        have hl1 := blk_lt HSt.out.cell
                        have hl2 := blk_lt HBx.out
                        have hne1 : ¬ (w.heap.size = wr.heap.size) := by omega
                        go_wp2_with fail
                        go_region
                        go_wp2_with fail
                        refine bodyPost_ret (v := .tuple #[.slice (some ⟨w3.heap.size, 0, none⟩) 0 0, .agg #[.int .i64 2, .int .i64 rows.length, .int .i64 row.length]]) ?_ rfl ⟨csvPost_of (csvQ_bad HLN.out (HR.out.trans (allI_bad HA.out hlt (HRR.out.trans HK.out)))) rfl rfl rfl ?_, ?_⟩
                        · rw [results_tmp_cell rfl]
                          go_simp
                        · exact (bad_out HSt.out _ _ _).1
                        · exact (bad_out HSt.out _ _ _).2
                    · have hqd : ¬ (q : Int) + 1 < s.size := by omega
                      have HK := Lib.hid (rowI_not HI.out HF.out hq1 h44 h10 (fun _ h => absurd h hq2))
                      clear h44 h10
                      have c0 := cell_blk HSt.out.cell 0
                      have c1 := cell_blk HSt.out.cell 1
                      have c2 := cell_blk HSt.out.cell 2
                      have f0 := free_blk HSt.out.cell 0
                      have f1 := free_blk HSt.out.cell 1
                      have f2 := free_blk HSt.out.cell 2
                      have d0 := cell_blk HBx.out 0
                      have d1 := cell_blk HBx.out 1
                      have d2 := cell_blk HBx.out 2
                      have hl1 := blk_lt HSt.out.cell
                      have hl2 := blk_lt HBx.out
                      have hne1 : ¬ (w.heap.size = wr.heap.size) := by omega
                      go_wp2_with fail
                      go_region
                      go_wp2_with fail
                      refine bodyPost_ret (v := .tuple #[.slice (some ⟨w3.heap.size, 0, none⟩) 0 0, .agg #[.int .i64 2, .int .i64 rows.length, .int .i64 row.length]]) ?_ rfl ⟨csvPost_of (csvQ_bad HLN.out (HR.out.trans (allI_bad HA.out hlt (HRR.out.trans HK.out)))) rfl rfl rfl ?_, ?_⟩
                      · rw [results_tmp_cell rfl]
                        go_simp
                      · exact (bad_out HSt.out _ _ _).1
                      · exact (bad_out HSt.out _ _ _).2
                  · have e13 : ((s[q].toNat : Int) == 13) = false := byte_ne (c := 13) h13
                    have HK := Lib.hid (rowI_not HI.out HF.out hq1 h44 h10 (fun h => absurd h h13))
                    clear h44 h10
                    have c0 := cell_blk HSt.out.cell 0
                    have c1 := cell_blk HSt.out.cell 1
                    have c2 := cell_blk HSt.out.cell 2
                    have f0 := free_blk HSt.out.cell 0
                    have f1 := free_blk HSt.out.cell 1
                    have f2 := free_blk HSt.out.cell 2
                    have d0 := cell_blk HBx.out 0
                    have d1 := cell_blk HBx.out 1
                    have d2 := cell_blk HBx.out 2
                    have hl1 := blk_lt HSt.out.cell
                    have hl2 := blk_lt HBx.out
                    have hne1 : ¬ (w.heap.size = wr.heap.size) := by omega
                    go_wp2_with fail
                    go_region
                    go_wp2_with fail
                    refine bodyPost_ret (v := .tuple #[.slice (some ⟨w3.heap.size, 0, none⟩) 0 0, .agg #[.int .i64 2, .int .i64 rows.length, .int .i64 row.length]]) ?_ rfl ⟨csvPost_of (csvQ_bad HLN.out (HR.out.trans (allI_bad HA.out hlt (HRR.out.trans HK.out)))) rfl rfl rfl ?_, ?_⟩
                    · rw [results_tmp_cell rfl]
                      go_simp
                    · exact (bad_out HSt.out _ _ _).1
                    · exact (bad_out HSt.out _ _ _).2
            · have hqa : (s.size : Int) ≤ q := by omega
              have HK := Lib.hid (rowI_eof HI.out HF.out (by omega))
              go_wp2_with fail
              go_roundg 0
              case measure => omega
              case rel => exact ⟨true, q, row ++ [f], rfl, rfl, rfl, by omega, by simp only [List.length_append, List.length_singleton]; omega, (fun h => by cases h), HK.out, HSt.out⟩
          · have HSt := Lib.hid hC2
            have HBx := Lib.hid hbx
            clear hC2 hbx
            have HK := Lib.hid (rowI_bad HI.out hR)
            clear hR
            have c0 := cell_blk HSt.out.cell 0
            have c1 := cell_blk HSt.out.cell 1
            have c2 := cell_blk HSt.out.cell 2
            have f0 := free_blk HSt.out.cell 0
            have f1 := free_blk HSt.out.cell 1
            have f2 := free_blk HSt.out.cell 2
            have d0 := cell_blk HBx.out 0
            have d1 := cell_blk HBx.out 1
            have d2 := cell_blk HBx.out 2
            have hl1 := blk_lt HSt.out.cell
            have hl2 := blk_lt HBx.out
            have hne1 : ¬ (w.heap.size = wr.heap.size) := by omega
            go_wp2_with fail
            go_region
            go_wp2_with fail
            refine bodyPost_ret (v := .tuple #[.slice (some ⟨w2.heap.size, 0, none⟩) 0 0, .agg #[.int .i64 2, .int .i64 rows.length, .int .i64 row.length]]) ?_ rfl ⟨csvPost_of (csvQ_bad HLN.out (HR.out.trans (allI_bad HA.out hlt (HRR.out.trans HK.out)))) rfl rfl rfl ?_, ?_⟩
            · rw [results_tmp_cell rfl]
              go_simp
            · exact (bad_out HSt.out _ _ _).1
            · exact (bad_out HSt.out _ _ _).2
        · obtain ⟨vs, hvo, hvr, hvl⟩ := hC.out
          have hA2 := allI_row HA.out hlt (HRR.out.trans hI)
          have hpp := hA2.2
          have HA2 := Lib.hid hA2.1
          clear hI hrw2 hA2
          go_wp2_with (at_builtin; refine wpList_append_own _ rfl _ _ 49 rfl w.heap.size 24 i2 (.slice none 0 0) 1 24 Tryz.underlying49 hj hy0 hy1 hy2 rfl (by decide) _ _ _ rfl (hvo.alloc _) ⟨wr.heap.size, 0, none⟩ 1 1 [.slice ar row.length cr] rfl rfl ?b1 ?b2 ?b3 ?b4 ?b5 ?_)
          try (case b1 => exact news_one)
          case b2 => first | (intro u hu; simp at hu; subst hu; rfl) | rfl
          case b3 => unfold maxLen; omega
          case b4 => omega
          case b5 => have := hC.below.size; simp; omega
          intro v3 w3 hown3 hg3 _
          have hAl : Below wr.heap.size wr (wr.alloc (.cells #[.slice ar row.length cr] 24)) := (Below.refl _ _).alloc (Nat.le_refl _) _
          have HO := Lib.hid ((hC.next hAl).push (hvo.alloc _) (hvr.below hAl) hvl hg3 hown3)
          clear hown3 hg3 hAl hC hvo hvr hvl
          go_wp2_with fail
          go_roundg (s.size - p)
          case measure => omega
          case rel => exact ⟨p, rows ++ [row], rfl, rfl, hp, by simp only [List.length_append, List.length_singleton]; omega, HA2.out, HO.out⟩
    · have hp1 : ¬ (p0 : Int) < s.size := by omega
      have HF := Lib.hid (allI_end HA.out (by omega))
      have c0 := cell_blk hO.cell 0
      have c1 := cell_blk hO.cell 1
      have c2 := cell_blk hO.cell 2
      have f0 := free_blk hO.cell 0
      have f1 := free_blk hO.cell 1
      have f2 := free_blk hO.cell 2
      obtain ⟨ao, co, hvo⟩ := outSt_form hO
      subst hvo
      have HOS := Lib.hid hO
      clear hO
      go_wp2_with fail
      refine bodyPost_ret (v := .tuple #[.slice ao rows.length co, .agg #[.int .i64 0, .int .i64 0, .int .i64 0]]) ?_ rfl ⟨csvPost_of (csvQ_ok HLN.out (HR.out.trans HF.out)) rfl rfl rfl ?_, ?_⟩
      · rw [results_tmp_cell rfl]
        go_simp
      · exact (HOS.out.set _ _ _).1
      · exact (HOS.out.set _ _ _).2

set_option maxRecDepth 100000 in
theorem specReadCsv_long (s : ByteArray) (hs : 4000 < s.size) (w : World) :
    Calls Tryz.prog 45 #[.string s] w fun e w' => CsvPost w s.data.toList e w' ∧ Below w.heap.size w w' := by
  have hq4 : (4000 : Int) < s.size := by omega
  have HLN : Hid (4000 < s.data.toList.length) := Lib.hid (by rw [← Lib.size_eq]; omega)
  go_enter Tryz.func45, Tryz.ntmps45
  go_wp2_with fail
  refine bodyPost_ret (v := .tuple #[.slice (some ⟨w.heap.size + 1, 0, none⟩) 0 0, .agg #[.int .i64 1, .int .i64 0, .int .i64 0]]) ?_ rfl ⟨csvPost_of (csvQ_long HLN.out) rfl rfl rfl ?_, ?_⟩
  · rw [results_tmp_cell rfl]
    go_simp
  · exact (two_out w _).1
  · exact (two_out w _).2

/-- WHAT spec.ReadCsv ANSWERS. -/
theorem specReadCsv (s : ByteArray) (w : World) :
    Calls Tryz.prog 45 #[.string s] w fun e w' => CsvPost w s.data.toList e w' ∧ Below w.heap.size w w' := by
  by_cases hs : s.size ≤ 4000
  · exact specReadCsv_short s hs w
  · exact specReadCsv_long s (by omega) w
end Go.Proofs.YticeagjonfifbaaGreatDoor
