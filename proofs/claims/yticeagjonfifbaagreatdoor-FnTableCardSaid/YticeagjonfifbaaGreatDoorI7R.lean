/-
  The rows of a text, the program's way: the walk.
-/
import Derived.Test.YticeagjonfifbaaGreatDoorPk5
import Derived.Deep.LoopGhost
import Derived.Laws.ResultCell
namespace Go.Proofs.YticeagjonfifbaaGreatDoor
open Go.RowKit

set_option maxRecDepth 100000 in
theorem readLong (s : ByteArray) (hs : 4000 < s.size) (w : World) :
    Calls Tryz.prog 88 #[.string s] w fun e w' => CsvPost w s.data.toList e w' ∧ Below w.heap.size w w' := by
  have hq4 : (4000 : Int) < s.size := by omega
  have HLN : Hid (4000 < s.data.toList.length) := Lib.hid (by rw [← Lib.size_eq]; omega)
  go_enter Tryz.func88, Tryz.ntmps88
  go_wp2_with fail
  refine bodyPost_ret (v := .tuple #[.slice none 0 0, .agg #[.int .i64 1, .int .i64 0, .int .i64 0]]) ?_ rfl ⟨csvPost_of (csvQ_long HLN.out) rfl rfl rfl (nil_ss _ _), ?_⟩
  · rw [results_tmp_cell rfl]
    go_simp
  · exact (Below.refl _ _).alloc (Nat.le_refl _) _

set_option maxRecDepth 100000 in
set_option maxHeartbeats 8000000 in
theorem readShort (s : ByteArray) (hs : s.size ≤ 4000) (w : World) {m : Int} (hm : w.cell? ⟨4, 0, none⟩ = some (.int .i64 m)) :
    Calls Tryz.prog 88 #[.string s] w fun e w' => CsvPost w s.data.toList e w' ∧ Below w.heap.size w w' := by
  obtain ⟨i1, hi, hz0, hz1, hz2⟩ := info_parts infoStr
  obtain ⟨i2, hj, hy0, hy1, hy2⟩ := info_parts infoSlS
  have hq4 : ¬ (4000 : Int) < s.size := by omega
  have HLN : Hid (¬ 4000 < s.data.toList.length) := Lib.hid (by rw [← Lib.size_eq]; omega)
  have HS := Lib.hid (mach_rd s.data.toList)
  obtain ⟨R, hR⟩ : ∃ R, rdCsv s.data.toList = R := ⟨_, rfl⟩
  rw [hR] at HS
  have HR := Lib.hid hR
  have HF := Lib.hid (fun (p i : Nat) (W : World) (hW : Below w.heap.size w W) => fieldValue (s.extract p i) (by rw [ByteArray.size_extract]; omega) W (maxLen_keep hm hW) (fv7 ((s.data.toList.drop p).take (i - p))) (by rw [cut_toList]))
  have HC0 := Lib.hid ((csvSt_start w).next ((Below.refl _ _).alloc (Nat.le_refl _) (.stringIter s 0)))
  have HI0 : Hid (((((w.alloc (.cells #[.int .i64 0, .int .i64 0, .int .i64 0] 33)).alloc (.cells #[] 24)).alloc (.cells #[] 9)).alloc (.stringIter s 0)).heap[w.heap.size + 3]? = some (.stringIter s 0)) := Lib.hid (by
    have h := World.iter_heap (((w.alloc (.cells #[.int .i64 0, .int .i64 0, .int .i64 0] 33)).alloc (.cells #[] 24)).alloc (.cells #[] 9)) s 0
    simpa [World.iter] using h)
  clear hR hm
  go_enter Tryz.func88, Tryz.ntmps88
  go_wp2_with fail
  go_loopg [4, 5, 6, 7, 8, 9] s.size (fun g vo vr vq vp _ _ wr => ∃ (i p q lo : Nat) (rows : List (List (List UInt8))) (row : List (List UInt8)), i + g = s.size ∧ vq = .int .i64 q ∧ vp = .int .i64 p ∧ q < 6 ∧ p ≤ i ∧ rows.length + row.length ≤ i ∧
    mach (s.data.toList.drop i) q ((s.data.toList.drop p).take (i - p)) row rows = R ∧ wr.heap[w.heap.size + 3]? = some (.stringIter s i) ∧ CsvSt w wr lo vo vr rows row)
  case atStart => exact ⟨0, 0, 0, _, [], [], by omega, rfl, rfl, by omega, by omega, by simp, HS.out, HI0.out, HC0.out⟩
  case round =>
    clear HI0 HC0 HS
    obtain ⟨i, p, q, lo, rows, row, hig, rfl, rfl, hq6, hpi, hlen, hM, hit, hC⟩ := hrel
    have HM := Lib.hid hM
    have HC := Lib.hid hC
    obtain ⟨ao, co, hvo⟩ := outSt_form hC.fin
    subst hvo
    obtain ⟨ar, cr, hvr⟩ := owns_form hC.row
    subst hvr
    clear hM hC
    cases gk with
    | zero =>
      obtain rfl : i = s.size := by omega
      have hnx := fun ty => Lib.run_next_end_at (P := Tryz.prog) wr (w.heap.size + 3) s s.size ty hit (by omega)
      have hend := mach_end s HM.out
      have c0 := cell_blk HC.out.cell 0
      have c1 := cell_blk HC.out.cell 1
      have c2 := cell_blk HC.out.cell 2
      have f0 := free_blk HC.out.cell 0
      have f1 := free_blk HC.out.cell 1
      have f2 := free_blk HC.out.cell 2
      by_cases h3 : q = 3
      · subst h3
        have HE := Lib.hid (hend.1 (Or.inl rfl))
        clear hend
        go_wp2_with fail
        refine bodyPost_ret (v := .tuple #[.slice none 0 0, .agg #[.int .i64 2, .int .i64 rows.length, .int .i64 row.length]]) ?_ rfl ⟨csvPost_of (csvQ_bad HLN.out (HR.out.trans HE.out)) rfl rfl rfl (nil_ss _ _), ?_⟩
        · rw [results_tmp_cell rfl]
          go_simp
        · exact HC.out.fault _ _ _
      by_cases h5 : q = 5
      · subst h5
        have HE := Lib.hid (hend.1 (Or.inr rfl))
        clear hend
        go_wp2_with fail
        refine bodyPost_ret (v := .tuple #[.slice none 0 0, .agg #[.int .i64 2, .int .i64 rows.length, .int .i64 row.length]]) ?_ rfl ⟨csvPost_of (csvQ_bad HLN.out (HR.out.trans HE.out)) rfl rfl rfl (nil_ss _ _), ?_⟩
        · rw [results_tmp_cell rfl]
          go_simp
        · exact HC.out.fault _ _ _
      by_cases h0 : q = 0
      · subst h0
        have HE := Lib.hid (hend.2.1 rfl)
        clear hend
        go_wp2_with fail
        refine bodyPost_ret (v := .tuple #[.slice ao rows.length co, .agg #[.int .i64 0, .int .i64 0, .int .i64 0]]) ?_ rfl ⟨csvPost_of (csvQ_ok HLN.out (HR.out.trans HE.out)) rfl rfl rfl ?_, ?_⟩
        · rw [results_tmp_cell rfl]
          go_simp
        · exact (HC.out.fin.set _ _ _).1
        · exact (HC.out.fin.set _ _ _).2
      · have HE := Lib.hid (hend.2.2 h3 h5 h0)
        clear hend
        have e3 : ¬ (q : Int) = 3 := by omega
        have e5 : ¬ (q : Int) = 5 := by omega
        have e0 : ¬ (q : Int) = 0 := by omega
        have b3 : ((q : Int) == 3) = false := beq_eq_false_iff_ne.2 e3
        have b5 : ((q : Int) == 5) = false := beq_eq_false_iff_ne.2 e5
        have b0 : ((q : Int) == 0) = false := beq_eq_false_iff_ne.2 e0
        have hp0 : (0 : Int) ≤ p := by omega
        have hps : (p : Int) ≤ s.size := by omega
        have HP := Lib.hid hpi
        have HG := Lib.hid hlen
        obtain ⟨f, hf⟩ : ∃ f, fv7 ((s.data.toList.drop p).take (s.size - p)) = f := ⟨_, rfl⟩
        have HX := Lib.hid (HF.out p s.size wr HC.out.below)
        rw [hf] at HX HE
        clear hf h3 h5 h0 e3 e5 e0 hlen hpi
        clear c0 c1 c2 f0 f1 f2
        go_wp2_with fail
        refine HX.out.mono ?_
        rintro e w2 ⟨rfl, hB2⟩
        have hC2 := HC.out.next hB2
        clear hB2 hit hnx HX HC
        go_wp2_with (at_builtin; refine wpList_append_own _ rfl _ _ 24 rfl lo 9 i1 (.string ByteArray.empty) 1 16 Tryz.underlying24 hi hz0 hz1 hz2 rfl (by decide) _ _ _ rfl (hC2.row.alloc _) ⟨w2.heap.size, 0, none⟩ 1 1 [.string ⟨f.toArray⟩] rfl rfl ?a1 ?a2 ?a3 ?a4 ?a5 ?_)
        try (case a1 => exact news_one)
        case a2 => first | (intro u hu; simp at hu; subst hu; rfl) | rfl
        case a3 => have := HG.out; unfold maxLen; omega
        case a4 => have := HG.out; omega
        case a5 => have := hC2.hi; simp; omega
        intro v3 w3 hown3 hg3 _
        have hC3 := (hC2.next ((Below.refl _ _).alloc (Nat.le_refl _) _)).app hg3 hown3
        obtain ⟨a3, c3, hv3⟩ := owns_form hown3
        subst hv3
        clear hown3 hg3 hC2
        obtain ⟨vs, hvo, hvr, hvl⟩ := hC3.out
        go_wp2_with (at_builtin; refine wpList_append_own _ rfl _ _ 49 rfl w.heap.size 24 i2 (.slice none 0 0) 1 24 Tryz.underlying49 hj hy0 hy1 hy2 rfl (by decide) _ _ _ rfl (hvo.alloc _) ⟨w3.heap.size, 0, none⟩ 1 1 [.slice a3 (row.length + 1) c3] rfl rfl ?d1 ?d2 ?d3 ?d4 ?d5 ?_)
        try (case d1 => exact news_one)
        case d2 => first | (intro u hu; simp at hu; subst hu; rfl) | rfl
        case d3 => have := HG.out; unfold maxLen; omega
        case d4 => have := HG.out; omega
        case d5 => have := hC3.below.size; simp; omega
        intro v4 w4 hown4 hg4 _
        have hAl : Below w3.heap.size w3 (w3.alloc (.cells #[.slice a3 (row.length + 1) c3] 24)) := (Below.refl _ _).alloc (Nat.le_refl _) _
        have HO := Lib.hid ((hC3.next hAl).push (hvo.alloc _) (hvr.below hAl) hvl hg4 hown4)
        clear hown4 hg4 hAl hC3 hvo hvr hvl
        have c0 := cell_blk HO.out.cell 0
        have c1 := cell_blk HO.out.cell 1
        have c2 := cell_blk HO.out.cell 2
        have f0 := free_blk HO.out.cell 0
        have f1 := free_blk HO.out.cell 1
        have f2 := free_blk HO.out.cell 2
        obtain ⟨a4, c4, hv4⟩ := outSt_form HO.out
        subst hv4
        go_wp2_with fail
        refine bodyPost_ret (v := .tuple #[.slice a4 (rows ++ [row ++ [f]]).length c4, .agg #[.int .i64 0, .int .i64 0, .int .i64 0]]) ?_ rfl ⟨csvPost_of (csvQ_ok HLN.out (HR.out.trans HE.out)) rfl rfl rfl ?_, ?_⟩
        · rw [results_tmp_cell rfl]
          go_simp
        · exact (HO.out.set _ _ _).1
        · exact (HO.out.set _ _ _).2
    | succ g =>
      have hlt : i < s.size := by omega
      have hnx := fun ty => Lib.run_next_any_at (P := Tryz.prog) wr (w.heap.size + 3) s i ty hit hlt
      obtain ⟨v, hv, hk1, hk2, hcs⟩ := mach_rune s hlt hpi HM.out
      obtain ⟨z, hz⟩ : ∃ z, (Utf8.decode s i).1 = z := ⟨_, rfl⟩
      obtain ⟨k, hk⟩ : ∃ k, (Utf8.decode s i).2 = k := ⟨_, rfl⟩
      rw [hz, hk] at hnx
      rw [hz] at hv
      rw [hk] at hk1 hk2 hcs
      have HI := Lib.hid (Lib.iterAt_heap wr (w.heap.size + 3) s i (i + k) hit)
      have HC1 := Lib.hid (HC.out.iter hit (by omega) (i + k))
      clear hz hk hit HC HM
      obtain ⟨W, hW⟩ : ∃ W, wr.iterAt (w.heap.size + 3) s (i + k) = W := ⟨_, rfl⟩
      rw [hW] at hnx HI HC1
      clear hW
      have HST := Lib.hid (fun w => stateAfter q hq6 z w)
      rw [hv] at HST
      clear hv
      rcases hcs with ⟨rfl, rfl, hm⟩ | ⟨rfl, rfl, hm⟩ | ⟨rfl, hR6⟩ | ⟨hv2, hv6, hm⟩
      · -- a comma
        have HMM := Lib.hid hm
        have HG := Lib.hid hlen
        have hp0 : (0 : Int) ≤ p := by omega
        have hpi1 : (p : Int) ≤ i := by omega
        have his : (i : Int) ≤ s.size := by omega
        have hi0 : (0 : Int) ≤ i := by omega
        obtain ⟨f, hf⟩ : ∃ f, fv7 ((s.data.toList.drop p).take (i - p)) = f := ⟨_, rfl⟩
        have HX := Lib.hid (HF.out p i W HC1.out.below)
        rw [hf] at HX HMM
        clear hf hm hlen
        go_wp2_with fail
        refine (HST.out _).mono ?_
        rintro e w1 ⟨rfl, rfl⟩
        go_wp2_with fail
        refine HX.out.mono ?_
        rintro e w2 ⟨rfl, hB2⟩
        have hC2 := HC1.out.next hB2
        have hit2 := (hB2.block _ (blk_lt HI.out)).trans HI.out
        clear hB2 HX HC1 HI hnx HST
        go_wp2_with (at_builtin; refine wpList_append_own _ rfl _ _ 24 rfl lo 9 i1 (.string ByteArray.empty) 1 16 Tryz.underlying24 hi hz0 hz1 hz2 rfl (by decide) _ _ _ rfl (hC2.row.alloc _) ⟨w2.heap.size, 0, none⟩ 1 1 [.string ⟨f.toArray⟩] rfl rfl ?b1 ?b2 ?b3 ?b4 ?b5 ?_)
        try (case b1 => exact news_one)
        case b2 => first | (intro u hu; simp at hu; subst hu; rfl) | rfl
        case b3 => have := HG.out; unfold maxLen; omega
        case b4 => have := HG.out; omega
        case b5 => have := hC2.hi; simp; omega
        intro v3 w3 hown3 hg3 _
        have hAl : Below w2.heap.size w2 (w2.alloc (.cells #[.string ⟨f.toArray⟩] 9)) := (Below.refl _ _).alloc (Nat.le_refl _) _
        have HC3 := Lib.hid ((hC2.next hAl).app hg3 hown3)
        have HI3 := Lib.hid (iter_grown ((hAl.block _ (blk_lt hit2)).trans hit2) (hC2.next hAl).row hg3)
        clear hown3 hg3 hC2 hAl hit2
        go_wp2_with fail
        go_roundg (s.size - (i + 1))
        case measure => omega
        case rel => exact ⟨i + 1, i + 1, 1, lo, rows, row ++ [f], by omega, rfl, by go_num, by omega, by omega, by have := HG.out; simp only [List.length_append, List.length_singleton]; omega, by rw [Nat.sub_self, List.take_zero]; exact HMM.out, HI3.out, HC3.out⟩
      · -- the end of a row
        have HMM := Lib.hid hm
        have HG := Lib.hid hlen
        have hp0 : (0 : Int) ≤ p := by omega
        have hpi1 : (p : Int) ≤ i := by omega
        have his : (i : Int) ≤ s.size := by omega
        have hi0 : (0 : Int) ≤ i := by omega
        obtain ⟨f, hf⟩ : ∃ f, fv7 ((s.data.toList.drop p).take (i - p)) = f := ⟨_, rfl⟩
        have HX := Lib.hid (HF.out p i W HC1.out.below)
        rw [hf] at HX HMM
        clear hf hm hlen
        go_wp2_with fail
        refine (HST.out _).mono ?_
        rintro e w1 ⟨rfl, rfl⟩
        go_wp2_with fail
        refine HX.out.mono ?_
        rintro e w2 ⟨rfl, hB2⟩
        have hC2 := HC1.out.next hB2
        have hit2 := (hB2.block _ (blk_lt HI.out)).trans HI.out
        clear hB2 HX HC1 HI hnx HST
        go_wp2_with (at_builtin; refine wpList_append_own _ rfl _ _ 24 rfl lo 9 i1 (.string ByteArray.empty) 1 16 Tryz.underlying24 hi hz0 hz1 hz2 rfl (by decide) _ _ _ rfl (hC2.row.alloc _) ⟨w2.heap.size, 0, none⟩ 1 1 [.string ⟨f.toArray⟩] rfl rfl ?g1 ?g2 ?g3 ?g4 ?g5 ?_)
        try (case g1 => exact news_one)
        case g2 => first | (intro u hu; simp at hu; subst hu; rfl) | rfl
        case g3 => have := HG.out; unfold maxLen; omega
        case g4 => have := HG.out; omega
        case g5 => have := hC2.hi; simp; omega
        intro v3 w3 hown3 hg3 _
        have hAl : Below w2.heap.size w2 (w2.alloc (.cells #[.string ⟨f.toArray⟩] 9)) := (Below.refl _ _).alloc (Nat.le_refl _) _
        have hC3 := (hC2.next hAl).app hg3 hown3
        have hit3 := iter_grown ((hAl.block _ (blk_lt hit2)).trans hit2) (hC2.next hAl).row hg3
        obtain ⟨a3, c3, hv3⟩ := owns_form hown3
        subst hv3
        clear hown3 hg3 hC2 hAl hit2
        obtain ⟨vs, hvo, hvr, hvl⟩ := hC3.out
        go_wp2_with (at_builtin; refine wpList_append_own _ rfl _ _ 49 rfl w.heap.size 24 i2 (.slice none 0 0) 1 24 Tryz.underlying49 hj hy0 hy1 hy2 rfl (by decide) _ _ _ rfl (hvo.alloc _) ⟨w3.heap.size, 0, none⟩ 1 1 [.slice a3 (row.length + 1) c3] rfl rfl ?k1 ?k2 ?k3 ?k4 ?k5 ?_)
        try (case k1 => exact news_one)
        case k2 => first | (intro u hu; simp at hu; subst hu; rfl) | rfl
        case k3 => have := HG.out; unfold maxLen; omega
        case k4 => have := HG.out; omega
        case k5 => have := hC3.below.size; simp; omega
        intro v4 w4 hown4 hg4 _
        have hAl : Below w3.heap.size w3 (w3.alloc (.cells #[.slice a3 (row.length + 1) c3] 24)) := (Below.refl _ _).alloc (Nat.le_refl _) _
        have hO := (hC3.next hAl).push (hvo.alloc _) (hvr.below hAl) hvl hg4 hown4
        have hit4 := iter_grown ((hAl.block _ (blk_lt hit3)).trans hit3) (hvo.alloc _) hg4
        have HC5 := Lib.hid hO.start
        have HI5 := Lib.hid ((((Below.refl w4.heap.size w4).alloc (Nat.le_refl _) (.cells #[] 9)).block _ (blk_lt hit4)).trans hit4)
        clear hown4 hg4 hAl hC3 hvo hvr hvl hit3 hit4 hO
        go_wp2_with fail
        go_roundg (s.size - (i + 1))
        case measure => omega
        case rel => exact ⟨i + 1, i + 1, 0, _, rows ++ [row ++ [f]], [], by omega, rfl, by go_num, by omega, by omega, by have := HG.out; simp only [List.length_append, List.length_singleton, List.length_nil]; omega, by rw [Nat.sub_self, List.take_zero]; exact HMM.out, HI5.out, HC5.out⟩
      · -- a fault
        have HE := Lib.hid hR6
        have c0 := cell_blk HC1.out.cell 0
        have c1 := cell_blk HC1.out.cell 1
        have c2 := cell_blk HC1.out.cell 2
        have f0 := free_blk HC1.out.cell 0
        have f1 := free_blk HC1.out.cell 1
        have f2 := free_blk HC1.out.cell 2
        clear hR6
        go_wp2_with fail
        refine (HST.out _).mono ?_
        rintro e w1 ⟨rfl, rfl⟩
        go_wp2_with fail
        refine bodyPost_ret (v := .tuple #[.slice none 0 0, .agg #[.int .i64 2, .int .i64 rows.length, .int .i64 row.length]]) ?_ rfl ⟨csvPost_of (csvQ_bad HLN.out (HR.out.trans HE.out)) rfl rfl rfl (nil_ss _ _), ?_⟩
        · rw [results_tmp_cell rfl]
          go_simp
        · exact HC1.out.fault _ _ _
      · -- the field goes on
        have HMM := Lib.hid hm
        have e1 : ¬ (v : Int) = 1 := by omega
        have e0 : ¬ (v : Int) = 0 := by omega
        have e6 : ¬ (v : Int) = 6 := by omega
        have b1 : ((v : Int) == 1) = false := beq_eq_false_iff_ne.2 e1
        have b0 : ((v : Int) == 0) = false := beq_eq_false_iff_ne.2 e0
        have b6 : ((v : Int) == 6) = false := beq_eq_false_iff_ne.2 e6
        clear hm
        go_wp2_with fail
        refine (HST.out _).mono ?_
        rintro e w1 ⟨rfl, rfl⟩
        go_wp2_with fail
        go_roundg (s.size - (i + k))
        case measure => omega
        case rel => exact ⟨i + k, p, v, lo, rows, row, by omega, rfl, rfl, hv6, by omega, by omega, HMM.out, HI.out, HC1.out⟩

theorem implRead (W : World) (m : Int) (hm : W.cell? ⟨4, 0, none⟩ = some (.int .i64 m)) : ImplRead W := fun s w hB _ => by
  by_cases hs : s.size ≤ 4000
  · exact readShort s hs w (maxLen_keep hm hB)
  · exact readLong s (by omega) w
end Go.Proofs.YticeagjonfifbaaGreatDoor
