/-
  The text of settings, the program's way.
-/
import Derived.Test.YtnnbhgnllbjmeaaGreatDoorPk4
import Derived.Test.YtnnbhgnllbjmeaaGreatDoorI8O
import Derived.Test.YtnnbhgnllbjmeaaGreatDoorPk3
import Derived.Test.YtnnbhgnllbjmeaaGreatDoorPk2
import Derived.Test.YtnnbhgnllbjmeaaGreatDoorCfgX
namespace Go.Proofs.YtnnbhgnllbjmeaaGreatDoor
open Go.RowKit

/-- What the numerals want of a world. -/
structure Dig8 (w : World) : Prop where
  tab : Lib.TabIs Tryz.prog w "internal/strconv.uint64pow10" .u64 Lib.pow10Tab
  hg : 1 < w.heap.size
theorem Dig8.mono {w w' : World} (h : Dig8 w) (hB : Below w.heap.size w w') : Dig8 w' := ⟨tabIs_below h.tab hB (by kernel_rfl) h.hg, Nat.lt_of_lt_of_le h.hg hB.size⟩
theorem digitsG (n : Int) (h0 : 0 ≤ n) (h1 : n ≤ 1000) (w : World) (h : Dig8 w) :
    Calls Tryz.prog 53 #[.int .i64 n] w fun e w' => e = .returned (.string ⟨(Lib.itoa n).toArray⟩) ∧ Below w.heap.size w w' := implDigits n (by omega) (by omega) w h.tab
theorem own_slice8 {w : World} {base n : Nat} {T : TypeId} {v : Value} {xs : List Value} (ho : w.ownsRow base T 1 v n xs) (hn : 1 ≤ n) : ∃ g cap, v = .slice (some ⟨g, 0, none⟩) n cap ∧ n ≤ cap := by
  rcases ho.2 with ⟨_, h0⟩ | ⟨g, cap, cur, rfl, _, _, hnc, _, _, _⟩
  · omega
  · exact ⟨g, cap, rfl, hnc⟩
set_option maxRecDepth 100000 in
set_option maxHeartbeats 2000000 in
theorem signsTextG (w : World) (u : Value) (s : List Int) (h : IntRow w u s) (hs : ∀ z ∈ s, -1 ≤ z ∧ z ≤ 1) (hl4 : s.length ≤ 4) (hl1 : 1 ≤ s.length) :
    Calls Tryz.prog 54 #[u] w fun e w' => e = .returned (.string ⟨(Lib.join (s.map sgnT) [44]).toArray⟩) ∧ Below w.heap.size w w' := by
  obtain ⟨iS, hi, hz0, hz1, hz2⟩ := info_parts infoStr
  obtain ⟨a, c, rfl, _, hc⟩ := intRow_form h
  have HC := Lib.hid hc
  have HSG := Lib.hid hs
  clear hc h hs
  have hO0 : (w.alloc (.cells #[] 9)).ownsRow w.heap.size 9 1 (.slice (some ⟨w.heap.size, 0, none⟩) 0 0) 0 [] := World.ownsRow_made w #[] 0 (Nat.le_refl _) (by unfold maxLen; omega) (by simp)
  have H0 := Lib.hid (And.intro hO0 (below_al w (.cells #[] 9)))
  clear hO0
  obtain ⟨n, hn⟩ : ∃ n : Nat, s.length = n := ⟨_, rfl⟩
  rw [hn] at hl4 hl1 ⊢
  have HN := Lib.hid hn
  clear hn
  have e1 : ByteArray.extract ⟨#[45, 48, 43]⟩ 0 1 = ⟨#[45]⟩ := rfl
  have e2 : ByteArray.extract ⟨#[45, 48, 43]⟩ 1 2 = ⟨#[48]⟩ := rfl
  have e3 : ByteArray.extract ⟨#[45, 48, 43]⟩ 2 3 = ⟨#[43]⟩ := rfl
  go_enter Tryz.func54, Tryz.ntmps54
  go_wp2_with fail
  go_loopw [3, 9] (fun v i wr => ∃ j : Nat, j ≤ n ∧ i = .int .i64 j ∧ wr.ownsRow w.heap.size 9 1 v j (strCells ((s.map sgnT).take j)) ∧ Below w.heap.size w wr) (fun _ i _ => n - (intOf i).toNat)
  case atStart => exact ⟨0, Nat.zero_le _, rfl, H0.out.1, H0.out.2⟩
  case round =>
    clear H0
    obtain ⟨j, hj, rfl, hown, hB⟩ := hrel
    by_cases hlt : j < n
    · have hj1 : (j : Int) < n := by omega
      have hj0 : (0 : Int) ≤ j := by omega
      obtain ⟨z, hz⟩ : ∃ z, s[j]? = some z := ⟨_, List.getElem?_eq_getElem (by rw [HN.out]; exact hlt)⟩
      obtain ⟨b, off, rfl, hcz0⟩ := HC.out j z hz
      have hcz := (hB.cell (p := ⟨b, off + j, none⟩) (World.block_lt_of_cell? w _ hcz0)).trans hcz0
      have hzr := HSG.out z (List.mem_of_getElem? hz)
      have HZ := Lib.hid hz
      clear hz hcz0
      rcases (by omega : z = -1 ∨ z = 0 ∨ z = 1) with rfl | rfl | rfl
      · go_wp2_with (at_builtin; refine wpList_append_own _ rfl _ _ 36 rfl w.heap.size 9 iS (.string ByteArray.empty) 1 16 Tryz.underlying36 hi hz0 hz1 hz2 rfl (by decide) _ _ _ rfl (hown.alloc (.cells #[.string ⟨#[45]⟩] 9)) ⟨wr.heap.size, 0, none⟩ 1 1 [.string ⟨#[45]⟩] rfl rfl news_one (by intro y hy; simp at hy; subst hy; rfl) ?a0 ?b0 ?c0 ?_)
        case a0 => unfold maxLen; omega
        case b0 => omega
        case c0 => have := hB.size; simp; omega
        intro v' w7 hown1 hg1 _
        have hR := Lib.hid (sgn_row HZ.out (by rfl) hown1)
        have hBB := Lib.hid ((hB.alloc hB.size (.cells #[.string ⟨#[45]⟩] 9)).grown hg1 (by have := hB.size; simp; omega) (fun q hq => (hown.lt q hq).1))
        clear hown1 hg1 hown hB hcz
        go_wp2_with fail
        go_roundw
        case rel => exact ⟨j + 1, by omega, by go_num, hR.out, hBB.out⟩
        case measure => simp [intOf]; omega
      · go_wp2_with (at_builtin; refine wpList_append_own _ rfl _ _ 36 rfl w.heap.size 9 iS (.string ByteArray.empty) 1 16 Tryz.underlying36 hi hz0 hz1 hz2 rfl (by decide) _ _ _ rfl (hown.alloc (.cells #[.string ⟨#[48]⟩] 9)) ⟨wr.heap.size, 0, none⟩ 1 1 [.string ⟨#[48]⟩] rfl rfl news_one (by intro y hy; simp at hy; subst hy; rfl) ?a1 ?b1 ?c1 ?_)
        case a1 => unfold maxLen; omega
        case b1 => omega
        case c1 => have := hB.size; simp; omega
        intro v' w7 hown1 hg1 _
        have hR := Lib.hid (sgn_row HZ.out (by rfl) hown1)
        have hBB := Lib.hid ((hB.alloc hB.size (.cells #[.string ⟨#[48]⟩] 9)).grown hg1 (by have := hB.size; simp; omega) (fun q hq => (hown.lt q hq).1))
        clear hown1 hg1 hown hB hcz
        go_wp2_with fail
        go_roundw
        case rel => exact ⟨j + 1, by omega, by go_num, hR.out, hBB.out⟩
        case measure => simp [intOf]; omega
      · go_wp2_with (at_builtin; refine wpList_append_own _ rfl _ _ 36 rfl w.heap.size 9 iS (.string ByteArray.empty) 1 16 Tryz.underlying36 hi hz0 hz1 hz2 rfl (by decide) _ _ _ rfl (hown.alloc (.cells #[.string ⟨#[43]⟩] 9)) ⟨wr.heap.size, 0, none⟩ 1 1 [.string ⟨#[43]⟩] rfl rfl news_one (by intro y hy; simp at hy; subst hy; rfl) ?a2 ?b2 ?c2 ?_)
        case a2 => unfold maxLen; omega
        case b2 => omega
        case c2 => have := hB.size; simp; omega
        intro v' w7 hown1 hg1 _
        have hR := Lib.hid (sgn_row HZ.out (by rfl) hown1)
        have hBB := Lib.hid ((hB.alloc hB.size (.cells #[.string ⟨#[43]⟩] 9)).grown hg1 (by have := hB.size; simp; omega) (fun q hq => (hown.lt q hq).1))
        clear hown1 hg1 hown hB hcz
        go_wp2_with fail
        go_roundw
        case rel => exact ⟨j + 1, by omega, by go_num, hR.out, hBB.out⟩
        case measure => simp [intOf]; omega
    · have hje : j = n := by omega
      have hj1 : ¬ (j : Int) < n := by omega
      obtain rfl := hje
      have hfull : (s.map sgnT).take j = s.map sgnT := List.take_of_length_le (by simp [HN.out])
      rw [hfull] at hown
      have hlen : (s.map sgnT).length = j := by rw [List.length_map]; exact HN.out
      obtain ⟨g, cap, rfl, hcap⟩ := own_slice8 hown hl1
      have hgl := (hown.lt g rfl).2
      have HJ := Lib.hid (implJoined_some wr g 0 cap (s.map sgnT) ⟨#[44]⟩ (by omega) (by omega) hgl (by have := join_len_n (s.map sgnT) 1 44 (fun a ha => by obtain ⟨z, _, rfl⟩ := List.mem_map.1 ha; unfold sgnT; split <;> (try split) <;> simp); show (Lib.join (s.map sgnT) [44]).length ≤ _; omega) (fun q p hq => by rw [Nat.zero_add, hown.cellAt q (by have := (List.getElem?_eq_some_iff.1 hq).1; omega)]; unfold strCells; rw [List.getElem?_map, hq]; rfl))
      rw [hlen] at HJ
      have HB := Lib.hid hB
      clear hB hown hfull hlen
      go_wp2_with fail
      refine HJ.out.mono ?_
      rintro e w8 ⟨rfl, hB8⟩
      go_wp2_with fail
      go_ret
      exact ⟨rfl, bt HB.out hB8⟩
set_option maxRecDepth 100000 in
theorem valueText_0 (C : Cfg) (a : Option Addr) (c : Nat) (w : World) (hd : Dig8 w) (h0 : 0 ≤ C.r) (h1 : C.r ≤ 1000) :
    Calls Tryz.prog 24 #[.agg #[.int .i64 C.r, .int .i64 C.d, .int .i64 C.b, .int .i64 C.l, .int .i64 C.m, .int .i64 C.n, .int .i64 C.e, .slice a C.s.length c], .string ⟨#[114, 111, 117, 110, 100, 115]⟩] w fun e w' => e = .returned (.string ⟨(Lib.itoa C.r).toArray⟩) ∧ Below w.heap.size w w' := by
  have HD := Lib.hid (hd.mono (below_al w (.cells #[.int .i64 C.r, .int .i64 C.d, .int .i64 C.b, .int .i64 C.l, .int .i64 C.m, .int .i64 C.n, .int .i64 C.e, .slice a C.s.length c] 26)))
  have HI := Lib.hid (And.intro h0 h1)
  clear hd h0 h1
  go_enter Tryz.func24, Tryz.ntmps24
  go_wp2_with fail
  refine (numberAt_0 _ _).mono ?_
  rintro e w1 ⟨rfl, rfl⟩
  go_wp2_with fail
  refine (digitsG _ HI.out.1 HI.out.2 _ HD.out).mono ?_
  rintro e w2 ⟨rfl, hB⟩
  go_wp2_with fail
  go_ret
  exact ⟨rfl, bt (below_al w _) hB⟩
set_option maxRecDepth 100000 in
theorem valueText_1 (C : Cfg) (a : Option Addr) (c : Nat) (w : World) (hd : Dig8 w) (h0 : 0 ≤ C.d) (h1 : C.d ≤ 1000) :
    Calls Tryz.prog 24 #[.agg #[.int .i64 C.r, .int .i64 C.d, .int .i64 C.b, .int .i64 C.l, .int .i64 C.m, .int .i64 C.n, .int .i64 C.e, .slice a C.s.length c], .string ⟨#[100, 101, 112, 116, 104]⟩] w fun e w' => e = .returned (.string ⟨(Lib.itoa C.d).toArray⟩) ∧ Below w.heap.size w w' := by
  have HD := Lib.hid (hd.mono (below_al w (.cells #[.int .i64 C.r, .int .i64 C.d, .int .i64 C.b, .int .i64 C.l, .int .i64 C.m, .int .i64 C.n, .int .i64 C.e, .slice a C.s.length c] 26)))
  have HI := Lib.hid (And.intro h0 h1)
  clear hd h0 h1
  go_enter Tryz.func24, Tryz.ntmps24
  go_wp2_with fail
  refine (numberAt_1 _ _).mono ?_
  rintro e w1 ⟨rfl, rfl⟩
  go_wp2_with fail
  refine (digitsG _ HI.out.1 HI.out.2 _ HD.out).mono ?_
  rintro e w2 ⟨rfl, hB⟩
  go_wp2_with fail
  go_ret
  exact ⟨rfl, bt (below_al w _) hB⟩
set_option maxRecDepth 100000 in
theorem valueText_2 (C : Cfg) (a : Option Addr) (c : Nat) (w : World) (hd : Dig8 w) (h0 : 0 ≤ C.b) (h1 : C.b ≤ 1000) :
    Calls Tryz.prog 24 #[.agg #[.int .i64 C.r, .int .i64 C.d, .int .i64 C.b, .int .i64 C.l, .int .i64 C.m, .int .i64 C.n, .int .i64 C.e, .slice a C.s.length c], .string ⟨#[98, 105, 110, 115]⟩] w fun e w' => e = .returned (.string ⟨(Lib.itoa C.b).toArray⟩) ∧ Below w.heap.size w w' := by
  have HD := Lib.hid (hd.mono (below_al w (.cells #[.int .i64 C.r, .int .i64 C.d, .int .i64 C.b, .int .i64 C.l, .int .i64 C.m, .int .i64 C.n, .int .i64 C.e, .slice a C.s.length c] 26)))
  have HI := Lib.hid (And.intro h0 h1)
  clear hd h0 h1
  go_enter Tryz.func24, Tryz.ntmps24
  go_wp2_with fail
  refine (numberAt_2 _ _).mono ?_
  rintro e w1 ⟨rfl, rfl⟩
  go_wp2_with fail
  refine (digitsG _ HI.out.1 HI.out.2 _ HD.out).mono ?_
  rintro e w2 ⟨rfl, hB⟩
  go_wp2_with fail
  go_ret
  exact ⟨rfl, bt (below_al w _) hB⟩
set_option maxRecDepth 100000 in
theorem valueText_3 (C : Cfg) (a : Option Addr) (c : Nat) (w : World) (hd : Dig8 w) (h0 : 0 ≤ C.l) (h1 : C.l ≤ 1000) :
    Calls Tryz.prog 24 #[.agg #[.int .i64 C.r, .int .i64 C.d, .int .i64 C.b, .int .i64 C.l, .int .i64 C.m, .int .i64 C.n, .int .i64 C.e, .slice a C.s.length c], .string ⟨#[108, 97, 109, 98, 100, 97]⟩] w fun e w' => e = .returned (.string ⟨(Lib.itoa C.l).toArray⟩) ∧ Below w.heap.size w w' := by
  have HD := Lib.hid (hd.mono (below_al w (.cells #[.int .i64 C.r, .int .i64 C.d, .int .i64 C.b, .int .i64 C.l, .int .i64 C.m, .int .i64 C.n, .int .i64 C.e, .slice a C.s.length c] 26)))
  have HI := Lib.hid (And.intro h0 h1)
  clear hd h0 h1
  go_enter Tryz.func24, Tryz.ntmps24
  go_wp2_with fail
  refine (numberAt_3 _ _).mono ?_
  rintro e w1 ⟨rfl, rfl⟩
  go_wp2_with fail
  refine (digitsG _ HI.out.1 HI.out.2 _ HD.out).mono ?_
  rintro e w2 ⟨rfl, hB⟩
  go_wp2_with fail
  go_ret
  exact ⟨rfl, bt (below_al w _) hB⟩
set_option maxRecDepth 100000 in
theorem valueText_4 (C : Cfg) (a : Option Addr) (c : Nat) (w : World) (hd : Dig8 w) (h0 : 0 ≤ C.m) (h1 : C.m ≤ 1000) :
    Calls Tryz.prog 24 #[.agg #[.int .i64 C.r, .int .i64 C.d, .int .i64 C.b, .int .i64 C.l, .int .i64 C.m, .int .i64 C.n, .int .i64 C.e, .slice a C.s.length c], .string ⟨#[114, 111, 119, 115]⟩] w fun e w' => e = .returned (.string ⟨(Lib.itoa C.m).toArray⟩) ∧ Below w.heap.size w w' := by
  have HD := Lib.hid (hd.mono (below_al w (.cells #[.int .i64 C.r, .int .i64 C.d, .int .i64 C.b, .int .i64 C.l, .int .i64 C.m, .int .i64 C.n, .int .i64 C.e, .slice a C.s.length c] 26)))
  have HI := Lib.hid (And.intro h0 h1)
  clear hd h0 h1
  go_enter Tryz.func24, Tryz.ntmps24
  go_wp2_with fail
  refine (numberAt_4 _ _).mono ?_
  rintro e w1 ⟨rfl, rfl⟩
  go_wp2_with fail
  refine (digitsG _ HI.out.1 HI.out.2 _ HD.out).mono ?_
  rintro e w2 ⟨rfl, hB⟩
  go_wp2_with fail
  go_ret
  exact ⟨rfl, bt (below_al w _) hB⟩
set_option maxRecDepth 100000 in
theorem valueText_6 (C : Cfg) (a : Option Addr) (c : Nat) (w : World) (h : IntRow w (.slice a C.s.length c) C.s) (hs : ∀ z ∈ C.s, -1 ≤ z ∧ z ≤ 1) (hl4 : C.s.length ≤ 4) (hl1 : 1 ≤ C.s.length) :
    Calls Tryz.prog 24 #[.agg #[.int .i64 C.r, .int .i64 C.d, .int .i64 C.b, .int .i64 C.l, .int .i64 C.m, .int .i64 C.n, .int .i64 C.e, .slice a C.s.length c], .string ⟨#[115, 105, 103, 110, 115]⟩] w fun e w' => e = .returned (.string ⟨(Lib.join (C.s.map sgnT) [44]).toArray⟩) ∧ Below w.heap.size w w' := by
  have HS := Lib.hid (signsTextG _ _ C.s (h.below (below_al w (.cells #[.int .i64 C.r, .int .i64 C.d, .int .i64 C.b, .int .i64 C.l, .int .i64 C.m, .int .i64 C.n, .int .i64 C.e, .slice a C.s.length c] 26))) hs hl4 hl1)
  clear h hs hl4 hl1
  go_enter Tryz.func24, Tryz.ntmps24
  go_wp2_with fail
  refine HS.out.mono ?_
  rintro e w2 ⟨rfl, hB⟩
  go_wp2_with fail
  go_ret
  exact ⟨rfl, bt (below_al w _) hB⟩
/-- What the text of a rate keeps: the two numbers' cells. -/
abbrev RtS (w : World) (C : Cfg) (w' : World) : Prop := w'.cell? ⟨w.heap.size, 5, none⟩ = some (.int .i64 C.n) ∧ w'.cell? ⟨w.heap.size, 6, none⟩ = some (.int .i64 C.e) ∧ Dig8 w' ∧ Below w.heap.size w w'
theorem RtS.next {w : World} {C : Cfg} {w1 w2 : World} (h : RtS w C w1) (hB : Below w1.heap.size w1 w2) : RtS w C w2 :=
  ⟨cell_keepX h.1 hB, cell_keepX h.2.1 hB, h.2.2.1.mono hB, h.2.2.2.trans (hB.mono h.2.2.2.size)⟩
theorem RtS.drew {w : World} {C : Cfg} {w1 : World} (h : RtS w C w1) : RtS w C w1.drew := ⟨h.1, h.2.1, ⟨h.2.2.1.tab, h.2.2.1.hg⟩, h.2.2.2.drew⟩
set_option maxRecDepth 100000 in
set_option maxHeartbeats 4000000 in
theorem valueText_5 (C : Cfg) (a : Option Addr) (c : Nat) (w : World) (hd : Dig8 w) (h0 : 0 ≤ C.n ∧ C.n ≤ 1000) (h1 : 0 ≤ C.e ∧ C.e ≤ 1000) :
    Calls Tryz.prog 24 #[.agg #[.int .i64 C.r, .int .i64 C.d, .int .i64 C.b, .int .i64 C.l, .int .i64 C.m, .int .i64 C.n, .int .i64 C.e, .slice a C.s.length c], .string ⟨#[114, 97, 116, 101]⟩] w fun e w' => e = .returned (.string ⟨(Lib.itoa C.n ++ [47] ++ Lib.itoa C.e).toArray⟩) ∧ Below w.heap.size w w' := by
  have hbx := alloc_blk w #[.int .i64 C.r, .int .i64 C.d, .int .i64 C.b, .int .i64 C.l, .int .i64 C.m, .int .i64 C.n, .int .i64 C.e, .slice a C.s.length c] 26
  have HS0 : Hid (RtS w C (w.alloc (.cells #[.int .i64 C.r, .int .i64 C.d, .int .i64 C.b, .int .i64 C.l, .int .i64 C.m, .int .i64 C.n, .int .i64 C.e, .slice a C.s.length c] 26))) := Lib.hid ⟨cell_blk hbx 5, cell_blk hbx 6, hd.mono (below_al w _), below_al w _⟩
  have HN := Lib.hid h0
  have HE := Lib.hid h1
  have q1 : ¬ 9223372036854775807 < (Lib.itoa C.n).length + 1 := by have := itoa_len20 h0.1 h0.2; omega
  have q2 : ¬ 9223372036854775807 < (Lib.itoa C.n).length + 1 + (Lib.itoa C.e).length := by have := itoa_len20 h0.1 h0.2; have := itoa_len20 h1.1 h1.2; omega
  clear hd h0 h1 hbx
  go_enter Tryz.func24, Tryz.ntmps24
  go_wp2_with fail
  have hS0 : RtS w C (World.drew _) := HS0.out.drew
  refine wp_region_noPanic ?_
  refine wp_region_held_drew (S := RtS w C) (by kernel_rfl) hS0 (fun hHeld => ?_)
  clear hS0
  refine wpAnyH_take (i := 0) (oi := ?o1) (v := ?v1) ?hi1 ?hs1 ?hf1 ?hr1 ?hQ1 ?hy1 ?hS1 ?rest1
  case hi1 => rfl
  case hs1 => kernel_rfl
  case hf1 => kernel_rfl
  case hr1 => kernel_rfl
  case hQ1 => exact fun _ _ _ h => h
  case hS1 => assumption
  case hy1 =>
    refine Or.inl ⟨by kernel_rfl, ?_⟩
    intro w' hSw
    (try dsimp only at hSw)
    go_simp
    (try rfl)
  (try simp only [List.getElem_toArray, List.getElem_cons_zero, Act.put, List.setIfInBounds_toArray, List.set_cons_zero, List.set_cons_succ])
  refine wpAnyH_take (i := 1) (oi := ?o2) (v := ?v2) ?hi2 ?hs2 ?hf2 ?hr2 ?hQ2 ?hy2 ?hS2 ?rest2
  case hi2 => rfl
  case hs2 => kernel_rfl
  case hf2 => kernel_rfl
  case hr2 => kernel_rfl
  case hQ2 => exact fun _ _ _ h => h
  case hS2 => assumption
  case hy2 =>
    refine Or.inl ⟨by kernel_rfl, ?_⟩
    intro w' hSw
    (try dsimp only at hSw)
    go_simp
    (try rfl)
  (try simp only [List.getElem_toArray, List.getElem_cons_succ, List.getElem_cons_zero, Act.put, List.setIfInBounds_toArray, List.set_cons_zero, List.set_cons_succ])
  refine wpAnyH_take (i := 4) (oi := ?o3) (v := ?v3) ?hi3 ?hs3 ?hf3 ?hr3 ?hQ3 ?hy3 ?hS3 ?rest3
  case hi3 => rfl
  case hs3 => kernel_rfl
  case hf3 => kernel_rfl
  case hr3 => kernel_rfl
  case hQ3 => exact fun _ _ _ h => h
  case hS3 => assumption
  case hy3 =>
    refine Or.inl ⟨by kernel_rfl, ?_⟩
    intro w' hSw
    (try dsimp only at hSw)
    go_simp
    (try rfl)
  (try simp only [List.getElem_toArray, List.getElem_cons_succ, List.getElem_cons_zero, Act.put, List.setIfInBounds_toArray, List.set_cons_zero, List.set_cons_succ])
  refine wpAnyH_take (i := 5) (oi := ?o4) (v := ?v4) ?hi4 ?hs4 ?hf4 ?hr4 ?hQ4 ?hy4 ?hS4 ?rest4
  case hi4 => rfl
  case hs4 => kernel_rfl
  case hf4 => kernel_rfl
  case hr4 => kernel_rfl
  case hQ4 => exact fun _ _ _ h => h
  case hS4 => assumption
  case hy4 =>
    refine Or.inl ⟨by kernel_rfl, ?_⟩
    intro w' hSw
    (try dsimp only at hSw)
    go_simp
    (try rfl)
  (try simp only [List.getElem_toArray, List.getElem_cons_succ, List.getElem_cons_zero, Act.put, List.setIfInBounds_toArray, List.set_cons_zero, List.set_cons_succ])
  refine wpAnyH_ready (rs := [2]) (by kernel_rfl) (by simp) ?_
  refine AllReadyH.cons rfl (fun K hK => ?_) AllReadyH.nil
  go_simp
  refine (digitsG _ HN.out.1 HN.out.2 _ hHeld.2.2.1).mono ?_
  rintro e w5 ⟨rfl, hB5⟩
  refine hK.out _ _ ?_ (fun hHeld => ?_)
  · exact hHeld.next hB5
  clear hK K
  (try simp only [List.getElem_toArray, List.getElem_cons_succ, List.getElem_cons_zero, Act.put, List.setIfInBounds_toArray, List.set_cons_zero, List.set_cons_succ])
  refine wpAnyH_take (i := 3) (oi := ?o5) (v := ?v5) ?hi5 ?hs5 ?hf5 ?hr5 ?hQ5 ?hy5 ?hS5 ?rest5
  case hi5 => rfl
  case hs5 => kernel_rfl
  case hf5 => kernel_rfl
  case hr5 => kernel_rfl
  case hQ5 => exact fun _ _ _ h => h
  case hS5 => assumption
  case hy5 =>
    refine Or.inl ⟨by kernel_rfl, ?_⟩
    intro w' hSw
    (try dsimp only at hSw)
    go_simp
    (try rfl)
  (try simp only [List.getElem_toArray, List.getElem_cons_succ, List.getElem_cons_zero, Act.put, List.setIfInBounds_toArray, List.set_cons_zero, List.set_cons_succ])
  refine wpAnyH_ready (rs := [6]) (by kernel_rfl) (by simp) ?_
  refine AllReadyH.cons rfl (fun K hK => ?_) AllReadyH.nil
  go_simp
  refine (digitsG _ HE.out.1 HE.out.2 _ hHeld.2.2.1).mono ?_
  rintro e w6 ⟨rfl, hB6⟩
  refine hK.out _ _ ?_ (fun hHeld => ?_)
  · exact hHeld.next hB6
  clear hK K
  (try simp only [List.getElem_toArray, List.getElem_cons_succ, List.getElem_cons_zero, Act.put, List.setIfInBounds_toArray, List.set_cons_zero, List.set_cons_succ])
  refine wpAnyH_take (i := 7) (oi := ?o6) (v := ?v6) ?hi6 ?hs6 ?hf6 ?hr6 ?hQ6 ?hy6 ?hS6 ?rest6
  case hi6 => rfl
  case hs6 => kernel_rfl
  case hf6 => kernel_rfl
  case hr6 => kernel_rfl
  case hQ6 => exact fun _ _ _ h => h
  case hS6 => assumption
  case hy6 =>
    refine Or.inl ⟨by kernel_rfl, ?_⟩
    intro w' hSw
    (try dsimp only at hSw)
    go_simp
    (try rfl)
  (try simp only [List.getElem_toArray, List.getElem_cons_succ, List.getElem_cons_zero, Act.put, List.setIfInBounds_toArray, List.set_cons_zero, List.set_cons_succ])
  refine wpAnyH_take (i := 8) (oi := ?o7) (v := ?v7) ?hi7 ?hs7 ?hf7 ?hr7 ?hQ7 ?hy7 ?hS7 ?rest7
  case hi7 => rfl
  case hs7 => kernel_rfl
  case hf7 => kernel_rfl
  case hr7 => kernel_rfl
  case hQ7 => exact fun _ _ _ h => h
  case hS7 => assumption
  case hy7 =>
    refine Or.inl ⟨by kernel_rfl, ?_⟩
    intro w' hSw
    (try dsimp only at hSw)
    go_simp
    (try rfl)
  (try simp only [List.getElem_toArray, List.getElem_cons_succ, List.getElem_cons_zero, Act.put, List.setIfInBounds_toArray, List.set_cons_zero, List.set_cons_succ])
  refine wpAnyH_done (by kernel_rfl) ?_ _
  refine NoPanic.normal ?_
  go_wp2_with fail
  go_ret
  exact ⟨ret_strX (by apply ByteArray.ext; simp), hHeld.2.2.2⟩
theorem valueTextG (C : Cfg) (u : Value) (k : Nat) (hk : k < 7) (w : World) (hd : Dig8 w) (h : IntRow w u C.s) (hok : okC C = true) (h6 : k = 6 → 1 ≤ C.s.length) :
    Calls Tryz.prog 24 #[.agg #[.int .i64 C.r, .int .i64 C.d, .int .i64 C.b, .int .i64 C.l, .int .i64 C.m, .int .i64 C.n, .int .i64 C.e, u], .string ⟨(wordL k).toArray⟩] w fun e w' => e = .returned (.string ⟨(valueL k C).toArray⟩) ∧ Below w.heap.size w w' := by
  obtain ⟨a, c, rfl, _⟩ := intRow_form h
  have ho := okC_iff.1 hok
  rcases (by omega : k = 0 ∨ k = 1 ∨ k = 2 ∨ k = 3 ∨ k = 4 ∨ k = 5 ∨ k = 6) with rfl | rfl | rfl | rfl | rfl | rfl | rfl
  · exact valueText_0 C a c w hd (by omega) (by omega)
  · exact valueText_1 C a c w hd (by omega) (by omega)
  · exact valueText_2 C a c w hd (by omega) (by omega)
  · exact valueText_3 C a c w hd (by omega) (by omega)
  · exact valueText_4 C a c w hd (by omega) (by omega)
  · exact valueText_5 C a c w hd ⟨by omega, by omega⟩ ⟨by omega, by omega⟩
  · exact valueText_6 C a c w h ho.2.2.2.2.2.1 ho.2.2.2.2.2.2.2.2 (h6 rfl)
set_option maxRecDepth 100000 in
theorem textG_no (C : Cfg) (a : Option Addr) (c : Nat) (w : World) (h : IntRow w (.slice a C.s.length c) C.s) (hk : Hid (okC C = false)) :
    Calls Tryz.prog 7 #[.agg #[.int .i64 C.r, .int .i64 C.d, .int .i64 C.b, .int .i64 C.l, .int .i64 C.m, .int .i64 C.n, .int .i64 C.e, .slice a C.s.length c]] w fun e w' => e = .returned (.string ⟨#[]⟩) ∧ Below w.heap.size w w' := by
  have HO := Lib.hid (okG C (.slice a C.s.length c) _ (h.below (below_al w (.cells #[.int .i64 C.r, .int .i64 C.d, .int .i64 C.b, .int .i64 C.l, .int .i64 C.m, .int .i64 C.n, .int .i64 C.e, .slice a C.s.length c] 26))))
  clear h
  go_enter Tryz.func7, Tryz.ntmps7
  go_wp2_with fail
  refine HO.out.mono ?_
  rintro e w1 ⟨rfl, hB⟩
  rw [hk.out]
  go_wp2_with fail
  go_ret
  exact ⟨rfl, bt (below_al w _) hB⟩
/-- The world while the lines are written: the settings' box, the keys, the builder at bb. -/
structure WrSt (w wr : World) (bb m : Nat) (C : Cfg) (u ks : Value) (l : List UInt8) : Prop where
  below : Below w.heap.size w wr
  box : wr.heap[w.heap.size]? = some (.cells #[.int .i64 C.r, .int .i64 C.d, .int .i64 C.b, .int .i64 C.l, .int .i64 C.m, .int .i64 C.n, .int .i64 C.e, u] 26 (0, 0))
  row : wr.ownsRow w.heap.size 9 1 ks m (((List.finRange m).map fun i => wordL i.val).map encStr)
  bld : Bld wr bb l
  lo : w.heap.size < bb
theorem WrSt.next {w wr w' : World} {bb m : Nat} {C : Cfg} {u ks : Value} {l : List UInt8} (h : WrSt w wr bb m C u ks l) (hB : Below wr.heap.size wr w') : WrSt w w' bb m C u ks l :=
  ⟨h.below.trans (hB.mono h.below.size), blk_next h.box hB, ownsI_below h.row hB, h.bld.below hB, h.lo⟩
theorem WrSt.wrote {w wr w' : World} {bb m : Nat} {C : Cfg} {u ks : Value} {l l' : List UInt8} (h : WrSt w wr bb m C u ks l) (hb : Bld w' bb l') (hB : Below bb wr w') (hO : Others bb wr w') : WrSt w w' bb m C u ks l' := by
  obtain ⟨p, v, hx⟩ := h.bld.blk
  exact ⟨h.below.trans (hB.mono (Nat.le_of_lt h.lo)), hO _ _ _ h.box (by decide) (by have := h.lo; omega), hO.owns h.row (by decide) hx (by decide), hb, h.lo⟩
theorem keyAt {m j : Nat} (h : j < m) : (((List.finRange m).map fun i => wordL i.val).map encStr)[j]? = some (.string ⟨(wordL j).toArray⟩) := by
  simp [h]
theorem cat_eq (wd t : List UInt8) : ((⟨wd.toArray⟩ : ByteArray) ++ ⟨#[61]⟩ ++ ⟨t.toArray⟩ ++ ⟨#[10]⟩) = ⟨((wd ++ 61 :: t) ++ [10]).toArray⟩ := by
  apply ByteArray.ext
  simp
set_option maxRecDepth 100000 in
set_option maxHeartbeats 4000000 in
theorem textG_6 (C : Cfg) (a : Option Addr) (c : Nat) (w : World) (hd : Dig8 w) (h : IntRow w (.slice a C.s.length c) C.s) (hk : Hid (okC C = true)) (hs : C.s.length = 0) :
    Calls Tryz.prog 7 #[.agg #[.int .i64 C.r, .int .i64 C.d, .int .i64 C.b, .int .i64 C.l, .int .i64 C.m, .int .i64 C.n, .int .i64 C.e, .slice a C.s.length c]] w fun e w' => e = .returned (.string ⟨(preC C 6).toArray⟩) ∧ Below w.heap.size w w' := by
  have HO := Lib.hid (okG C (.slice a C.s.length c) _ (h.below (below_al w (.cells #[.int .i64 C.r, .int .i64 C.d, .int .i64 C.b, .int .i64 C.l, .int .i64 C.m, .int .i64 C.n, .int .i64 C.e, .slice a C.s.length c] 26))))
  have HD := Lib.hid hd
  have HR := Lib.hid h
  have hn : (C.s.length : Int) = 0 := by omega
  have HL1 : Hid ((6 : Nat) = 7 → 1 ≤ C.s.length) := Lib.hid (by omega)
  have hkey6 := keyLit (s := ⟨#[115, 105, 103, 110, 115]⟩) (by decide)
  have X0 := Lib.hid (alloc_blk w #[.int .i64 C.r, .int .i64 C.d, .int .i64 C.b, .int .i64 C.l, .int .i64 C.m, .int .i64 C.n, .int .i64 C.e, .slice a C.s.length c] 26)
  clear hd h hs
  go_enter Tryz.func7, Tryz.ntmps7
  go_wp2_with fail
  refine HO.out.mono ?_
  rintro e w1 ⟨rfl, hB⟩
  rw [hk.out]
  have X1 := Lib.hid (blk_next X0.out hB)
  have B1 := Lib.hid (bt (below_al w (.cells #[.int .i64 C.r, .int .i64 C.d, .int .i64 C.b, .int .i64 C.l, .int .i64 C.m, .int .i64 C.n, .int .i64 C.e, .slice a C.s.length c] 26)) hB)
  clear hB X0
  go_wp2_with fail
  refine (keyPlacesG w1).mono ?_
  rintro e w2 ⟨rfl, hK⟩
  have hown := hK.1
  have X2 := Lib.hid (blk_next X1.out hK.2)
  have B2 := Lib.hid (bt B1.out hK.2)
  have S1 := Lib.hid (blk_lt X1.out)
  clear hK X1 B1
  have ca7 := cell_blk X2.out 7
  have la := blk_lt X2.out
  go_wp2_with (at_delete; refine wpList_delete_own _ rfl _ _ 43 9 rfl 3 keyedS Tryz.underlying43 _ w1.heap.size 7 keyD rfl hown _ _ rfl hkey6 ?_; intro w3 hown3 hturn3)
  have X3 := Lib.hid ((hturn3.grown.block w.heap.size la (by have := S1.out; simp; omega)).trans X2.out)
  have B3 := Lib.hid (B2.out.grown hturn3.grown (Nat.le_of_lt la) (fun j hj => by have := S1.out; cases hj; omega))
  have HM : Hid (MapAt w3 w1.heap.size 7 (keyDm 6)) := Lib.hid hown3
  clear hown hown3 hturn3 ca7 la X2 B2 hkey6
  go_wp2_with fail
  refine (keysG (m := 6) (by omega) w1.heap.size 7 _ (HM.out.alloc (.cells #[.pointer none, .slice none 0 0] 47))).mono ?_
  rintro e w4 ⟨ks, rfl, hrow, hB4⟩
  obtain ⟨g, cap, rfl, hcap⟩ := own_slice8 hrow (by omega)
  have hB34 := bt (below_al w3 (.cells #[.pointer none, .slice none 0 0] 47)) hB4
  have HS : Hid (WrSt w w4 w3.heap.size 6 C (.slice a C.s.length c) (.slice (some ⟨g, 0, none⟩) 6 cap) (preC C 0)) := Lib.hid ⟨bt B3.out hB34, blk_next X3.out hB34, World.ownsRow.mono hrow (by rw [size_alloc]; exact Nat.le_trans B3.out.size (Nat.le_succ _)), (bld_new w3).below hB4, blk_lt X3.out⟩
  clear hrow hB4 hB34 X3 B3 HM HO S1
  obtain ⟨bb, hbb⟩ : ∃ bb, w3.heap.size = bb := ⟨_, rfl⟩
  rw [hbb] at HS ⊢
  clear hbb
  go_wp2_with fail
  go_loopw [19] (fun i wr => ∃ j : Nat, j ≤ 6 ∧ i = .int .i64 j ∧ WrSt w wr bb 6 C (.slice a C.s.length c) (.slice (some ⟨g, 0, none⟩) 6 cap) (preC C j)) (fun i _ => 6 - (intOf i).toNat)
  case atStart => exact ⟨0, by omega, rfl, HS.out⟩
  case round =>
    clear HS
    obtain ⟨j, hj, rfl, hS⟩ := hrel
    have HS := Lib.hid hS
    clear hS
    by_cases hlt : j < 6
    · have hj1 : (j : Int) < 6 := by omega
      have hj0 : (0 : Int) ≤ j := by omega
      have h7 : j < 7 := by omega
      have hcj : wr.cell? ⟨g, j, none⟩ = some (.string ⟨(wordL j).toArray⟩) := by
        have h := HS.out.row.cellAt j (by omega)
        exact h.trans (keyAt hlt)
      have hlj := World.block_lt_of_cell? wr _ hcj
      have HV := Lib.hid (valueTextG C (.slice a C.s.length c) j h7 wr (HD.out.mono HS.out.below) (HR.out.below HS.out.below) hk.out (fun e => by have h := HL1.out; omega))
      have HW := Lib.hid (wordL_ok j h7).2.2
      have hvl := valueL_len hk.out h7
      have hwl := (wordL_ok j h7).2.2
      have HP : Hid (preC C (j + 1) = preC C j ++ ((wordL j ++ 61 :: valueL j C) ++ [10])) := Lib.hid (by rw [preC_succ]; rfl)
      have hpl := preC_len hk.out (k := j) (by omega)
      obtain ⟨wd, hwd⟩ : ∃ wd, wordL j = wd := ⟨_, rfl⟩
      obtain ⟨vl, hvv⟩ : ∃ vl, valueL j C = vl := ⟨_, rfl⟩
      rw [hwd] at hcj HV HP hwl
      rw [hvv] at HV HP hvl
      clear hwd hvv HW
      have q1 : ¬ 9223372036854775807 < wd.length + 1 := by omega
      have q2 : ¬ 9223372036854775807 < wd.length + 1 + vl.length := by omega
      have q3 : ¬ 9223372036854775807 < wd.length + 1 + vl.length + 1 := by omega
      have HLn : Hid ((preC C j).length + ((wd ++ 61 :: vl) ++ [10]).length ≤ 140737488355328) := Lib.hid (by simp only [List.length_append, List.length_cons, List.length_nil]; omega)
      clear hpl hwl hvl h7
      have ca0 := cell_blk HS.out.box 0
      have ca1 := cell_blk HS.out.box 1
      have ca2 := cell_blk HS.out.box 2
      have ca3 := cell_blk HS.out.box 3
      have ca4 := cell_blk HS.out.box 4
      have ca5 := cell_blk HS.out.box 5
      have ca6 := cell_blk HS.out.box 6
      have ca7 := cell_blk HS.out.box 7
      have la := blk_lt HS.out.box
      go_wp2_with fail
      refine HV.out.mono ?_
      rintro e w5 ⟨rfl, hB5⟩
      have H5 := Lib.hid (HS.out.next hB5)
      clear hB5 HS HV hcj hlj la ca0 ca1 ca2 ca3 ca4 ca5 ca6 ca7
      have HB := Lib.hid (bldStr H5.out.bld HLn.out)
      rw [← cat_eq] at HB
      go_wp2_with fail
      refine HB.out.mono ?_
      rintro e w6 ⟨⟨k6, rfl⟩, hb6, hB6, hO6⟩
      have H6 := Lib.hid (H5.out.wrote hb6 hB6 hO6)
      rw [← HP.out] at H6
      clear hb6 hB6 hO6 H5 HB
      go_wp2_with fail
      go_roundw
      case rel => exact ⟨j + 1, by omega, by go_num, H6.out⟩
      case measure => simp [intOf]; omega
    · have hje : j = 6 := by omega
      have hj1 : ¬ (j : Int) < 6 := by omega
      obtain rfl := hje
      have HB := Lib.hid (bldDone HS.out.bld)
      go_wp2_with fail
      refine HB.out.mono ?_
      rintro e w5 ⟨rfl, hB5⟩
      go_wp2_with fail
      go_ret
      exact ⟨rfl, HS.out.below.trans (hB5.mono (Nat.le_of_lt HS.out.lo))⟩
set_option maxRecDepth 100000 in
set_option maxHeartbeats 4000000 in
theorem textG_7 (C : Cfg) (a : Option Addr) (c : Nat) (w : World) (hd : Dig8 w) (h : IntRow w (.slice a C.s.length c) C.s) (hk : Hid (okC C = true)) (hs : C.s.length ≠ 0) :
    Calls Tryz.prog 7 #[.agg #[.int .i64 C.r, .int .i64 C.d, .int .i64 C.b, .int .i64 C.l, .int .i64 C.m, .int .i64 C.n, .int .i64 C.e, .slice a C.s.length c]] w fun e w' => e = .returned (.string ⟨(preC C 7).toArray⟩) ∧ Below w.heap.size w w' := by
  have HO := Lib.hid (okG C (.slice a C.s.length c) _ (h.below (below_al w (.cells #[.int .i64 C.r, .int .i64 C.d, .int .i64 C.b, .int .i64 C.l, .int .i64 C.m, .int .i64 C.n, .int .i64 C.e, .slice a C.s.length c] 26))))
  have HD := Lib.hid hd
  have HR := Lib.hid h
  have hn : ¬ (C.s.length : Int) = 0 := by omega
  have HL1 : Hid ((7 : Nat) = 7 → 1 ≤ C.s.length) := Lib.hid (by omega)
  have hkey6 := keyLit (s := ⟨#[115, 105, 103, 110, 115]⟩) (by decide)
  have X0 := Lib.hid (alloc_blk w #[.int .i64 C.r, .int .i64 C.d, .int .i64 C.b, .int .i64 C.l, .int .i64 C.m, .int .i64 C.n, .int .i64 C.e, .slice a C.s.length c] 26)
  clear hd h hs
  go_enter Tryz.func7, Tryz.ntmps7
  go_wp2_with fail
  refine HO.out.mono ?_
  rintro e w1 ⟨rfl, hB⟩
  rw [hk.out]
  have X1 := Lib.hid (blk_next X0.out hB)
  have B1 := Lib.hid (bt (below_al w (.cells #[.int .i64 C.r, .int .i64 C.d, .int .i64 C.b, .int .i64 C.l, .int .i64 C.m, .int .i64 C.n, .int .i64 C.e, .slice a C.s.length c] 26)) hB)
  clear hB X0
  go_wp2_with fail
  refine (keyPlacesG w1).mono ?_
  rintro e w2 ⟨rfl, hK⟩
  have hown := hK.1
  have X2 := Lib.hid (blk_next X1.out hK.2)
  have B2 := Lib.hid (bt B1.out hK.2)
  have S1 := Lib.hid (blk_lt X1.out)
  clear hK X1 B1
  have ca7 := cell_blk X2.out 7
  have la := blk_lt X2.out
  have HM : Hid (MapAt w2 w1.heap.size 7 (keyDm 7)) := Lib.hid hown
  have X3 := Lib.hid X2.out
  have B3 := Lib.hid B2.out
  clear hown hkey6
  go_wp2_with fail
  refine (keysG (m := 7) (by omega) w1.heap.size 7 _ (HM.out.alloc (.cells #[.pointer none, .slice none 0 0] 47))).mono ?_
  rintro e w4 ⟨ks, rfl, hrow, hB4⟩
  obtain ⟨g, cap, rfl, hcap⟩ := own_slice8 hrow (by omega)
  have hB34 := bt (below_al w2 (.cells #[.pointer none, .slice none 0 0] 47)) hB4
  have HS : Hid (WrSt w w4 w2.heap.size 7 C (.slice a C.s.length c) (.slice (some ⟨g, 0, none⟩) 7 cap) (preC C 0)) := Lib.hid ⟨bt B3.out hB34, blk_next X3.out hB34, World.ownsRow.mono hrow (by rw [size_alloc]; exact Nat.le_trans B3.out.size (Nat.le_succ _)), (bld_new w2).below hB4, blk_lt X3.out⟩
  clear hrow hB4 hB34 X3 B3 HM HO S1 X2 B2 ca7 la
  obtain ⟨bb, hbb⟩ : ∃ bb, w2.heap.size = bb := ⟨_, rfl⟩
  rw [hbb] at HS ⊢
  clear hbb
  go_wp2_with fail
  go_loopw [19] (fun i wr => ∃ j : Nat, j ≤ 7 ∧ i = .int .i64 j ∧ WrSt w wr bb 7 C (.slice a C.s.length c) (.slice (some ⟨g, 0, none⟩) 7 cap) (preC C j)) (fun i _ => 7 - (intOf i).toNat)
  case atStart => exact ⟨0, by omega, rfl, HS.out⟩
  case round =>
    clear HS
    obtain ⟨j, hj, rfl, hS⟩ := hrel
    have HS := Lib.hid hS
    clear hS
    by_cases hlt : j < 7
    · have hj1 : (j : Int) < 7 := by omega
      have hj0 : (0 : Int) ≤ j := by omega
      have h7 : j < 7 := by omega
      have hcj : wr.cell? ⟨g, j, none⟩ = some (.string ⟨(wordL j).toArray⟩) := by
        have h := HS.out.row.cellAt j (by omega)
        exact h.trans (keyAt hlt)
      have hlj := World.block_lt_of_cell? wr _ hcj
      have HV := Lib.hid (valueTextG C (.slice a C.s.length c) j h7 wr (HD.out.mono HS.out.below) (HR.out.below HS.out.below) hk.out (fun e => by have h := HL1.out; omega))
      have HW := Lib.hid (wordL_ok j h7).2.2
      have hvl := valueL_len hk.out h7
      have hwl := (wordL_ok j h7).2.2
      have HP : Hid (preC C (j + 1) = preC C j ++ ((wordL j ++ 61 :: valueL j C) ++ [10])) := Lib.hid (by rw [preC_succ]; rfl)
      have hpl := preC_len hk.out (k := j) (by omega)
      obtain ⟨wd, hwd⟩ : ∃ wd, wordL j = wd := ⟨_, rfl⟩
      obtain ⟨vl, hvv⟩ : ∃ vl, valueL j C = vl := ⟨_, rfl⟩
      rw [hwd] at hcj HV HP hwl
      rw [hvv] at HV HP hvl
      clear hwd hvv HW
      have q1 : ¬ 9223372036854775807 < wd.length + 1 := by omega
      have q2 : ¬ 9223372036854775807 < wd.length + 1 + vl.length := by omega
      have q3 : ¬ 9223372036854775807 < wd.length + 1 + vl.length + 1 := by omega
      have HLn : Hid ((preC C j).length + ((wd ++ 61 :: vl) ++ [10]).length ≤ 140737488355328) := Lib.hid (by simp only [List.length_append, List.length_cons, List.length_nil]; omega)
      clear hpl hwl hvl h7
      have ca0 := cell_blk HS.out.box 0
      have ca1 := cell_blk HS.out.box 1
      have ca2 := cell_blk HS.out.box 2
      have ca3 := cell_blk HS.out.box 3
      have ca4 := cell_blk HS.out.box 4
      have ca5 := cell_blk HS.out.box 5
      have ca6 := cell_blk HS.out.box 6
      have ca7 := cell_blk HS.out.box 7
      have la := blk_lt HS.out.box
      go_wp2_with fail
      refine HV.out.mono ?_
      rintro e w5 ⟨rfl, hB5⟩
      have H5 := Lib.hid (HS.out.next hB5)
      clear hB5 HS HV hcj hlj la ca0 ca1 ca2 ca3 ca4 ca5 ca6 ca7
      have HB := Lib.hid (bldStr H5.out.bld HLn.out)
      rw [← cat_eq] at HB
      go_wp2_with fail
      refine HB.out.mono ?_
      rintro e w6 ⟨⟨k6, rfl⟩, hb6, hB6, hO6⟩
      have H6 := Lib.hid (H5.out.wrote hb6 hB6 hO6)
      rw [← HP.out] at H6
      clear hb6 hB6 hO6 H5 HB
      go_wp2_with fail
      go_roundw
      case rel => exact ⟨j + 1, by omega, by go_num, H6.out⟩
      case measure => simp [intOf]; omega
    · have hje : j = 7 := by omega
      have hj1 : ¬ (j : Int) < 7 := by omega
      obtain rfl := hje
      have HB := Lib.hid (bldDone HS.out.bld)
      go_wp2_with fail
      refine HB.out.mono ?_
      rintro e w5 ⟨rfl, hB5⟩
      go_wp2_with fail
      go_ret
      exact ⟨rfl, HS.out.below.trans (hB5.mono (Nat.le_of_lt HS.out.lo))⟩
theorem textG (C : Cfg) (u : Value) (w : World) (hd : Dig8 w) (h : IntRow w u C.s) :
    Calls Tryz.prog 7 #[.agg #[.int .i64 C.r, .int .i64 C.d, .int .i64 C.b, .int .i64 C.l, .int .i64 C.m, .int .i64 C.n, .int .i64 C.e, u]] w fun e w' => e = .returned (.string ⟨(textC C).toArray⟩) ∧ Below w.heap.size w w' := by
  obtain ⟨a, c, rfl, _⟩ := intRow_form h
  cases hk : okC C with
  | false =>
    rw [show textC C = [] by rw [textC, if_neg (by rw [hk]; decide)]]
    exact textG_no C a c w h (Lib.hid hk)
  | true =>
    by_cases hs : C.s = []
    · rw [textC_no hk hs]
      exact textG_6 C a c w hd h (Lib.hid hk) (by rw [hs]; rfl)
    · rw [textC_yes hk hs]
      exact textG_7 C a c w hd h (Lib.hid hk) (fun h => hs (List.length_eq_zero_iff.1 h))
end Go.Proofs.YtnnbhgnllbjmeaaGreatDoor
