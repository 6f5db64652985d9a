/-
  The reading of settings, the program's way: a part, and the whole.
-/
import Derived.Test.YtnnbhgnllbjmeaaGreatDoorI8R
namespace Go.Proofs.YtnnbhgnllbjmeaaGreatDoor
open Go.RowKit

/-- What the reading of a part answers: a fault, or other settings. -/
def PtG (W w : World) (cb ub : Nat) (D : Cfg) (mt : List Nat) (l : List UInt8) (e : Ending) (w' : World) : Prop :=
  ((∃ c : Nat, c ≠ 0 ∧ (∀ t i, goC (l :: t) i mt D = (zeroC, c, i)) ∧ e = .returned (.int .i64 (c : Nat))) ∨ (∃ E u k, (∀ t i, goC (l :: t) i mt D = goC t (i + 1) (k :: mt) E) ∧ e = .returned (.int .i64 0) ∧ RdS W w' cb ub E u (k :: mt) ∧ okC E = true)) ∧ Only cb ub w w'
theorem ret_i8 {a b : Int} (h : a = b) : Ending.returned (.int .i64 a) = .returned (.int .i64 b) := by rw [h]
set_option maxRecDepth 100000 in
theorem readPart_a (W w : World) (_hWs : W.heap.size ≤ w.heap.size) (cb ub : Nat) (D : Cfg) (v : Value) (mt : List Nat) (l : List UInt8) (hl : l.length ≤ 1048576) (hne : l ≠ []) (h : RdS W w cb ub D v mt) (hL : Lib8 w) (hc : Lib.cut l [61] = (l, [], false)) (hno : ∀ x ∈ l, x ≠ 61) :
    Calls Tryz.prog 34 #[.pointer (some ⟨cb, 0, none⟩), .map (some ub), .string ⟨l.toArray⟩] w fun e w' => PtG W w cb ub D mt l e w' := by
  obtain ⟨MM, hM, hU⟩ := h.map
  have hkey := keyLit (s := ⟨l.toArray⟩) (by simp only [ByteArray.size, List.size_toArray]; omega)
  replace hkey : keyOf Tryz.prog 9 (.string ⟨l.toArray⟩) = some (.string l) := hkey
  have HC := Lib.hid (cutG 61 l l [] false hc hl w hL)
  have HS := Lib.hid h
  have HL := Lib.hid hL
  have HM := Lib.hid (And.intro hM hU)
  have HG : Hid (∀ t i, goC (l :: t) i mt D = (zeroC, 10, i)) := Lib.hid (fun t i => goC_line hne (split_none hno))
  obtain ⟨bb, hbb⟩ : ∃ bb, Maps.has MM (.string l) = bb := ⟨_, rfl⟩
  clear h hL hM hU hno hc hne hl
  go_enter Tryz.func34, Tryz.ntmps34
  go_wp2_with fail
  refine HC.out.mono ?_
  rintro e w1 ⟨rfl, hB1⟩
  have hown : MapAt w1 ub 7 MM := HM.out.1.kept (row := none) ⟨hB1.os, hB1.tape, hB1.output, hB1.size, fun k hk _ => hB1.block k hk⟩ (by simp)
  have HO := Lib.hid (Only.of_below (cb := cb) (ub := ub) hB1)
  clear hB1 HC HS HM HL
  go_wp2_with (at_lookup; refine wpList_lookup_own_ok_int _ rfl _ _ 43 rfl 9 3 .i64 keyedS Tryz.underlying43 Tryz.underlying3 (zeroI _) ub 7 MM rfl hown _ _ rfl hkey ?_; intro cc hat hwc)
  clear hat hwc
  clear hown hkey hbb
  go_ret
  exact ⟨Or.inl ⟨10, by decide, HG.out, rfl⟩, HO.out⟩
set_option maxRecDepth 100000 in
theorem readPart_b (W w : World) (_hWs : W.heap.size ≤ w.heap.size) (cb ub : Nat) (D : Cfg) (v : Value) (mt : List Nat) (l : List UInt8) (hl : l.length ≤ 1048576) (hne : l ≠ []) (h : RdS W w cb ub D v mt) (hL : Lib8 w) (a b : List UInt8) (hc : Lib.cut l [61] = (a, b, true)) (hsp : splitEq l = some (a, b)) (hal : a.length ≤ 1048576) (hw : wordOf a = none) :
    Calls Tryz.prog 34 #[.pointer (some ⟨cb, 0, none⟩), .map (some ub), .string ⟨l.toArray⟩] w fun e w' => PtG W w cb ub D mt l e w' := by
  obtain ⟨MM, hM, hU⟩ := h.map
  have hkey := keyLit (s := ⟨a.toArray⟩) (by simp only [ByteArray.size, List.size_toArray]; omega)
  replace hkey : keyOf Tryz.prog 9 (.string ⟨a.toArray⟩) = some (.string a) := hkey
  have HC := Lib.hid (cutG 61 l a b true hc hl w hL)
  have HS := Lib.hid h
  have HL := Lib.hid hL
  have HM := Lib.hid (And.intro hM hU)
  have HG : Hid (∀ t i, goC (l :: t) i mt D = (zeroC, 11, i)) := Lib.hid (fun t i => goC_key hne hsp hw)
  obtain ⟨bb, hbb⟩ : ∃ bb, Maps.has MM (.string a) = bb := ⟨_, rfl⟩
  have HK := Lib.hid (fun w1 => isKeyG ⟨a.toArray⟩ (by simpa [ByteArray.size] using hal) w1)
  have HWd : Hid ((wordOf (ByteArray.mk a.toArray).data.toList).isSome = false) := Lib.hid (by show (wordOf a).isSome = false; rw [hw]; rfl)
  clear h hL hM hU hc hne hl hsp hw hal
  go_enter Tryz.func34, Tryz.ntmps34
  go_wp2_with fail
  refine HC.out.mono ?_
  rintro e w1 ⟨rfl, hB1⟩
  have hown : MapAt w1 ub 7 MM := HM.out.1.kept (row := none) ⟨hB1.os, hB1.tape, hB1.output, hB1.size, fun k hk _ => hB1.block k hk⟩ (by simp)
  have HB1 := Lib.hid hB1
  clear hB1 HC HS HM HL
  go_wp2_with (at_lookup; refine wpList_lookup_own_ok_int _ rfl _ _ 43 rfl 9 3 .i64 keyedS Tryz.underlying43 Tryz.underlying3 (zeroI _) ub 7 MM rfl hown _ _ rfl hkey ?_; intro cc hat hwc)
  clear hat hwc
  clear hown hkey hbb
  refine (HK.out _).mono ?_
  rintro e w2 ⟨rfl, hB2⟩
  rw [HWd.out]
  have HO := Lib.hid (Only.of_below (cb := cb) (ub := ub) (bt HB1.out hB2))
  clear hB2 HB1
  go_wp2_with fail
  go_ret
  exact ⟨Or.inl ⟨11, by decide, HG.out, rfl⟩, HO.out⟩
set_option maxRecDepth 100000 in
theorem readPart_c (W w : World) (_hWs : W.heap.size ≤ w.heap.size) (cb ub : Nat) (D : Cfg) (v : Value) (mt : List Nat) (l : List UInt8) (hl : l.length ≤ 1048576) (hne : l ≠ []) (h : RdS W w cb ub D v mt) (hL : Lib8 w) (b : List UInt8) (k : Nat) (hk : k < 7) (hc : Lib.cut l [61] = (wordL k, b, true)) (hsp : splitEq l = some (wordL k, b)) (hal : (wordL k).length ≤ 1048576) (hmt : k ∈ mt) :
    Calls Tryz.prog 34 #[.pointer (some ⟨cb, 0, none⟩), .map (some ub), .string ⟨l.toArray⟩] w fun e w' => PtG W w cb ub D mt l e w' := by
  obtain ⟨MM, hM, hU⟩ := h.map
  have hkey := keyLit (s := ⟨(wordL k).toArray⟩) (by simp only [ByteArray.size, List.size_toArray]; omega)
  replace hkey : keyOf Tryz.prog 9 (.string ⟨(wordL k).toArray⟩) = some (.string (wordL k)) := hkey
  have HC := Lib.hid (cutG 61 l (wordL k) b true hc hl w hL)
  have HS := Lib.hid h
  have HL := Lib.hid hL
  have HM := Lib.hid (And.intro hM hU)
  have HG : Hid (∀ t i, goC (l :: t) i mt D = (zeroC, 6, i)) := Lib.hid (fun t i => goC_twice hne hsp (wordL_ok k hk).2.1 hmt)
  have hbb : Maps.has MM (.string (wordL k)) = false := by rw [hU k hk]; simp [hmt]
  have HK := Lib.hid (fun w1 => isKeyG ⟨(wordL k).toArray⟩ (by have := (wordL_ok k hk).2.2; simp only [ByteArray.size, List.size_toArray]; omega) w1)
  have HWd : Hid ((wordOf (ByteArray.mk (wordL k).toArray).data.toList).isSome = true) := Lib.hid (by show (wordOf (wordL k)).isSome = true; rw [(wordL_ok k hk).2.1]; rfl)
  obtain ⟨wd, hwd⟩ : ∃ wd, wordL k = wd := ⟨_, rfl⟩
  rw [hwd] at HC hkey hbb HK HWd
  clear h hL hM hU hc hne hl hsp hal hwd hmt hk HS HL
  go_enter Tryz.func34, Tryz.ntmps34
  go_wp2_with fail
  refine HC.out.mono ?_
  rintro e w1 ⟨rfl, hB1⟩
  have hown : MapAt w1 ub 7 MM := HM.out.1.kept (row := none) ⟨hB1.os, hB1.tape, hB1.output, hB1.size, fun k hk _ => hB1.block k hk⟩ (by simp)
  have HB1 := Lib.hid hB1
  clear hB1 HC
  go_wp2_with (at_lookup; refine wpList_lookup_own_ok_int _ rfl _ _ 43 rfl 9 3 .i64 keyedS Tryz.underlying43 Tryz.underlying3 (zeroI _) ub 7 MM rfl hown _ _ rfl hkey ?_; intro cc hat hwc)
  clear hat hwc
  clear hown
  refine (HK.out _).mono ?_
  rintro e w2 ⟨rfl, hB2⟩
  rw [HWd.out]
  have HB2 := Lib.hid (bt HB1.out hB2)
  clear hB2 HB1 HK HWd hbb
  have HO := Lib.hid (Only.of_below (cb := cb) (ub := ub) HB2.out)
  clear hkey HB2 HM
  go_wp2_with fail
  go_ret
  exact ⟨Or.inl ⟨6, by decide, HG.out, rfl⟩, HO.out⟩
set_option maxRecDepth 100000 in
set_option maxHeartbeats 2000000 in
theorem readPart_d (W w : World) (hWs : W.heap.size ≤ w.heap.size) (cb ub : Nat) (D : Cfg) (v : Value) (mt : List Nat) (l : List UInt8) (hl : l.length ≤ 1048576) (hne : l ≠ []) (h : RdS W w cb ub D v mt) (hL : Lib8 w) (hWB : Below W.heap.size W w) (hcb : W.heap.size ≤ cb) (hub : W.heap.size ≤ ub) (hL0 : Lib8 W) (hok : okC D = true) (b : List UInt8) (k : Nat) (hk : k < 7) (hc : Lib.cut l [61] = (wordL k, b, true)) (hsp : splitEq l = some (wordL k, b)) (hal : (wordL k).length ≤ 1048576) (hbl : b.length ≤ 1048576) (hmt : k ∉ mt) :
    Calls Tryz.prog 34 #[.pointer (some ⟨cb, 0, none⟩), .map (some ub), .string ⟨l.toArray⟩] w fun e w' => PtG W w cb ub D mt l e w' := by
  obtain ⟨MM, hM, hU⟩ := h.map
  have hkey := keyLit (s := ⟨(wordL k).toArray⟩) (by simp only [ByteArray.size, List.size_toArray]; omega)
  replace hkey : keyOf Tryz.prog 9 (.string ⟨(wordL k).toArray⟩) = some (.string (wordL k)) := hkey
  have HC := Lib.hid (cutG 61 l (wordL k) b true hc hl w hL)
  have HS := Lib.hid h
  have HL := Lib.hid hL
  have HM := Lib.hid (And.intro hM hU)
  have hbb : Maps.has MM (.string (wordL k)) = true := by rw [hU k hk]; simp [hmt]
  have HLK : Hid (∀ w3, Only cb ub w w3 → Lib8 w3) := Lib.hid (fun w3 ho => hL0.mono (ho.below hWB hcb hub))
  have HGG : Hid (∀ E c, layV D k b = (E, c) → c ≠ 0 → ∀ t i, goC (l :: t) i mt D = (zeroC, c, i)) := Lib.hid (fun E c h1 h2 t i => goC_bad hne hsp (wordL_ok k hk).2.1 hmt h1 h2)
  have HGK : Hid (∀ E, layV D k b = (E, 0) → ∀ t i, goC (l :: t) i mt D = goC t (i + 1) (k :: mt) E) := Lib.hid (fun E h1 t i => goC_good hne hsp (wordL_ok k hk).2.1 hmt h1)
  have HLY : Hid (∀ {E c}, rawV D k b = (c, E) → (c ≠ 0 → (layV D k b).2 = c) ∧ (c = 0 → okC E = true → layV D k b = (E, 0)) ∧ (c = 0 → okC E = false → (layV D k b).2 = 13)) := Lib.hid (fun h => raw_lay hk hok h)
  have HVL : Hid (∀ w3 u, W.heap.size ≤ w3.heap.size → RdS W w3 cb ub D u (k :: mt) → Lib8 w3 → Calls Tryz.prog 60 #[.pointer (some ⟨cb, 0, none⟩), .string ⟨(wordL k).toArray⟩, .string ⟨b.toArray⟩] w3 fun e w' => VlG W w3 cb ub D (k :: mt) k b e w') := Lib.hid (fun w3 u h0 h1 h2 => readValueG k hk W w3 h0 cb ub D u (k :: mt) b hbl h1 h2)
  have HSZ := Lib.hid (show ∀ w3, Only cb ub w w3 → W.heap.size ≤ w3.heap.size from fun w3 ho => Nat.le_trans hWs ho.size)
  have HK := Lib.hid (fun w1 => isKeyG ⟨(wordL k).toArray⟩ (by have := (wordL_ok k hk).2.2; simp only [ByteArray.size, List.size_toArray]; omega) w1)
  have HWd : Hid ((wordOf (ByteArray.mk (wordL k).toArray).data.toList).isSome = true) := Lib.hid (by show (wordOf (wordL k)).isSome = true; rw [(wordL_ok k hk).2.1]; rfl)
  obtain ⟨wd, hwd⟩ : ∃ wd, wordL k = wd := ⟨_, rfl⟩
  rw [hwd] at HC hkey hbb HK HWd HVL
  have HWW := Lib.hid hwd
  have HKK := Lib.hid hk
  clear h hL hM hU hc hne hl hsp hal hwd hmt hk hWs HL hbl hok hWB hcb hub hL0
  go_enter Tryz.func34, Tryz.ntmps34
  go_wp2_with fail
  refine HC.out.mono ?_
  rintro e w1 ⟨rfl, hB1⟩
  have hown : MapAt w1 ub 7 MM := HM.out.1.kept (row := none) ⟨hB1.os, hB1.tape, hB1.output, hB1.size, fun k hk _ => hB1.block k hk⟩ (by simp)
  have HB1 := Lib.hid hB1
  clear hB1 HC
  go_wp2_with (at_lookup; refine wpList_lookup_own_ok_int _ rfl _ _ 43 rfl 9 3 .i64 keyedS Tryz.underlying43 Tryz.underlying3 (zeroI _) ub 7 MM rfl hown _ _ rfl hkey ?_; intro cc hat hwc)
  clear hat hwc
  clear hown
  refine (HK.out _).mono ?_
  rintro e w2 ⟨rfl, hB2⟩
  rw [HWd.out]
  have HB2 := Lib.hid (bt HB1.out hB2)
  clear hB2 HB1 HK HWd hbb
  have hown2 : MapAt w2 ub 7 MM := HM.out.1.kept (row := none) ⟨HB2.out.os, HB2.out.tape, HB2.out.output, HB2.out.size, fun k hk _ => HB2.out.block k hk⟩ (by simp)
  go_wp2_with (at_delete; refine wpList_delete_own _ rfl _ _ 43 9 rfl 3 keyedS Tryz.underlying43 _ ub 7 MM rfl hown2 _ _ rfl hkey ?_; intro w3 hown3 hturn3)
  have H3 := Lib.hid ((HS.out.next HB2.out).strike HM.out.2 HKK.out (by rw [HWW.out]; exact hown3) hturn3.grown)
  have HO3 := Lib.hid ((Only.of_below (cb := cb) (ub := ub) HB2.out).trans (Only.of_grown hturn3.grown))
  have HL3 := Lib.hid (HLK.out w3 HO3.out)
  clear hown2 hown3 hturn3 HB2 HM HS hkey
  refine (HVL.out w3 _ (HSZ.out w3 HO3.out) H3.out HL3.out).mono ?_
  rintro e w4 ⟨c, E, u, hraw, rfl, hR4, hO4⟩
  have hly := HLY.out hraw
  have HO4 := Lib.hid (HO3.out.trans hO4)
  clear hO4 HO3 H3 HL3 HLY HVL hraw
  by_cases hc : c = 0
  · subst hc
    obtain ⟨ua, uc, rfl⟩ := ownsI_form hR4.own
    have hr4 := intRow_of_owns hR4.own (owns_max hR4.own)
    have HOK := Lib.hid (okG E _ w4 hr4)
    have HR4 := Lib.hid hR4
    have HLY := Lib.hid hly
    clear hr4 hly hR4
    have hbx : w4.heap[cb]? = some (.cells #[.int .i64 E.r, .int .i64 E.d, .int .i64 E.b, .int .i64 E.l, .int .i64 E.m, .int .i64 E.n, .int .i64 E.e, .slice ua E.s.length uc] 26 (0, 0)) := HR4.out.box
    have ca0 := cell_blk hbx 0
    have ca1 := cell_blk hbx 1
    have ca2 := cell_blk hbx 2
    have ca3 := cell_blk hbx 3
    have ca4 := cell_blk hbx 4
    have ca5 := cell_blk hbx 5
    have ca6 := cell_blk hbx 6
    have ca7 := cell_blk hbx 7
    clear hbx
    have la := blk_lt HR4.out.box
    cases hoE : okC E with
    | true =>
      rw [hoE] at HOK
      have HE := Lib.hid (HLY.out.2.1 rfl hoE)
      have HoE := Lib.hid hoE
      clear hoE HLY
      go_wp2_with fail
      refine HOK.out.mono ?_
      rintro e w5 ⟨rfl, hB5⟩
      have H5 := Lib.hid (HR4.out.next hB5)
      have HO5 := Lib.hid (HO4.out.trans (Only.of_below hB5))
      clear hB5
      go_wp2_with fail
      go_ret
      exact ⟨Or.inr ⟨E, _, k, HGK.out E HE.out, rfl, H5.out, HoE.out⟩, HO5.out⟩
    | false =>
      rw [hoE] at HOK
      have HE := Lib.hid (HLY.out.2.2 rfl hoE)
      clear hoE HLY
      go_wp2_with fail
      refine HOK.out.mono ?_
      rintro e w5 ⟨rfl, hB5⟩
      have HO5 := Lib.hid (HO4.out.trans (Only.of_below hB5))
      clear hB5
      go_wp2_with fail
      go_ret
      exact ⟨Or.inl ⟨13, by decide, HGG.out (layV D k b).1 13 (Prod.ext rfl HE.out) (by decide), rfl⟩, HO5.out⟩
  · have hci : ¬ (c : Int) = 0 := by omega
    have HE := Lib.hid (hly.1 hc)
    have HC2 := Lib.hid hc
    clear hly hc hR4
    go_wp2_with fail
    go_ret
    exact ⟨Or.inl ⟨c, HC2.out, HGG.out (layV D k b).1 c (Prod.ext rfl HE.out) HC2.out, rfl⟩, HO4.out⟩
theorem readPartG (W w : World) (hWs : W.heap.size ≤ w.heap.size) (cb ub : Nat) (D : Cfg) (v : Value) (mt : List Nat) (l : List UInt8) (hl : l.length ≤ 1048576) (hne : l ≠ []) (h : RdS W w cb ub D v mt) (hL : Lib8 w) (hWB : Below W.heap.size W w) (hcb : W.heap.size ≤ cb) (hub : W.heap.size ≤ ub) (hL0 : Lib8 W) (hok : okC D = true) :
    Calls Tryz.prog 34 #[.pointer (some ⟨cb, 0, none⟩), .map (some ub), .string ⟨l.toArray⟩] w fun e w' => PtG W w cb ub D mt l e w' := by
  rcases cut_point 61 l with ⟨hno, hc⟩ | ⟨a, b, he, ha, hc⟩
  · exact readPart_a W w hWs cb ub D v mt l hl hne h hL hc hno
  · have hsp : splitEq l = some (a, b) := by rw [he]; exact splitEq_at b ha
    have hal : a.length ≤ l.length := by rw [he, List.length_append, List.length_cons]; omega
    have hbl : b.length ≤ l.length := by rw [he, List.length_append, List.length_cons]; omega
    cases hw : wordOf a with
    | none => exact readPart_b W w hWs cb ub D v mt l hl hne h hL a b hc hsp (by omega) hw
    | some k =>
      obtain ⟨hk, rfl⟩ := wordOf_lt hw
      by_cases hm : k ∈ mt
      · exact readPart_c W w hWs cb ub D v mt l hl hne h hL b k hk hc hsp (by omega) hm
      · exact readPart_d W w hWs cb ub D v mt l hl hne h hL hWB hcb hub hL0 hok b k hk hc hsp (by omega) (by omega) hm
end Go.Proofs.YtnnbhgnllbjmeaaGreatDoor
