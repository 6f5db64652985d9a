/-
  The reading of settings, the program's way: a part, and the whole.
  The reading of settings, the program's way: the whole.
-/
import Derived.Test.YtnnbhgnllbjmeaaDoorI8R
import Derived.Test.YtnnbhgnllbjmeaaDoorLawI8
namespace Go.Proofs.YtnnbhgnllbjmeaaDoor
open Go.RowKit

/-- What the reading of a part answers: a fault, or other settings. -/
def PtG (W w : World) (cb ub : Nat) (D : Cfg) (mt : List Nat) (l : List UInt8) (e : Ending) (w' : World) : Prop :=
  ((∃ c : Nat, c ≠ 0 ∧ (∀ t i, goC (l :: t) i mt D = (zeroC, c, i)) ∧ e = .returned (.int .i64 (c : Nat))) ∨ (∃ E u k, (∀ t i, goC (l :: t) i mt D = goC t (i + 1) (k :: mt) E) ∧ e = .returned (.int .i64 0) ∧ RdS W w' cb ub E u (k :: mt) ∧ okC E = true)) ∧ Only cb ub w w'
theorem ret_i8 {a b : Int} (h : a = b) : Ending.returned (.int .i64 a) = .returned (.int .i64 b) := by rw [h]
set_option maxRecDepth 100000 in
theorem readPart_a (W w : World) (_hWs : W.heap.size ≤ w.heap.size) (cb ub : Nat) (D : Cfg) (v : Value) (mt : List Nat) (l : List UInt8) (hl : l.length ≤ 1048576) (hne : l ≠ []) (h : RdS W w cb ub D v mt) (hL : Lib8 w) (hc : Lib.cut l [61] = (l, [], false)) (hno : ∀ x ∈ l, x ≠ 61) :
    Calls Tryd.prog 35 #[.pointer (some ⟨cb, 0, none⟩), .map (some ub), .string ⟨l.toArray⟩] w fun e w' => PtG W w cb ub D mt l e w' := by
  obtain ⟨MM, hM, hU⟩ := h.map
  have hkey := keyLit (s := ⟨l.toArray⟩) (by simp only [ByteArray.size, List.size_toArray]; omega)
  replace hkey : keyOf Tryd.prog 9 (.string ⟨l.toArray⟩) = some (.string l) := hkey
  have HC := Lib.hid (cutG 61 l l [] false hc hl w hL)
  have HS := Lib.hid h
  have HL := Lib.hid hL
  have HM := Lib.hid (And.intro hM hU)
  have HG : Hid (∀ t i, goC (l :: t) i mt D = (zeroC, 10, i)) := Lib.hid (fun t i => goC_line hne (split_none hno))
  obtain ⟨bb, hbb⟩ : ∃ bb, Maps.has MM (.string l) = bb := ⟨_, rfl⟩
  clear h hL hM hU hno hc hne hl
  go_enter Tryd.func35, Tryd.ntmps35
  go_wp2_with fail
  refine HC.out.mono ?_
  rintro e w1 ⟨rfl, hB1⟩
  have hown : MapAt w1 ub 7 MM := HM.out.1.kept (row := none) ⟨hB1.os, hB1.tape, hB1.output, hB1.size, fun k hk _ => hB1.block k hk⟩ (by simp)
  have HO := Lib.hid (Only.of_below (cb := cb) (ub := ub) hB1)
  clear hB1 HC HS HM HL
  go_wp2_with (at_lookup; refine wpList_lookup_own_ok_int _ rfl _ _ 46 rfl 9 3 .i64 keyedS Tryd.underlying46 Tryd.underlying3 (zeroI _) ub 7 MM rfl hown _ _ rfl hkey ?_; intro cc hat hwc)
  clear hat hwc
  clear hown hkey hbb
  go_ret
  exact ⟨Or.inl ⟨10, by decide, HG.out, rfl⟩, HO.out⟩
set_option maxRecDepth 100000 in
theorem readPart_b (W w : World) (_hWs : W.heap.size ≤ w.heap.size) (cb ub : Nat) (D : Cfg) (v : Value) (mt : List Nat) (l : List UInt8) (hl : l.length ≤ 1048576) (hne : l ≠ []) (h : RdS W w cb ub D v mt) (hL : Lib8 w) (a b : List UInt8) (hc : Lib.cut l [61] = (a, b, true)) (hsp : splitEq l = some (a, b)) (hal : a.length ≤ 1048576) (hw : wordOf a = none) :
    Calls Tryd.prog 35 #[.pointer (some ⟨cb, 0, none⟩), .map (some ub), .string ⟨l.toArray⟩] w fun e w' => PtG W w cb ub D mt l e w' := by
  obtain ⟨MM, hM, hU⟩ := h.map
  have hkey := keyLit (s := ⟨a.toArray⟩) (by simp only [ByteArray.size, List.size_toArray]; omega)
  replace hkey : keyOf Tryd.prog 9 (.string ⟨a.toArray⟩) = some (.string a) := hkey
  have HC := Lib.hid (cutG 61 l a b true hc hl w hL)
  have HS := Lib.hid h
  have HL := Lib.hid hL
  have HM := Lib.hid (And.intro hM hU)
  have HG : Hid (∀ t i, goC (l :: t) i mt D = (zeroC, 11, i)) := Lib.hid (fun t i => goC_key hne hsp hw)
  obtain ⟨bb, hbb⟩ : ∃ bb, Maps.has MM (.string a) = bb := ⟨_, rfl⟩
  have HK := Lib.hid (fun w1 => isKeyG ⟨a.toArray⟩ (by simpa [ByteArray.size] using hal) w1)
  have HWd : Hid ((wordOf (ByteArray.mk a.toArray).data.toList).isSome = false) := Lib.hid (by show (wordOf a).isSome = false; rw [hw]; rfl)
  clear h hL hM hU hc hne hl hsp hw hal
  go_enter Tryd.func35, Tryd.ntmps35
  go_wp2_with fail
  refine HC.out.mono ?_
  rintro e w1 ⟨rfl, hB1⟩
  have hown : MapAt w1 ub 7 MM := HM.out.1.kept (row := none) ⟨hB1.os, hB1.tape, hB1.output, hB1.size, fun k hk _ => hB1.block k hk⟩ (by simp)
  have HB1 := Lib.hid hB1
  clear hB1 HC HS HM HL
  go_wp2_with (at_lookup; refine wpList_lookup_own_ok_int _ rfl _ _ 46 rfl 9 3 .i64 keyedS Tryd.underlying46 Tryd.underlying3 (zeroI _) ub 7 MM rfl hown _ _ rfl hkey ?_; intro cc hat hwc)
  clear hat hwc
  clear hown hkey hbb
  refine (HK.out _).mono ?_
  rintro e w2 ⟨rfl, hB2⟩
  rw [HWd.out]
  have HO := Lib.hid (Only.of_below (cb := cb) (ub := ub) (bt HB1.out hB2))
  clear hB2 HB1
  go_wp2_with fail
  go_ret
  exact ⟨Or.inl ⟨11, by decide, HG.out, rfl⟩, HO.out⟩
set_option maxRecDepth 100000 in
theorem readPart_c (W w : World) (_hWs : W.heap.size ≤ w.heap.size) (cb ub : Nat) (D : Cfg) (v : Value) (mt : List Nat) (l : List UInt8) (hl : l.length ≤ 1048576) (hne : l ≠ []) (h : RdS W w cb ub D v mt) (hL : Lib8 w) (b : List UInt8) (k : Nat) (hk : k < 7) (hc : Lib.cut l [61] = (wordL k, b, true)) (hsp : splitEq l = some (wordL k, b)) (hal : (wordL k).length ≤ 1048576) (hmt : k ∈ mt) :
    Calls Tryd.prog 35 #[.pointer (some ⟨cb, 0, none⟩), .map (some ub), .string ⟨l.toArray⟩] w fun e w' => PtG W w cb ub D mt l e w' := by
  obtain ⟨MM, hM, hU⟩ := h.map
  have hkey := keyLit (s := ⟨(wordL k).toArray⟩) (by simp only [ByteArray.size, List.size_toArray]; omega)
  replace hkey : keyOf Tryd.prog 9 (.string ⟨(wordL k).toArray⟩) = some (.string (wordL k)) := hkey
  have HC := Lib.hid (cutG 61 l (wordL k) b true hc hl w hL)
  have HS := Lib.hid h
  have HL := Lib.hid hL
  have HM := Lib.hid (And.intro hM hU)
  have HG : Hid (∀ t i, goC (l :: t) i mt D = (zeroC, 6, i)) := Lib.hid (fun t i => goC_twice hne hsp (wordL_ok k hk).2.1 hmt)
  have hbb : Maps.has MM (.string (wordL k)) = false := by rw [hU k hk]; simp [hmt]
  have HK := Lib.hid (fun w1 => isKeyG ⟨(wordL k).toArray⟩ (by have := (wordL_ok k hk).2.2; simp only [ByteArray.size, List.size_toArray]; omega) w1)
  have HWd : Hid ((wordOf (ByteArray.mk (wordL k).toArray).data.toList).isSome = true) := Lib.hid (by show (wordOf (wordL k)).isSome = true; rw [(wordL_ok k hk).2.1]; rfl)
  obtain ⟨wd, hwd⟩ : ∃ wd, wordL k = wd := ⟨_, rfl⟩
  rw [hwd] at HC hkey hbb HK HWd
  clear h hL hM hU hc hne hl hsp hal hwd hmt hk HS HL
  go_enter Tryd.func35, Tryd.ntmps35
  go_wp2_with fail
  refine HC.out.mono ?_
  rintro e w1 ⟨rfl, hB1⟩
  have hown : MapAt w1 ub 7 MM := HM.out.1.kept (row := none) ⟨hB1.os, hB1.tape, hB1.output, hB1.size, fun k hk _ => hB1.block k hk⟩ (by simp)
  have HB1 := Lib.hid hB1
  clear hB1 HC
  go_wp2_with (at_lookup; refine wpList_lookup_own_ok_int _ rfl _ _ 46 rfl 9 3 .i64 keyedS Tryd.underlying46 Tryd.underlying3 (zeroI _) ub 7 MM rfl hown _ _ rfl hkey ?_; intro cc hat hwc)
  clear hat hwc
  clear hown
  refine (HK.out _).mono ?_
  rintro e w2 ⟨rfl, hB2⟩
  rw [HWd.out]
  have HB2 := Lib.hid (bt HB1.out hB2)
  clear hB2 HB1 HK HWd hbb
  have HO := Lib.hid (Only.of_below (cb := cb) (ub := ub) HB2.out)
  clear hkey HB2 HM
  go_wp2_with fail
  go_ret
  exact ⟨Or.inl ⟨6, by decide, HG.out, rfl⟩, HO.out⟩
set_option maxRecDepth 100000 in
set_option maxHeartbeats 2000000 in
theorem readPart_d (W w : World) (hWs : W.heap.size ≤ w.heap.size) (cb ub : Nat) (D : Cfg) (v : Value) (mt : List Nat) (l : List UInt8) (hl : l.length ≤ 1048576) (hne : l ≠ []) (h : RdS W w cb ub D v mt) (hL : Lib8 w) (hWB : Below W.heap.size W w) (hcb : W.heap.size ≤ cb) (hub : W.heap.size ≤ ub) (hL0 : Lib8 W) (hok : okC D = true) (b : List UInt8) (k : Nat) (hk : k < 7) (hc : Lib.cut l [61] = (wordL k, b, true)) (hsp : splitEq l = some (wordL k, b)) (hal : (wordL k).length ≤ 1048576) (hbl : b.length ≤ 1048576) (hmt : k ∉ mt) :
    Calls Tryd.prog 35 #[.pointer (some ⟨cb, 0, none⟩), .map (some ub), .string ⟨l.toArray⟩] w fun e w' => PtG W w cb ub D mt l e w' := by
  obtain ⟨MM, hM, hU⟩ := h.map
  have hkey := keyLit (s := ⟨(wordL k).toArray⟩) (by simp only [ByteArray.size, List.size_toArray]; omega)
  replace hkey : keyOf Tryd.prog 9 (.string ⟨(wordL k).toArray⟩) = some (.string (wordL k)) := hkey
  have HC := Lib.hid (cutG 61 l (wordL k) b true hc hl w hL)
  have HS := Lib.hid h
  have HL := Lib.hid hL
  have HM := Lib.hid (And.intro hM hU)
  have hbb : Maps.has MM (.string (wordL k)) = true := by rw [hU k hk]; simp [hmt]
  have HLK : Hid (∀ w3, Only cb ub w w3 → Lib8 w3) := Lib.hid (fun w3 ho => hL0.mono (ho.below hWB hcb hub))
  have HGG : Hid (∀ E c, layV D k b = (E, c) → c ≠ 0 → ∀ t i, goC (l :: t) i mt D = (zeroC, c, i)) := Lib.hid (fun E c h1 h2 t i => goC_bad hne hsp (wordL_ok k hk).2.1 hmt h1 h2)
  have HGK : Hid (∀ E, layV D k b = (E, 0) → ∀ t i, goC (l :: t) i mt D = goC t (i + 1) (k :: mt) E) := Lib.hid (fun E h1 t i => goC_good hne hsp (wordL_ok k hk).2.1 hmt h1)
  have HLY : Hid (∀ {E c}, rawV D k b = (c, E) → (c ≠ 0 → (layV D k b).2 = c) ∧ (c = 0 → okC E = true → layV D k b = (E, 0)) ∧ (c = 0 → okC E = false → (layV D k b).2 = 13)) := Lib.hid (fun h => raw_lay hk hok h)
  have HVL : Hid (∀ w3 u, W.heap.size ≤ w3.heap.size → RdS W w3 cb ub D u (k :: mt) → Lib8 w3 → Calls Tryd.prog 57 #[.pointer (some ⟨cb, 0, none⟩), .string ⟨(wordL k).toArray⟩, .string ⟨b.toArray⟩] w3 fun e w' => VlG W w3 cb ub D (k :: mt) k b e w') := Lib.hid (fun w3 u h0 h1 h2 => readValueG k hk W w3 h0 cb ub D u (k :: mt) b hbl h1 h2)
  have HSZ := Lib.hid (show ∀ w3, Only cb ub w w3 → W.heap.size ≤ w3.heap.size from fun w3 ho => Nat.le_trans hWs ho.size)
  have HK := Lib.hid (fun w1 => isKeyG ⟨(wordL k).toArray⟩ (by have := (wordL_ok k hk).2.2; simp only [ByteArray.size, List.size_toArray]; omega) w1)
  have HWd : Hid ((wordOf (ByteArray.mk (wordL k).toArray).data.toList).isSome = true) := Lib.hid (by show (wordOf (wordL k)).isSome = true; rw [(wordL_ok k hk).2.1]; rfl)
  obtain ⟨wd, hwd⟩ : ∃ wd, wordL k = wd := ⟨_, rfl⟩
  rw [hwd] at HC hkey hbb HK HWd HVL
  have HWW := Lib.hid hwd
  have HKK := Lib.hid hk
  clear h hL hM hU hc hne hl hsp hal hwd hmt hk hWs HL hbl hok hWB hcb hub hL0
  go_enter Tryd.func35, Tryd.ntmps35
  go_wp2_with fail
  refine HC.out.mono ?_
  rintro e w1 ⟨rfl, hB1⟩
  have hown : MapAt w1 ub 7 MM := HM.out.1.kept (row := none) ⟨hB1.os, hB1.tape, hB1.output, hB1.size, fun k hk _ => hB1.block k hk⟩ (by simp)
  have HB1 := Lib.hid hB1
  clear hB1 HC
  go_wp2_with (at_lookup; refine wpList_lookup_own_ok_int _ rfl _ _ 46 rfl 9 3 .i64 keyedS Tryd.underlying46 Tryd.underlying3 (zeroI _) ub 7 MM rfl hown _ _ rfl hkey ?_; intro cc hat hwc)
  clear hat hwc
  clear hown
  refine (HK.out _).mono ?_
  rintro e w2 ⟨rfl, hB2⟩
  rw [HWd.out]
  have HB2 := Lib.hid (bt HB1.out hB2)
  clear hB2 HB1 HK HWd hbb
  have hown2 : MapAt w2 ub 7 MM := HM.out.1.kept (row := none) ⟨HB2.out.os, HB2.out.tape, HB2.out.output, HB2.out.size, fun k hk _ => HB2.out.block k hk⟩ (by simp)
  go_wp2_with (at_delete; refine wpList_delete_own _ rfl _ _ 46 9 rfl 3 keyedS Tryd.underlying46 _ ub 7 MM rfl hown2 _ _ rfl hkey ?_; intro w3 hown3 hturn3)
  have H3 := Lib.hid ((HS.out.next HB2.out).strike HM.out.2 HKK.out (by rw [HWW.out]; exact hown3) hturn3.grown)
  have HO3 := Lib.hid ((Only.of_below (cb := cb) (ub := ub) HB2.out).trans (Only.of_grown hturn3.grown))
  have HL3 := Lib.hid (HLK.out w3 HO3.out)
  clear hown2 hown3 hturn3 HB2 HM HS hkey
  refine (HVL.out w3 _ (HSZ.out w3 HO3.out) H3.out HL3.out).mono ?_
  rintro e w4 ⟨c, E, u, hraw, rfl, hR4, hO4⟩
  have hly := HLY.out hraw
  have HO4 := Lib.hid (HO3.out.trans hO4)
  clear hO4 HO3 H3 HL3 HLY HVL hraw
  by_cases hc : c = 0
  · subst hc
    obtain ⟨ua, uc, rfl⟩ := ownsI_form hR4.own
    have hr4 := intRow_of_owns hR4.own (owns_max hR4.own)
    have HOK := Lib.hid (okG E _ w4 hr4)
    have HR4 := Lib.hid hR4
    have HLY := Lib.hid hly
    clear hr4 hly hR4
    have hbx : w4.heap[cb]? = some (.cells #[.int .i64 E.r, .int .i64 E.d, .int .i64 E.b, .int .i64 E.l, .int .i64 E.m, .int .i64 E.n, .int .i64 E.e, .slice ua E.s.length uc] 27 (0, 0)) := HR4.out.box
    have ca0 := cell_blk hbx 0
    have ca1 := cell_blk hbx 1
    have ca2 := cell_blk hbx 2
    have ca3 := cell_blk hbx 3
    have ca4 := cell_blk hbx 4
    have ca5 := cell_blk hbx 5
    have ca6 := cell_blk hbx 6
    have ca7 := cell_blk hbx 7
    clear hbx
    have la := blk_lt HR4.out.box
    cases hoE : okC E with
    | true =>
      rw [hoE] at HOK
      have HE := Lib.hid (HLY.out.2.1 rfl hoE)
      have HoE := Lib.hid hoE
      clear hoE HLY
      go_wp2_with fail
      refine HOK.out.mono ?_
      rintro e w5 ⟨rfl, hB5⟩
      have H5 := Lib.hid (HR4.out.next hB5)
      have HO5 := Lib.hid (HO4.out.trans (Only.of_below hB5))
      clear hB5
      go_wp2_with fail
      go_ret
      exact ⟨Or.inr ⟨E, _, k, HGK.out E HE.out, rfl, H5.out, HoE.out⟩, HO5.out⟩
    | false =>
      rw [hoE] at HOK
      have HE := Lib.hid (HLY.out.2.2 rfl hoE)
      clear hoE HLY
      go_wp2_with fail
      refine HOK.out.mono ?_
      rintro e w5 ⟨rfl, hB5⟩
      have HO5 := Lib.hid (HO4.out.trans (Only.of_below hB5))
      clear hB5
      go_wp2_with fail
      go_ret
      exact ⟨Or.inl ⟨13, by decide, HGG.out (layV D k b).1 13 (Prod.ext rfl HE.out) (by decide), rfl⟩, HO5.out⟩
  · have hci : ¬ (c : Int) = 0 := by omega
    have HE := Lib.hid (hly.1 hc)
    have HC2 := Lib.hid hc
    clear hly hc hR4
    go_wp2_with fail
    go_ret
    exact ⟨Or.inl ⟨c, HC2.out, HGG.out (layV D k b).1 c (Prod.ext rfl HE.out) HC2.out, rfl⟩, HO4.out⟩
theorem readPartG (W w : World) (hWs : W.heap.size ≤ w.heap.size) (cb ub : Nat) (D : Cfg) (v : Value) (mt : List Nat) (l : List UInt8) (hl : l.length ≤ 1048576) (hne : l ≠ []) (h : RdS W w cb ub D v mt) (hL : Lib8 w) (hWB : Below W.heap.size W w) (hcb : W.heap.size ≤ cb) (hub : W.heap.size ≤ ub) (hL0 : Lib8 W) (hok : okC D = true) :
    Calls Tryd.prog 35 #[.pointer (some ⟨cb, 0, none⟩), .map (some ub), .string ⟨l.toArray⟩] w fun e w' => PtG W w cb ub D mt l e w' := by
  rcases cut_point 61 l with ⟨hno, hc⟩ | ⟨a, b, he, ha, hc⟩
  · exact readPart_a W w hWs cb ub D v mt l hl hne h hL hc hno
  · have hsp : splitEq l = some (a, b) := by rw [he]; exact splitEq_at b ha
    have hal : a.length ≤ l.length := by rw [he, List.length_append, List.length_cons]; omega
    have hbl : b.length ≤ l.length := by rw [he, List.length_append, List.length_cons]; omega
    cases hw : wordOf a with
    | none => exact readPart_b W w hWs cb ub D v mt l hl hne h hL a b hc hsp (by omega) hw
    | some k =>
      obtain ⟨hk, rfl⟩ := wordOf_lt hw
      by_cases hm : k ∈ mt
      · exact readPart_c W w hWs cb ub D v mt l hl hne h hL b k hk hc hsp (by omega) hm
      · exact readPart_d W w hWs cb ub D v mt l hl hne h hL hWB hcb hub hL0 hok b k hk hc hsp (by omega) (by omega) hm
end Go.Proofs.YtnnbhgnllbjmeaaDoor

namespace Go.Proofs.YtnnbhgnllbjmeaaDoor
open Go.RowKit

set_option maxRecDepth 100000 in
theorem usual8 (w : World) : Calls Tryd.prog 33 #[] w fun e w' => e = .returned (.agg #[.int .i64 4, .int .i64 2, .int .i64 4, .int .i64 1, .int .i64 1, .int .i64 1, .int .i64 1, .slice none 0 0]) ∧ Below w.heap.size w w' := by
  go_enter Tryd.func33, Tryd.ntmps33
  go_wp2_with fail
  refine bodyPost_ret (v := .agg #[.int .i64 4, .int .i64 2, .int .i64 4, .int .i64 1, .int .i64 1, .int .i64 1, .int .i64 1, .slice none 0 0]) ?_ rfl ⟨rfl, ?_⟩
  · rw [results_one rfl]
    go_simp
  · exact below_al w _
/-- What the program's reading of settings answers. -/
def RgG (B : Nat) (l : List UInt8) (e : Ending) (w' : World) : Prop := ∃ D c i, readC l = (D, c, i) ∧ RcOwn D c i B e w'
theorem rgG_bad {B : Nat} {l : List UInt8} {e : Ending} {w' : World} {c i : Nat} (h : readC l = (zeroC, c, i)) (he : e = .returned (.tuple #[.agg #[.int .i64 0, .int .i64 0, .int .i64 0, .int .i64 0, .int .i64 0, .int .i64 0, .int .i64 0, .slice none 0 0], .agg #[.int .i64 (c : Nat), .int .i64 (i : Nat), .int .i64 0]])) : RgG B l e w' :=
  ⟨zeroC, c, i, h, _, he, rfl, Or.inl ⟨rfl, rfl⟩⟩
/-- What the loop keeps. -/
structure LpS (W wr : World) (cb ub gg cap : Nat) (ps : List (List UInt8)) (D : Cfg) (v : Value) (mt : List Nat) : Prop where
  res : wr.heap[W.heap.size]? = some (.cells #[.int .i64 0, .int .i64 0, .int .i64 0, .int .i64 0, .int .i64 0, .int .i64 0, .int .i64 0, .slice none 0 0] 27 (0, 0))
  flt : wr.heap[W.heap.size + 1]? = some (.cells #[.int .i64 0, .int .i64 0, .int .i64 0] 32 (0, 0))
  rd : RdS W wr cb ub D v mt
  lns : wr.ownsRow W.heap.size 9 1 (.slice (some ⟨gg, 0, none⟩) ps.length cap) ps.length (strCells ps)
  bel : Below W.heap.size W wr
  lc : W.heap.size + 1 < cb
  lu : W.heap.size + 1 < ub
theorem LpS.only {W wr w' : World} {cb ub gg cap : Nat} {ps : List (List UInt8)} {D E : Cfg} {v u : Value} {mt nt : List Nat} (h : LpS W wr cb ub gg cap ps D v mt) (hO : Only cb ub wr w') (hR : RdS W w' cb ub E u nt) : LpS W w' cb ub gg cap ps E u nt := by
  obtain ⟨M, hM, _⟩ := h.rd.map
  have h1 := h.lc
  have h2 := h.lu
  exact ⟨(hO.block _ (blk_lt h.res) (by omega) (by omega)).trans h.res, (hO.block _ (blk_lt h.flt) (by omega) (by omega)).trans h.flt, hR, hO.owns h.lns (owns_ne_blk h.lns h.rd.box (by decide)) (owns_ne_map h.lns hM), hO.below h.bel (by omega) (by omega), h1, h2⟩
theorem LpS.line {W w : World} {cb ub gg cap j : Nat} {ps : List (List UInt8)} {D : Cfg} {v : Value} {mt : List Nat} {p : List UInt8} (h : LpS W w cb ub gg cap ps D v mt) (hl : ps[j]? = some p) : w.cell? ⟨gg, j, none⟩ = some (.string ⟨p.toArray⟩) := by
  have hil := (List.getElem?_eq_some_iff.1 hl).1
  have k := h.lns.cellAt j (by omega)
  simpa [strCells, hl] using k
set_option maxRecDepth 100000 in
set_option maxHeartbeats 2000000 in
theorem readG_long (l : List UInt8) (hs : 4000 < l.length) (w : World) :
    Calls Tryd.prog 11 #[.string ⟨l.toArray⟩] w fun e w' => RgG w.heap.size l e w' ∧ Below w.heap.size w w' := by
  have hq : (4000 : Int) < l.length := by omega
  have HR : Hid (readC l = (zeroC, 1, 0)) := Lib.hid (by rw [readC, if_pos hs])
  go_enter Tryd.func11, Tryd.ntmps11
  go_wp2_with fail
  refine bodyPost_ret (v := .tuple #[.agg #[.int .i64 0, .int .i64 0, .int .i64 0, .int .i64 0, .int .i64 0, .int .i64 0, .int .i64 0, .slice none 0 0], .agg #[.int .i64 1, .int .i64 0, .int .i64 0]]) ?_ rfl ⟨rgG_bad HR.out rfl, ?_⟩
  · rw [results_two rfl]
    go_simp
  · repeat' (first | with_reducible exact bt (below_al w _) (below_al _ _) | refine Below.setCell ?_ (by simp <;> omega) _)
set_option maxRecDepth 100000 in
set_option maxHeartbeats 8000000 in
theorem readG_short (l : List UInt8) (hs : l.length ≤ 4000) (w : World) (hL : Lib8 w) :
    Calls Tryd.prog 11 #[.string ⟨l.toArray⟩] w fun e w' => RgG w.heap.size l e w' ∧ Below w.heap.size w w' := by
  have hq : ¬ (4000 : Int) < l.length := by omega
  have HL := Lib.hid hL
  clear hL
  go_enter Tryd.func11, Tryd.ntmps11
  go_wp2_with fail
  refine (usual8 _).mono ?_
  rintro e w1 ⟨rfl, hB1⟩
  have xR := Lib.hid (blk_next (blk_alloc (alloc_blk w #[.int .i64 0, .int .i64 0, .int .i64 0, .int .i64 0, .int .i64 0, .int .i64 0, .int .i64 0, .slice none 0 0] 27) (.cells #[.int .i64 0, .int .i64 0, .int .i64 0] 32)) hB1)
  have xF := blk_next (alloc_blk (w.alloc (.cells #[.int .i64 0, .int .i64 0, .int .i64 0, .int .i64 0, .int .i64 0, .int .i64 0, .int .i64 0, .slice none 0 0] 27)) #[.int .i64 0, .int .i64 0, .int .i64 0] 32) hB1
  simp only [size_alloc] at xF
  have XF := Lib.hid xF
  have HB01 := Lib.hid (bt (bt (below_al w (.cells #[.int .i64 0, .int .i64 0, .int .i64 0, .int .i64 0, .int .i64 0, .int .i64 0, .int .i64 0, .slice none 0 0] 27)) (below_al _ (.cells #[.int .i64 0, .int .i64 0, .int .i64 0] 32))) hB1)
  have hge : w.heap.size + 1 < w1.heap.size := by have := hB1.size; simp at this; exact this
  clear xF hB1
  go_wp2_with fail
  refine (keyPlacesG w1).mono ?_
  rintro e w2 ⟨rfl, hK⟩
  have HK := Lib.hid hK
  have hge2 : w1.heap.size ≤ w2.heap.size := hK.2.size
  clear hK
  go_wp2_with fail
  have hL2 := HL.out.mono (bt (bt HB01.out HK.out.2) (below_al w2 (.cells #[.int .i64 4, .int .i64 2, .int .i64 4, .int .i64 1, .int .i64 1, .int .i64 1, .int .i64 1, .slice none 0 0] 27)))
  refine (partsG l 10 _ (by omega) hL2).mono ?_
  rintro e w4 ⟨vl, rfl, hl, hB4⟩
  obtain ⟨ps, hps⟩ : ∃ ps, partsL 10 l = ps := ⟨_, rfl⟩
  have hpp := parts_pos (c := 10) l
  have hpn : ps.length ≤ 4001 := by have h := parts_len (c := 10) l; rw [hps] at h; omega
  rw [hps] at hl hpp
  obtain ⟨gg, cap, rfl⟩ := Joins.ownsRow_form hl hpp
  have hB24 := bt (below_al w2 (.cells #[.int .i64 4, .int .i64 2, .int .i64 4, .int .i64 1, .int .i64 1, .int .i64 1, .int .i64 1, .slice none 0 0] 27)) hB4
  have HSt : Hid (LpS w w4 w2.heap.size w1.heap.size gg cap ps usualC (.slice none 0 0) []) := Lib.hid
    ⟨blk_next (blk_next xR.out HK.out.2) hB24, blk_next (blk_next XF.out HK.out.2) hB24,
     ⟨blk_next (alloc_blk w2 #[.int .i64 4, .int .i64 2, .int .i64 4, .int .i64 1, .int .i64 1, .int .i64 1, .int .i64 1, .slice none 0 0] 27) hB4, ⟨rfl, Or.inl ⟨rfl, rfl⟩⟩, keyD, HK.out.1.kept (row := none) ⟨hB24.os, hB24.tape, hB24.output, hB24.size, fun k hk _ => hB24.block k hk⟩ (by simp), unmet_start⟩,
     World.ownsRow.mono hl (by have := HB01.out.size; have := HK.out.2.size; simp only [size_alloc]; omega), bt (bt HB01.out HK.out.2) hB24, by omega, by omega⟩
  have HR : Hid (readC l = goC ps 0 [] usualC) := Lib.hid (by rw [readC, if_neg (by omega), hps])
  have HPL := Lib.hid (show ∀ (j : Nat) p, ps[j]? = some p → p.length ≤ l.length from fun j p hp => parts_mem (c := 10) (by rw [hps]; exact List.mem_of_getElem? hp))
  clear hl hB4 hB24 hL2 hps xR XF HB01 HK
  obtain ⟨cb, hcb⟩ : ∃ cb, w2.heap.size = cb := ⟨_, rfl⟩
  obtain ⟨ub, hub⟩ : ∃ ub, w1.heap.size = ub := ⟨_, rfl⟩
  rw [hcb, hub] at HSt ⊢
  clear hcb hub hge hge2
  go_wp2_with fail
  go_loopw [19] (fun i wr => ∃ (j : Nat) (D : Cfg) (v : Value) (mt : List Nat), i = .int .i64 j ∧ j ≤ ps.length ∧ goC (ps.drop j) j mt D = goC ps 0 [] usualC ∧ okC D = true ∧ LpS w wr cb ub gg cap ps D v mt) (fun i _ => ps.length - (intOf i).toNat)
  case atStart => exact ⟨0, usualC, _, [], rfl, Nat.zero_le _, rfl, okC_usual, HSt.out⟩
  case round =>
    clear HSt
    obtain ⟨j, D, v, mt, rfl, hj, hg, hok, hS⟩ := hrel
    have HG := Lib.hid hg
    have HOK := Lib.hid hok
    have HS := Lib.hid hS
    clear hg hok hS
    by_cases hlt : j < ps.length
    · have hj1 : (j : Int) < ps.length := by omega
      have hj0 : (0 : Int) ≤ j := by omega
      obtain ⟨p, hp⟩ : ∃ p, ps[j]? = some p := ⟨_, List.getElem?_eq_getElem hlt⟩
      have hcj := HS.out.line hp
      have hlj := World.block_lt_of_cell? wr _ hcj
      have HDP : Hid (ps.drop j = p :: ps.drop (j + 1)) := Lib.hid (by rw [List.drop_eq_getElem_cons hlt]; congr 1; exact (List.getElem?_eq_some_iff.1 hp).2)
      have HP := Lib.hid (HPL.out j p hp)
      clear hp
      by_cases hne : p = []
      · subst hne
        have HE : Hid (goC (ps.drop (j + 1)) (j + 1) mt D = goC ps 0 [] usualC) := Lib.hid (by have h := HG.out; rw [HDP.out, goC_empty rfl] at h; exact h)
        clear HG
        go_wp2_with fail
        refine ⟨⟨j + 1, D, v, mt, by go_num, by omega, HE.out, HOK.out, HS.out⟩, ?_⟩
        simp [intOf]
        omega
      · have n0 : (p == []) = false := beq_eq_false_iff_ne.2 hne
        have n1 : p.isEmpty = false := by simpa using hne
        have HPT := Lib.hid (readPartG w wr HS.out.bel.size cb ub D v mt p (by have := HP.out; omega) hne HS.out.rd (HL.out.mono HS.out.bel) HS.out.bel (by have := HS.out.lc; omega) (by have := HS.out.lu; omega) HL.out HOK.out)
        go_wp2_with fail
        refine HPT.out.mono ?_
        rintro e w5 ⟨hpt, hO5⟩
        have HO5 := Lib.hid hO5
        clear hO5 HPT hcj hlj
        rcases hpt with ⟨c, hc, hgo, rfl⟩ | ⟨E, u, k, hgo, rfl, hR5, hoE⟩
        · have hci : ¬ (c : Int) = 0 := by omega
          have HBD : Hid (readC l = (zeroC, c, j)) := Lib.hid (by have h := HG.out; rw [HDP.out, hgo] at h; rw [HR.out]; exact h.symm)
          have X0 := (HO5.out.block _ (blk_lt HS.out.res) (by have := HS.out.lc; omega) (by have := HS.out.lu; omega)).trans HS.out.res
          have X1 := (HO5.out.block _ (blk_lt HS.out.flt) (by have := HS.out.lc; omega) (by have := HS.out.lu; omega)).trans HS.out.flt
          have HB5 := Lib.hid (HO5.out.below HS.out.bel (by have := HS.out.lc; omega) (by have := HS.out.lu; omega))
          clear hgo hc HO5 HS HG
          have cr0 := cell_blk X0 0
          have fcr0 := free_blk X0 0
          have cr1 := cell_blk X0 1
          have fcr1 := free_blk X0 1
          have cr2 := cell_blk X0 2
          have fcr2 := free_blk X0 2
          have cr3 := cell_blk X0 3
          have fcr3 := free_blk X0 3
          have cr4 := cell_blk X0 4
          have fcr4 := free_blk X0 4
          have cr5 := cell_blk X0 5
          have fcr5 := free_blk X0 5
          have cr6 := cell_blk X0 6
          have fcr6 := free_blk X0 6
          have cr7 := cell_blk X0 7
          have fcr7 := free_blk X0 7
          have cf0 := cell_blk X1 0
          have fcf0 := free_blk X1 0
          have cf1 := cell_blk X1 1
          have fcf1 := free_blk X1 1
          have cf2 := cell_blk X1 2
          have fcf2 := free_blk X1 2
          have lr := blk_lt X0
          have lf := blk_lt X1
          go_wp2_with fail
          (try simp only [Exit.inBlock, Exit.then])
          refine bodyPost_ret (v := .tuple #[.agg #[.int .i64 0, .int .i64 0, .int .i64 0, .int .i64 0, .int .i64 0, .int .i64 0, .int .i64 0, .slice none 0 0], .agg #[.int .i64 (c : Nat), .int .i64 j, .int .i64 0]]) ?_ rfl ⟨rgG_bad HBD.out rfl, ?_⟩
          · rw [results_two rfl]
            go_simp
          · iterate 11 refine Below.setCell ?_ (by simp <;> omega) _
            exact HB5.out
        · have HE : Hid (goC (ps.drop (j + 1)) (j + 1) (k :: mt) E = goC ps 0 [] usualC) := Lib.hid (by have h := HG.out; rw [HDP.out, hgo] at h; exact h)
          have HS5 := Lib.hid (HS.out.only HO5.out hR5)
          have HoE := Lib.hid hoE
          clear hgo hR5 hoE HO5 HS HG
          go_wp2_with fail
          go_roundw
          case rel => exact ⟨j + 1, E, u, _, by go_num, by omega, HE.out, HoE.out, HS5.out⟩
          case measure => simp [intOf]; omega
    · have hje : j = ps.length := by omega
      have hj1 : ¬ (j : Int) < ps.length := by omega
      have HE : Hid (readC l = (D, 0, 0)) := Lib.hid (by
        rw [HR.out, ← HG.out, hje, List.drop_length, goC])
      clear hje
      obtain ⟨va, vc, rfl⟩ := ownsI_form HS.out.rd.own
      have X0 := HS.out.res
      have X1 := HS.out.flt
      have cr0 := cell_blk X0 0
      have fcr0 := free_blk X0 0
      have cr1 := cell_blk X0 1
      have fcr1 := free_blk X0 1
      have cr2 := cell_blk X0 2
      have fcr2 := free_blk X0 2
      have cr3 := cell_blk X0 3
      have fcr3 := free_blk X0 3
      have cr4 := cell_blk X0 4
      have fcr4 := free_blk X0 4
      have cr5 := cell_blk X0 5
      have fcr5 := free_blk X0 5
      have cr6 := cell_blk X0 6
      have fcr6 := free_blk X0 6
      have cr7 := cell_blk X0 7
      have fcr7 := free_blk X0 7
      have cf0 := cell_blk X1 0
      have fcf0 := free_blk X1 0
      have cf1 := cell_blk X1 1
      have fcf1 := free_blk X1 1
      have cf2 := cell_blk X1 2
      have fcf2 := free_blk X1 2
      have lr := blk_lt X0
      have lf := blk_lt X1
      have hbx : wr.heap[cb]? = some (.cells #[.int .i64 D.r, .int .i64 D.d, .int .i64 D.b, .int .i64 D.l, .int .i64 D.m, .int .i64 D.n, .int .i64 D.e, .slice va D.s.length vc] 27 (0, 0)) := HS.out.rd.box
      have cb0 := cell_blk hbx 0
      have cb1 := cell_blk hbx 1
      have cb2 := cell_blk hbx 2
      have cb3 := cell_blk hbx 3
      have cb4 := cell_blk hbx 4
      have cb5 := cell_blk hbx 5
      have cb6 := cell_blk hbx 6
      have cb7 := cell_blk hbx 7
      have lb := blk_lt hbx
      clear hbx
      go_wp2_with fail
      refine bodyPost_ret (v := .tuple #[.agg #[.int .i64 D.r, .int .i64 D.d, .int .i64 D.b, .int .i64 D.l, .int .i64 D.m, .int .i64 D.n, .int .i64 D.e, .slice va D.s.length vc], .agg #[.int .i64 0, .int .i64 0, .int .i64 0]]) ?_ rfl ⟨⟨D, 0, 0, HE.out, _, rfl, ?_⟩, ?_⟩
      · rw [results_two rfl]
        go_simp
      · iterate 3 refine ownsRow_setCell_other ?_ (owns_ne_blk HS.out.rd.own HS.out.flt (by decide)) _
        iterate 8 refine ownsRow_setCell_other ?_ (owns_ne_blk HS.out.rd.own HS.out.res (by decide)) _
        exact HS.out.rd.own
      · iterate 11 refine Below.setCell ?_ (by simp <;> omega) _
        exact HS.out.bel
theorem implRead8 (W : World) (hL : Lib8 W) : ImplRead8 W := by
  intro wz hB s D c i hs hr
  have he : s = ⟨s.data.toList.toArray⟩ := by simp
  have key : Calls Tryd.prog 11 #[.string ⟨s.data.toList.toArray⟩] wz fun e w' => RgG wz.heap.size s.data.toList e w' ∧ Below wz.heap.size wz w' := by
    by_cases h : 4000 < s.data.toList.length
    · exact readG_long _ h wz
    · exact readG_short _ (by omega) wz (hL.mono hB)
  rw [he]
  refine key.mono fun e w' ⟨⟨D2, c2, i2, hr2, ho⟩, hB2⟩ => ⟨?_, hB2⟩
  rw [hr] at hr2
  simp only [Prod.mk.injEq] at hr2
  obtain ⟨rfl, rfl, rfl⟩ := hr2
  exact ho
end Go.Proofs.YtnnbhgnllbjmeaaDoor

