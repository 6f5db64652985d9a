/-
  Decimals: how the program reads them.
-/
import Derived.Test.YticeagjonfifbaaGreatDoorPk13
import Derived.WalkMore
import Derived.ScopeJumps
namespace Go.Proofs.YticeagjonfifbaaGreatDoor
open Go.RowKit

theorem dV_at (ds : ByteArray) (k : Nat) (h : k < ds.size) : dV (ds.data.toList.getD k 0) = (ds[k].toNat : Int) - 48 := by rw [getD_atN h]; rfl
theorem libCutPrefix (s : ByteArray) (u : List UInt8) (g : Bool) (h : Lib.trimPrefix s.data.toList [45] = u) (k : Lib.hasPrefix s.data.toList [45] = g) (w : World) :
    Calls Tryz.prog 129 #[.string s, .string ⟨#[45]⟩] w fun e w' => e = .returned (.tuple #[.string ⟨u.toArray⟩, .bool g]) ∧ w = w' :=
  (Tryz.strings_CutPrefix s ⟨#[45]⟩ w).mono fun e w' ⟨he, hw⟩ => ⟨by rw [he, ← h, ← k], hw.symm⟩
theorem libCut (u a b : List UInt8) (p : Bool) (h : Lib.cut u [46] = (a, b, p)) (hs : u.length < 4294967281) (w : World) (hm : ∃ m, w.cell? ⟨4, 0, none⟩ = some (.int .i64 m)) :
    Calls Tryz.prog 130 #[.string ⟨u.toArray⟩, .string ⟨#[46]⟩] w fun e w' => e = .returned (.tuple #[.string ⟨a.toArray⟩, .string ⟨b.toArray⟩, .bool p]) ∧ Below w.heap.size w w' := by
  obtain ⟨m, hm⟩ := hm
  refine (Tryz.strings_Cut ⟨u.toArray⟩ ⟨#[46]⟩ m w (by simpa [ByteArray.size] using hs) hm).mono fun e w' ⟨he, n, hw⟩ => ⟨?_, ?_⟩
  · have h2 : Lib.cut (ByteArray.mk u.toArray).data.toList (ByteArray.mk #[46]).data.toList = (a, b, p) := h
    rw [he, h2]
  · rw [hw]; exact below_drewN (Below.refl _ _) n
theorem implNumberL (a : List UInt8) (ha : a.length ≤ 1048576) (w : World) (h : Lib6 w) :
    Calls Tryz.prog 131 #[.string ⟨a.toArray⟩] w fun e w' => e = numE a ∧ Below w.heap.size w w' :=
  implNumberE ⟨a.toArray⟩ (by simpa [ByteArray.size] using ha) w h
set_option maxRecDepth 100000 in
set_option maxHeartbeats 1000000 in
theorem implPlaces_big (ds : ByteArray) (h : 3 < ds.size) (w : World) :
    Calls Tryz.prog 132 #[.string ds] w fun e w' => e = .returned (.tuple #[.int .i64 0, .bool false]) ∧ w = w' := by
  have hq : decide ((3 : Int) < ds.size) = true := by rw [decide_eq_true_eq]; omega
  have hnl : ds.data.toList ≠ [] := by intro e; have := Lib.size_eq ds; rw [e, List.length_nil] at this; omega
  have he1 : ¬ ds.toList = [] := by rw [Lib.toList_data]; exact hnl
  have he2 : ds.toList.isEmpty = false := by rw [Lib.toList_data]; simpa using hnl
  clear hnl
  go_enter Tryz.func132, Tryz.ntmps132
  go_wp2_with fail
  go_step3
  go_wp2
  (try rw [Exit.noGoto_ret])
  go_ret2
  exact ⟨rfl, rfl⟩
set_option maxRecDepth 100000 in
set_option maxHeartbeats 1000000 in
theorem implPlaces_ok (ds : ByteArray) (h0 : 1 ≤ ds.size) (h1 : ds.size ≤ 3) (w : World) :
    Calls Tryz.prog 132 #[.string ds] w fun e w' => e = plE ds.data.toList ∧ w = w' := by
  have hln : ds.data.toList.length = ds.size := (Lib.size_eq ds).symm
  have hq : decide ((3 : Int) < ds.size) = false := by rw [decide_eq_false_iff_not]; omega
  have hnl : ds.data.toList ≠ [] := by intro e; have := Lib.size_eq ds; rw [e, List.length_nil] at this; omega
  have he1 : ¬ ds.toList = [] := by rw [Lib.toList_data]; exact hnl
  have he2 : ds.toList.isEmpty = false := by rw [Lib.toList_data]; simpa using hnl
  clear hnl
  go_enter Tryz.func132, Tryz.ntmps132
  go_wp2_with fail
  refine wp_scope_jumps 1 (fun a' w' => fracV ds.data.toList = none ∧ w = w' ∧ ∃ u0 u1 u2 u3 u4 u5 u6 u7 u8 u9 u10 u11 u12 u13 u14 u15 u16 u17 u18 u19 u20 u21 u22 u23 u24 u25 u26 u27 u28 u29 u30 u31 u32 u33 u34 u35 u36 u37 u38 u39 u40 u41 u42 : Value, a' = { tmps := #[u0, u1, u2, u3, u4, u5, u6, u7, u8, u9, u10, u11, u12, u13, u14, u15, u16, u17, u18, u19, u20, u21, u22, u23, u24, u25, u26, u27, u28, u29, u30, u31, u32, u33, u34, u35, u36, u37, u38, u39, u40, u41, u42], defers := [] }) (fun _ _ => 0) rfl ?_ ?_
  · go_wp2
    go_step3
    go_wp2
    go_loop [4, 13] (fun n i => ∃ (k : Nat) (a : Int), k ≤ 3 ∧ i = .int .i64 k ∧ n = .int .i64 a ∧ Hid (a = pA ds.data.toList k ∧ ∀ j, j < k → j < ds.data.toList.length → dgB (ds.data.toList.getD j 0) = true)) (fun _ i => 3 - (intOf i).toNat)
    case atStart => exact ⟨0, 0, by omega, rfl, rfl, Lib.hid ⟨rfl, fun j hj => by omega⟩⟩
    case round =>
      obtain ⟨k, a, hk, rfl, rfl, H⟩ := hrel
      have hb := pA_le H.out.2 hk
      rw [← H.out.1] at hb
      by_cases hlt : k < 3
      · by_cases hin : k < ds.size
        · have hkl : k < ds.data.toList.length := by omega
          have hgd : ds.data.toList.getD k 0 = ds[k] := getD_atN hin
          have hv := dV_at ds k hin
          have hc : 0 ≤ (ds[k].toNat : Int) ∧ (ds[k].toNat : Int) < 256 := by have := ds[k].toNat_lt; omega
          by_cases c0 : (ds[k].toNat : Int) < 48
          · have HF := Lib.hid (pl_bad hkl (by rw [hgd]; unfold dgB dV; simp; omega))
            clear hgd hv hln
            go_wp2
            go_step3; (try simp only [Exit.inBlock, Exit.then]); exact ⟨rfl, HF.out, rfl, _, _, _, _, _, _, _, _, _, _, _, _, _, _, _, _, _, _, _, _, _, _, _, _, _, _, _, _, _, _, _, _, _, _, _, _, _, _, _, _, _, _, _, rfl⟩
          · by_cases c1 : (57 : Int) < (ds[k].toNat : Int)
            · have HF := Lib.hid (pl_bad hkl (by rw [hgd]; unfold dgB dV; simp; omega))
              clear hgd hv hln
              go_wp2
              go_step3; (try simp only [Exit.inBlock, Exit.then]); exact ⟨rfl, HF.out, rfl, _, _, _, _, _, _, _, _, _, _, _, _, _, _, _, _, _, _, _, _, _, _, _, _, _, _, _, _, _, _, _, _, _, _, _, _, _, _, _, _, _, _, _, rfl⟩
            · have HN : Hid (a * 10 + ((ds[k].toNat : Int) - 48) = pA ds.data.toList (k + 1) ∧ ∀ j, j < k + 1 → j < ds.data.toList.length → dgB (ds.data.toList.getD j 0) = true) := by
                refine Lib.hid ⟨?_, ?_⟩
                · rw [pA, if_pos hkl, hgd, ← H.out.1]; rfl
                · intro j hj hjl
                  by_cases e : j = k
                  · subst e; rw [hgd]; unfold dgB dV; simp; omega
                  · exact H.out.2 j (by omega) hjl
              clear hgd hv hln H
              go_wp2
              go_round
              case rel => exact ⟨k + 1, _, by omega, by go_num, rfl, HN⟩
              case measure => (simp [intOf]; omega)
        · have HN : Hid (a * 10 = pA ds.data.toList (k + 1) ∧ ∀ j, j < k + 1 → j < ds.data.toList.length → dgB (ds.data.toList.getD j 0) = true) := by
            refine Lib.hid ⟨?_, ?_⟩
            · rw [pA, if_neg (by omega), ← H.out.1, Int.add_zero]
            · intro j hj hjl
              exact H.out.2 j (by omega) hjl
          clear H hln
          go_wp2
          go_round
          case rel => exact ⟨k + 1, _, by omega, by go_num, rfl, HN⟩
          case measure => (simp [intOf]; omega)
      · obtain rfl : k = 3 := by omega
        have HE := Lib.hid (plE_some (pl_all (by omega) (by omega) H.out.2))
        go_wp2
        (try simp only [Exit.jump]); go_ret2; exact ⟨by rw [HE.out, ← H.out.1]; rfl, rfl⟩
  · rintro a' w' ⟨hf, rfl, u0, u1, u2, u3, u4, u5, u6, u7, u8, u9, u10, u11, u12, u13, u14, u15, u16, u17, u18, u19, u20, u21, u22, u23, u24, u25, u26, u27, u28, u29, u30, u31, u32, u33, u34, u35, u36, u37, u38, u39, u40, u41, u42, rfl⟩
    have HF := Lib.hid (plE_none hf)
    clear hf
    go_wp2
    (try simp only [Exit.jump])
    go_ret2
    exact ⟨HF.out.symm, rfl⟩
theorem implPlacesL (b : List UInt8) (w : World) :
    Calls Tryz.prog 132 #[.string ⟨b.toArray⟩] w fun e w' => e = plE b ∧ w = w' := by
  have hln : (ByteArray.mk b.toArray).size = b.length := by simp [ByteArray.size]
  by_cases h3 : 3 < b.length
  · refine (implPlaces_big ⟨b.toArray⟩ (by omega) w).mono fun e w' ⟨he, hw⟩ => ⟨?_, hw⟩
    rw [he, plE_none]
    unfold fracV
    rw [if_neg (by omega)]
  · by_cases h0 : 1 ≤ b.length
    · exact implPlaces_ok ⟨b.toArray⟩ (by omega) (by omega) w
    · obtain rfl : b = [] := List.eq_nil_of_length_eq_zero (by omega)
      rw [plE_none (by decide)]
      go_enter Tryz.func132, Tryz.ntmps132
      go_wp2
      go_step3
      go_wp2
      (try rw [Exit.noGoto_ret])
      go_ret2
      exact ⟨rfl, rfl⟩
set_option maxRecDepth 100000 in
set_option maxHeartbeats 1000000 in
theorem implRead_pt_nn (s : ByteArray) (u a b : List UInt8) (g : Bool) (HC : Hid (Lib.trimPrefix s.data.toList [45] = u)) (HH : Hid (Lib.hasPrefix s.data.toList [45] = g)) (HK : Hid (Lib.cut u [46] = (a, b, true))) (lu : u.length < 4294967281) (la : a.length ≤ 1048576) (HN : Hid (numE a = .returned (.tuple #[.int .i64 0, .bool false]))) (HP : Hid (plE b = .returned (.tuple #[.int .i64 0, .bool false]))) (w : World) (hL : Lib6 w) :
    Calls Tryz.prog 114 #[.string s] w fun e w' => e = .returned (.tuple #[.int .i64 0, .bool false]) ∧ Below w.heap.size w w' := by
  go_enter Tryz.func114, Tryz.ntmps114
  go_wp2_with fail
  refine (libCutPrefix s _ _ HC.out HH.out _).mono ?_
  rintro e w1 ⟨rfl, rfl⟩
  go_wp2_with fail
  refine (libCut u a b _ HK.out lu _ hL.mx).mono ?_
  rintro e w2 ⟨rfl, hB⟩
  have HT := Lib.hid hB
  clear hB
  go_wp2_with fail
  refine (implNumberL a la _ (hL.mono HT.out)).mono ?_
  rintro e w3 ⟨rfl, hB⟩
  rw [HN.out]
  replace HT := Lib.hid (bt HT.out hB)
  clear hB
  go_wp2_with fail
  refine (implPlacesL b _).mono ?_
  rintro e w4 ⟨rfl, rfl⟩
  rw [HP.out]
  go_wp2_with fail
  go_ret2
  exact ⟨rfl, HT.out⟩
set_option maxRecDepth 100000 in
set_option maxHeartbeats 1000000 in
theorem implRead_pt_yn (s : ByteArray) (u a b : List UInt8) (g : Bool) (HC : Hid (Lib.trimPrefix s.data.toList [45] = u)) (HH : Hid (Lib.hasPrefix s.data.toList [45] = g)) (HK : Hid (Lib.cut u [46] = (a, b, true))) (lu : u.length < 4294967281) (la : a.length ≤ 1048576) (n0 : Int) (l0 : 0 ≤ n0) (l1 : n0 ≤ 999999999) (HN : Hid (numE a = .returned (.tuple #[.int .i64 n0, .bool true]))) (HP : Hid (plE b = .returned (.tuple #[.int .i64 0, .bool false]))) (w : World) (hL : Lib6 w) :
    Calls Tryz.prog 114 #[.string s] w fun e w' => e = .returned (.tuple #[.int .i64 0, .bool false]) ∧ Below w.heap.size w w' := by
  go_enter Tryz.func114, Tryz.ntmps114
  go_wp2_with fail
  refine (libCutPrefix s _ _ HC.out HH.out _).mono ?_
  rintro e w1 ⟨rfl, rfl⟩
  go_wp2_with fail
  refine (libCut u a b _ HK.out lu _ hL.mx).mono ?_
  rintro e w2 ⟨rfl, hB⟩
  have HT := Lib.hid hB
  clear hB
  go_wp2_with fail
  refine (implNumberL a la _ (hL.mono HT.out)).mono ?_
  rintro e w3 ⟨rfl, hB⟩
  rw [HN.out]
  replace HT := Lib.hid (bt HT.out hB)
  clear hB
  go_wp2_with fail
  refine (implPlacesL b _).mono ?_
  rintro e w4 ⟨rfl, rfl⟩
  rw [HP.out]
  go_wp2_with fail
  go_ret2
  exact ⟨rfl, HT.out⟩
set_option maxRecDepth 100000 in
set_option maxHeartbeats 1000000 in
theorem implRead_pt_ny (s : ByteArray) (u a b : List UInt8) (g : Bool) (HC : Hid (Lib.trimPrefix s.data.toList [45] = u)) (HH : Hid (Lib.hasPrefix s.data.toList [45] = g)) (HK : Hid (Lib.cut u [46] = (a, b, true))) (lu : u.length < 4294967281) (la : a.length ≤ 1048576) (HN : Hid (numE a = .returned (.tuple #[.int .i64 0, .bool false]))) (r0 : Int) (p0 : 0 ≤ r0) (p1 : r0 ≤ 999) (HP : Hid (plE b = .returned (.tuple #[.int .i64 r0, .bool true]))) (w : World) (hL : Lib6 w) :
    Calls Tryz.prog 114 #[.string s] w fun e w' => e = .returned (.tuple #[.int .i64 0, .bool false]) ∧ Below w.heap.size w w' := by
  go_enter Tryz.func114, Tryz.ntmps114
  go_wp2_with fail
  refine (libCutPrefix s _ _ HC.out HH.out _).mono ?_
  rintro e w1 ⟨rfl, rfl⟩
  go_wp2_with fail
  refine (libCut u a b _ HK.out lu _ hL.mx).mono ?_
  rintro e w2 ⟨rfl, hB⟩
  have HT := Lib.hid hB
  clear hB
  go_wp2_with fail
  refine (implNumberL a la _ (hL.mono HT.out)).mono ?_
  rintro e w3 ⟨rfl, hB⟩
  rw [HN.out]
  replace HT := Lib.hid (bt HT.out hB)
  clear hB
  go_wp2_with fail
  refine (implPlacesL b _).mono ?_
  rintro e w4 ⟨rfl, rfl⟩
  rw [HP.out]
  go_wp2_with fail
  go_ret2
  exact ⟨rfl, HT.out⟩
set_option maxRecDepth 100000 in
set_option maxHeartbeats 1000000 in
theorem implRead_pt_out (s : ByteArray) (u a b : List UInt8) (g : Bool) (HC : Hid (Lib.trimPrefix s.data.toList [45] = u)) (HH : Hid (Lib.hasPrefix s.data.toList [45] = g)) (HK : Hid (Lib.cut u [46] = (a, b, true))) (lu : u.length < 4294967281) (la : a.length ≤ 1048576) (n0 : Int) (l0 : 0 ≤ n0) (l1 : n0 ≤ 999999999) (HN : Hid (numE a = .returned (.tuple #[.int .i64 n0, .bool true]))) (r0 : Int) (p0 : 0 ≤ r0) (p1 : r0 ≤ 999) (HP : Hid (plE b = .returned (.tuple #[.int .i64 r0, .bool true]))) (hk : Hid (decB (n0 * 1000 + r0) = false)) (w : World) (hL : Lib6 w) :
    Calls Tryz.prog 114 #[.string s] w fun e w' => e = .returned (.tuple #[.int .i64 0, .bool false]) ∧ Below w.heap.size w w' := by
  go_enter Tryz.func114, Tryz.ntmps114
  go_wp2_with fail
  refine (libCutPrefix s _ _ HC.out HH.out _).mono ?_
  rintro e w1 ⟨rfl, rfl⟩
  go_wp2_with fail
  refine (libCut u a b _ HK.out lu _ hL.mx).mono ?_
  rintro e w2 ⟨rfl, hB⟩
  have HT := Lib.hid hB
  clear hB
  go_wp2_with fail
  refine (implNumberL a la _ (hL.mono HT.out)).mono ?_
  rintro e w3 ⟨rfl, hB⟩
  rw [HN.out]
  replace HT := Lib.hid (bt HT.out hB)
  clear hB
  go_wp2_with fail
  refine (implPlacesL b _).mono ?_
  rintro e w4 ⟨rfl, rfl⟩
  rw [HP.out]
  go_wp2_with fail
  refine (implIsDecimal _ _).mono ?_
  rintro e w5 ⟨rfl, rfl⟩
  rw [hk.out]
  go_wp2_with fail
  go_ret2
  exact ⟨rfl, HT.out⟩
set_option maxRecDepth 100000 in
set_option maxHeartbeats 1000000 in
theorem implRead_pt_in0 (s : ByteArray) (u a b : List UInt8) (HC : Hid (Lib.trimPrefix s.data.toList [45] = u)) (HH : Hid (Lib.hasPrefix s.data.toList [45] = false)) (HK : Hid (Lib.cut u [46] = (a, b, true))) (lu : u.length < 4294967281) (la : a.length ≤ 1048576) (n0 : Int) (l0 : 0 ≤ n0) (l1 : n0 ≤ 999999999) (HN : Hid (numE a = .returned (.tuple #[.int .i64 n0, .bool true]))) (r0 : Int) (p0 : 0 ≤ r0) (p1 : r0 ≤ 999) (HP : Hid (plE b = .returned (.tuple #[.int .i64 r0, .bool true]))) (hk : Hid (decB (n0 * 1000 + r0) = true)) (w : World) (hL : Lib6 w) :
    Calls Tryz.prog 114 #[.string s] w fun e w' => e = .returned (.tuple #[.int .i64 (n0 * 1000 + r0), .bool true]) ∧ Below w.heap.size w w' := by
  go_enter Tryz.func114, Tryz.ntmps114
  go_wp2_with fail
  refine (libCutPrefix s _ _ HC.out HH.out _).mono ?_
  rintro e w1 ⟨rfl, rfl⟩
  go_wp2_with fail
  refine (libCut u a b _ HK.out lu _ hL.mx).mono ?_
  rintro e w2 ⟨rfl, hB⟩
  have HT := Lib.hid hB
  clear hB
  go_wp2_with fail
  refine (implNumberL a la _ (hL.mono HT.out)).mono ?_
  rintro e w3 ⟨rfl, hB⟩
  rw [HN.out]
  replace HT := Lib.hid (bt HT.out hB)
  clear hB
  go_wp2_with fail
  refine (implPlacesL b _).mono ?_
  rintro e w4 ⟨rfl, rfl⟩
  rw [HP.out]
  go_wp2_with fail
  refine (implIsDecimal _ _).mono ?_
  rintro e w5 ⟨rfl, rfl⟩
  rw [hk.out]
  go_wp2_with fail
  go_ret2
  exact ⟨rfl, HT.out⟩
set_option maxRecDepth 100000 in
set_option maxHeartbeats 1000000 in
theorem implRead_pt_in1 (s : ByteArray) (u a b : List UInt8) (HC : Hid (Lib.trimPrefix s.data.toList [45] = u)) (HH : Hid (Lib.hasPrefix s.data.toList [45] = true)) (HK : Hid (Lib.cut u [46] = (a, b, true))) (lu : u.length < 4294967281) (la : a.length ≤ 1048576) (n0 : Int) (l0 : 0 ≤ n0) (l1 : n0 ≤ 999999999) (HN : Hid (numE a = .returned (.tuple #[.int .i64 n0, .bool true]))) (r0 : Int) (p0 : 0 ≤ r0) (p1 : r0 ≤ 999) (HP : Hid (plE b = .returned (.tuple #[.int .i64 r0, .bool true]))) (hk : Hid (decB (n0 * 1000 + r0) = true)) (w : World) (hL : Lib6 w) :
    Calls Tryz.prog 114 #[.string s] w fun e w' => e = .returned (.tuple #[.int .i64 (-(n0 * 1000 + r0)), .bool true]) ∧ Below w.heap.size w w' := by
  go_enter Tryz.func114, Tryz.ntmps114
  go_wp2_with fail
  refine (libCutPrefix s _ _ HC.out HH.out _).mono ?_
  rintro e w1 ⟨rfl, rfl⟩
  go_wp2_with fail
  refine (libCut u a b _ HK.out lu _ hL.mx).mono ?_
  rintro e w2 ⟨rfl, hB⟩
  have HT := Lib.hid hB
  clear hB
  go_wp2_with fail
  refine (implNumberL a la _ (hL.mono HT.out)).mono ?_
  rintro e w3 ⟨rfl, hB⟩
  rw [HN.out]
  replace HT := Lib.hid (bt HT.out hB)
  clear hB
  go_wp2_with fail
  refine (implPlacesL b _).mono ?_
  rintro e w4 ⟨rfl, rfl⟩
  rw [HP.out]
  go_wp2_with fail
  refine (implIsDecimal _ _).mono ?_
  rintro e w5 ⟨rfl, rfl⟩
  rw [hk.out]
  go_wp2_with fail
  go_ret2
  exact ⟨rfl, HT.out⟩
set_option maxRecDepth 100000 in
set_option maxHeartbeats 1000000 in
theorem implRead_np_ny (s : ByteArray) (u a b : List UInt8) (g : Bool) (HC : Hid (Lib.trimPrefix s.data.toList [45] = u)) (HH : Hid (Lib.hasPrefix s.data.toList [45] = g)) (HK : Hid (Lib.cut u [46] = (a, b, false))) (lu : u.length < 4294967281) (la : a.length ≤ 1048576) (HN : Hid (numE a = .returned (.tuple #[.int .i64 0, .bool false]))) (r0 : Int) (p0 : 0 ≤ r0) (p1 : r0 ≤ 999) (HP : Hid (plE [48] = .returned (.tuple #[.int .i64 r0, .bool true]))) (w : World) (hL : Lib6 w) :
    Calls Tryz.prog 114 #[.string s] w fun e w' => e = .returned (.tuple #[.int .i64 0, .bool false]) ∧ Below w.heap.size w w' := by
  go_enter Tryz.func114, Tryz.ntmps114
  go_wp2_with fail
  refine (libCutPrefix s _ _ HC.out HH.out _).mono ?_
  rintro e w1 ⟨rfl, rfl⟩
  go_wp2_with fail
  refine (libCut u a b _ HK.out lu _ hL.mx).mono ?_
  rintro e w2 ⟨rfl, hB⟩
  have HT := Lib.hid hB
  clear hB
  go_wp2_with fail
  refine (implNumberL a la _ (hL.mono HT.out)).mono ?_
  rintro e w3 ⟨rfl, hB⟩
  rw [HN.out]
  replace HT := Lib.hid (bt HT.out hB)
  clear hB
  go_wp2_with fail
  refine (implPlacesL [48] _).mono ?_
  rintro e w4 ⟨rfl, rfl⟩
  rw [HP.out]
  go_wp2_with fail
  go_ret2
  exact ⟨rfl, HT.out⟩
set_option maxRecDepth 100000 in
set_option maxHeartbeats 1000000 in
theorem implRead_np_out (s : ByteArray) (u a b : List UInt8) (g : Bool) (HC : Hid (Lib.trimPrefix s.data.toList [45] = u)) (HH : Hid (Lib.hasPrefix s.data.toList [45] = g)) (HK : Hid (Lib.cut u [46] = (a, b, false))) (lu : u.length < 4294967281) (la : a.length ≤ 1048576) (n0 : Int) (l0 : 0 ≤ n0) (l1 : n0 ≤ 999999999) (HN : Hid (numE a = .returned (.tuple #[.int .i64 n0, .bool true]))) (r0 : Int) (p0 : 0 ≤ r0) (p1 : r0 ≤ 999) (HP : Hid (plE [48] = .returned (.tuple #[.int .i64 r0, .bool true]))) (hk : Hid (decB (n0 * 1000 + r0) = false)) (w : World) (hL : Lib6 w) :
    Calls Tryz.prog 114 #[.string s] w fun e w' => e = .returned (.tuple #[.int .i64 0, .bool false]) ∧ Below w.heap.size w w' := by
  go_enter Tryz.func114, Tryz.ntmps114
  go_wp2_with fail
  refine (libCutPrefix s _ _ HC.out HH.out _).mono ?_
  rintro e w1 ⟨rfl, rfl⟩
  go_wp2_with fail
  refine (libCut u a b _ HK.out lu _ hL.mx).mono ?_
  rintro e w2 ⟨rfl, hB⟩
  have HT := Lib.hid hB
  clear hB
  go_wp2_with fail
  refine (implNumberL a la _ (hL.mono HT.out)).mono ?_
  rintro e w3 ⟨rfl, hB⟩
  rw [HN.out]
  replace HT := Lib.hid (bt HT.out hB)
  clear hB
  go_wp2_with fail
  refine (implPlacesL [48] _).mono ?_
  rintro e w4 ⟨rfl, rfl⟩
  rw [HP.out]
  go_wp2_with fail
  refine (implIsDecimal _ _).mono ?_
  rintro e w5 ⟨rfl, rfl⟩
  rw [hk.out]
  go_wp2_with fail
  go_ret2
  exact ⟨rfl, HT.out⟩
set_option maxRecDepth 100000 in
set_option maxHeartbeats 1000000 in
theorem implRead_np_in0 (s : ByteArray) (u a b : List UInt8) (HC : Hid (Lib.trimPrefix s.data.toList [45] = u)) (HH : Hid (Lib.hasPrefix s.data.toList [45] = false)) (HK : Hid (Lib.cut u [46] = (a, b, false))) (lu : u.length < 4294967281) (la : a.length ≤ 1048576) (n0 : Int) (l0 : 0 ≤ n0) (l1 : n0 ≤ 999999999) (HN : Hid (numE a = .returned (.tuple #[.int .i64 n0, .bool true]))) (r0 : Int) (p0 : 0 ≤ r0) (p1 : r0 ≤ 999) (HP : Hid (plE [48] = .returned (.tuple #[.int .i64 r0, .bool true]))) (hk : Hid (decB (n0 * 1000 + r0) = true)) (w : World) (hL : Lib6 w) :
    Calls Tryz.prog 114 #[.string s] w fun e w' => e = .returned (.tuple #[.int .i64 (n0 * 1000 + r0), .bool true]) ∧ Below w.heap.size w w' := by
  go_enter Tryz.func114, Tryz.ntmps114
  go_wp2_with fail
  refine (libCutPrefix s _ _ HC.out HH.out _).mono ?_
  rintro e w1 ⟨rfl, rfl⟩
  go_wp2_with fail
  refine (libCut u a b _ HK.out lu _ hL.mx).mono ?_
  rintro e w2 ⟨rfl, hB⟩
  have HT := Lib.hid hB
  clear hB
  go_wp2_with fail
  refine (implNumberL a la _ (hL.mono HT.out)).mono ?_
  rintro e w3 ⟨rfl, hB⟩
  rw [HN.out]
  replace HT := Lib.hid (bt HT.out hB)
  clear hB
  go_wp2_with fail
  refine (implPlacesL [48] _).mono ?_
  rintro e w4 ⟨rfl, rfl⟩
  rw [HP.out]
  go_wp2_with fail
  refine (implIsDecimal _ _).mono ?_
  rintro e w5 ⟨rfl, rfl⟩
  rw [hk.out]
  go_wp2_with fail
  go_ret2
  exact ⟨rfl, HT.out⟩
set_option maxRecDepth 100000 in
set_option maxHeartbeats 1000000 in
theorem implRead_np_in1 (s : ByteArray) (u a b : List UInt8) (HC : Hid (Lib.trimPrefix s.data.toList [45] = u)) (HH : Hid (Lib.hasPrefix s.data.toList [45] = true)) (HK : Hid (Lib.cut u [46] = (a, b, false))) (lu : u.length < 4294967281) (la : a.length ≤ 1048576) (n0 : Int) (l0 : 0 ≤ n0) (l1 : n0 ≤ 999999999) (HN : Hid (numE a = .returned (.tuple #[.int .i64 n0, .bool true]))) (r0 : Int) (p0 : 0 ≤ r0) (p1 : r0 ≤ 999) (HP : Hid (plE [48] = .returned (.tuple #[.int .i64 r0, .bool true]))) (hk : Hid (decB (n0 * 1000 + r0) = true)) (w : World) (hL : Lib6 w) :
    Calls Tryz.prog 114 #[.string s] w fun e w' => e = .returned (.tuple #[.int .i64 (-(n0 * 1000 + r0)), .bool true]) ∧ Below w.heap.size w w' := by
  go_enter Tryz.func114, Tryz.ntmps114
  go_wp2_with fail
  refine (libCutPrefix s _ _ HC.out HH.out _).mono ?_
  rintro e w1 ⟨rfl, rfl⟩
  go_wp2_with fail
  refine (libCut u a b _ HK.out lu _ hL.mx).mono ?_
  rintro e w2 ⟨rfl, hB⟩
  have HT := Lib.hid hB
  clear hB
  go_wp2_with fail
  refine (implNumberL a la _ (hL.mono HT.out)).mono ?_
  rintro e w3 ⟨rfl, hB⟩
  rw [HN.out]
  replace HT := Lib.hid (bt HT.out hB)
  clear hB
  go_wp2_with fail
  refine (implPlacesL [48] _).mono ?_
  rintro e w4 ⟨rfl, rfl⟩
  rw [HP.out]
  go_wp2_with fail
  refine (implIsDecimal _ _).mono ?_
  rintro e w5 ⟨rfl, rfl⟩
  rw [hk.out]
  go_wp2_with fail
  go_ret2
  exact ⟨rfl, HT.out⟩
end Go.Proofs.YticeagjonfifbaaGreatDoor
