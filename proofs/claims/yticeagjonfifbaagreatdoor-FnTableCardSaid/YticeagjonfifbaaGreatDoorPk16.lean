/-
  The fault that an error carries; the decimals in the fields of a row: the program's way.
  The text of a table, the program's way.
-/
import Derived.Test.YticeagjonfifbaaGreatDoorI9A
import Derived.Test.YticeagjonfifbaaGreatDoorTabW
import Derived.Test.YticeagjonfifbaaGreatDoorPk6
import Derived.Test.YticeagjonfifbaaGreatDoorTabX
import Derived.Test.YticeagjonfifbaaGreatDoorPk15
import Derived.Test.YticeagjonfifbaaGreatDoorPk5
namespace Go.Proofs.YticeagjonfifbaaGreatDoor
open Go.RowKit

/-- The handle of the type error, as the library's variable holds it. -/
def HandleAt (w : World) : Prop := w.cell? ⟨0, 0, none⟩ = some (.iface 153 (.agg #[.pointer (some ⟨9, 53, none⟩)]))
theorem HandleAt.below {w w' : World} (h : HandleAt w) (hB : Below w.heap.size w w') : HandleAt w' := (hB.cell (World.block_lt_of_cell? w _ h)).trans h
set_option maxRecDepth 100000 in
set_option maxHeartbeats 1000000 in
theorem faultOf_nil9 (w : World) :
    Calls Tryz.prog 36 #[.nilIface] w fun e w' => e = .returned (.agg #[.int .i64 0, .int .i64 0, .int .i64 0]) ∧ Below w.heap.size w w' := by
  have hA := bt (bl_al w (.cells #[.int .i64 0, .int .i64 0, .int .i64 0] 33)) (bl_al _ (.cells #[.int .i64 0, .int .i64 0, .int .i64 0] 99))
  go_enter Tryz.func36, Tryz.ntmps36
  go_wp2_with fail
  refine (as_nil9 _ _).mono ?_
  rintro e w1 ⟨rfl, rfl⟩
  go_wp2_with fail
  refine bodyPost_ret (v := .agg #[.int .i64 0, .int .i64 0, .int .i64 0]) ?_ rfl ⟨rfl, ?_⟩
  · rw [results_oneF rfl]
    go_simp
  · first | exact hA | (refine Below.setCell (Below.setCell (Below.setCell hA (Nat.le_refl _) _) (Nat.le_refl _) _) (Nat.le_refl _) _) | exact bt (bl_al w _) (bl_al _ _)
set_option maxRecDepth 100000 in
set_option maxHeartbeats 1000000 in
theorem faultOf_some9 (c a k : Int) (w : World) (hg : HandleAt w) :
    Calls Tryz.prog 36 #[.iface 99 (.agg #[.int .i64 c, .int .i64 a, .int .i64 k])] w fun e w' => e = .returned (.agg #[.int .i64 c, .int .i64 a, .int .i64 k]) ∧ Below w.heap.size w w' := by
  have hA := bt (bl_al w (.cells #[.int .i64 0, .int .i64 0, .int .i64 0] 33)) (bl_al _ (.cells #[.int .i64 0, .int .i64 0, .int .i64 0] 99))
  have x0 := blk_al (alloc_blk w #[.int .i64 0, .int .i64 0, .int .i64 0] 33) (.cells #[.int .i64 0, .int .i64 0, .int .i64 0] 99)
  have x1 := alloc_blk (w.alloc (.cells #[.int .i64 0, .int .i64 0, .int .i64 0] 33)) #[.int .i64 0, .int .i64 0, .int .i64 0] 99
  rw [sz_alloc] at x1
  have HK := Lib.hid (as_hit9 c a k (w.heap.size + 1) _ _ _ ((w.alloc (.cells #[.int .i64 0, .int .i64 0, .int .i64 0] 33)).alloc (.cells #[.int .i64 0, .int .i64 0, .int .i64 0] 99)) (hg.below hA) x1)
  clear x1 hg
  go_enter Tryz.func36, Tryz.ntmps36
  go_wp2_with fail
  refine HK.out.mono ?_
  rintro e w1 ⟨rfl, hx, hB⟩
  have y0 := (hB.block _ (Nat.lt_succ_self _)).trans x0
  have HBB := Lib.hid (hA.trans (hB.mono (Nat.le_succ _)))
  have p0 := cell_blk y0 0
  have p1 := cell_blk y0 1
  have p2 := cell_blk y0 2
  have f0 := free_blk y0 0
  have f1 := free_blk y0 1
  have f2 := free_blk y0 2
  have lp := blk_lt y0
  have q0 := cell_blk hx 0
  have q1 := cell_blk hx 1
  have q2 := cell_blk hx 2
  have lq := blk_lt hx
  clear hA x0 hB
  go_wp2_with fail
  refine bodyPost_ret (v := .agg #[.int .i64 c, .int .i64 a, .int .i64 k]) ?_ rfl ⟨rfl, ?_⟩
  · rw [results_oneF rfl]
    go_simp
  · exact ((HBB.out.setCell (Nat.le_refl _) _).setCell (Nat.le_refl _) _).setCell (Nat.le_refl _) _
/-- THE FAULT THAT AN ERROR CARRIES. -/
theorem faultOf9 (c a k : Nat) (h0 : c = 0 → a = 0 ∧ k = 0) (w : World) (hg : HandleAt w) :
    Calls Tryz.prog 36 #[errV9 c a k] w fun e w' => e = .returned (.agg #[.int .i64 (c : Nat), .int .i64 (a : Nat), .int .i64 (k : Nat)]) ∧ Below w.heap.size w w' := by
  by_cases hc : c = 0
  · obtain ⟨rfl, rfl⟩ := h0 hc
    subst hc
    exact faultOf_nil9 w
  · rw [errV9_some hc]
    exact faultOf_some9 c a k w hg
/-- What the reading of a row's fields answers: w's size is the base. -/
def RnP (w : World) (row : Nat) (e : Ending) (w' : World) : List Int ⊕ Nat → Prop
  | .inl xs => ∃ v, e = .returned (.tuple #[v, .nilIface]) ∧ w'.ownsRow w.heap.size 3 1 v xs.length (intCells xs)
  | .inr k => e = .returned (.tuple #[.slice none 0 0, .iface 99 (.agg #[.int .i64 9, .int .i64 row, .int .i64 k])])
theorem rnP_ok {w w' : World} {row : Nat} {F : List Int ⊕ Nat} {xs : List Int} {v : Value} (h : F = .inl xs) (ho : w'.ownsRow w.heap.size 3 1 v xs.length (intCells xs)) : RnP w row (.returned (.tuple #[v, .nilIface])) w' F := by
  rw [h]
  exact ⟨v, rfl, ho⟩
theorem rnP_no {w w' : World} {row k : Nat} {F : List Int ⊕ Nat} (h : F = .inr k) : RnP w row (.returned (.tuple #[.slice none 0 0, .iface 99 (.agg #[.int .i64 9, .int .i64 row, .int .i64 k])])) w' F := by
  rw [h]
  rfl
set_option maxRecDepth 100000 in
theorem readNum_width9 (a : Option Addr) (m c row n : Nat) (hm : ¬ m = n) (w : World) :
    Calls Tryz.prog 89 #[.slice a m c, .int .i64 row, .int .i64 n] w fun e w' => e = .returned (.tuple #[.slice none 0 0, .iface 99 (.agg #[.int .i64 4, .int .i64 row, .int .i64 0])]) ∧ Below w.heap.size w w' := by
  have h1 : ¬ (m : Int) = n := by omega
  have h2 : ((m : Int) == (n : Int)) = false := beq_eq_false_iff_ne.2 h1
  go_enter Tryz.func89, Tryz.ntmps89
  go_wp2_with fail
  go_ret2
  exact ⟨rfl, Below.refl _ _⟩
set_option maxRecDepth 100000 in
set_option maxHeartbeats 2000000 in
theorem readNum9 (W : World) (hL : Lib6 W) (v : Value) (r : List (List UInt8)) (row : Nat) (w : World) (hBW : Below W.heap.size W w) (h : StrRow w v r) (hr : r.length ≤ 1048576) (hnl : ∀ p ∈ r, p.length ≤ 1048576) :
    Calls Tryz.prog 89 #[v, .int .i64 row, .int .i64 r.length] w fun e w' => RnP w row e w' (fldsG r 0 []) ∧ Below w.heap.size w w' := by
  obtain ⟨iI, gi, gz0, gz1, gz2⟩ := info_parts infoInt
  obtain ⟨a, c, rfl, hl, hf⟩ := sRow_cells h
  have HF := Lib.hid hf
  have HNL := Lib.hid hnl
  have HRF : Hid (∀ wz, Below W.heap.size W wz → ∀ p : List UInt8, p.length ≤ 1048576 → Calls Tryz.prog 114 #[.string ⟨p.toArray⟩] wz fun e w' => e = rfE p ∧ Below wz.heap.size wz w') := Lib.hid (fun wz hB p hp => readFixB W hL wz hB ⟨p.toArray⟩ (by rw [Lib.size_eq]; exact hp))
  obtain ⟨G, hG⟩ : ∃ G, fldsG r 0 [] = G := ⟨_, rfl⟩
  obtain ⟨n, hn⟩ : ∃ n : Nat, r.length = n := ⟨_, rfl⟩
  rw [hn] at hr ⊢
  rw [hG]
  have HN := Lib.hid hn
  have HG := Lib.hid hG
  have HBW := Lib.hid hBW
  have hO0 : (w.alloc (.cells #[] 3)).ownsRow w.heap.size 3 1 (.slice (some ⟨w.heap.size, 0, none⟩) 0 0) 0 [] := World.ownsRow_made w #[] 0 (Nat.le_refl _) (by unfold maxLen; omega) (by simp)
  have HO0 := Lib.hid hO0
  have HB0 := Lib.hid (bl_al w (.cells #[] 3))
  clear hf hnl hL hn hG hBW h hl hO0
  go_enter Tryz.func89, Tryz.ntmps89
  go_wp2_with fail
  go_loopg [8, 9, 10, 11, 12, 24] n (fun g v_ _ _ _ _ k_ wr => ∃ (k : Nat) (acc : List Int) (vr : Value), k ≤ n ∧ g = n - k ∧ k_ = .int .i64 k ∧ vr = v_ ∧ acc.length = k ∧ fldsG (r.drop k) k acc = G ∧ wr.ownsRow w.heap.size 3 1 vr acc.length (intCells acc) ∧ Below w.heap.size w wr)
  case atStart => exact ⟨0, [], _, Nat.zero_le _, rfl, rfl, rfl, rfl, HG.out, HO0.out, HB0.out⟩
  case round =>
    clear HO0 HB0
    obtain ⟨k, acc, vr, hk9, rfl, rfl, rfl, hal, hfg, hO, hB⟩ := hrel
    have HO := Lib.hid hO
    have HB := Lib.hid hB
    have HFG := Lib.hid hfg
    have HAL := Lib.hid hal
    clear hO hB hfg hal
    by_cases hk : k < n
    · have hk1 : (k : Int) < n := by omega
      have hk0 : (0 : Int) ≤ k := by omega
      obtain ⟨f, hfk⟩ : ∃ f, r[k]? = some f := ⟨_, List.getElem?_eq_getElem (by rw [HN.out]; exact hk)⟩
      obtain ⟨b, o, rfl, hcf0⟩ := HF.out k f hfk
      have hcf := (HB.out.cell (World.block_lt_of_cell? w _ hcf0)).trans hcf0
      have hlf := World.block_lt_of_cell? wr _ hcf
      have hfl := HNL.out f (List.mem_of_getElem? hfk)
      have hdk : r.drop k = f :: r.drop (k + 1) := by
        rw [List.drop_eq_getElem_cons (show k < r.length by rw [HN.out]; exact hk)]
        congr 1
        exact (List.getElem?_eq_some_iff.1 hfk).2
      have HFG2 : Hid (fldsG (f :: r.drop (k + 1)) k acc = G) := Lib.hid (by rw [← hdk]; exact HFG.out)
      have HRD := Lib.hid (HRF.out wr (bt HBW.out HB.out) f hfl)
      clear hfk hcf0 hdk HFG
      cases hv : rdV f with
      | none =>
        have HE := Lib.hid (HRD.out.mono (R' := fun e w' => e = .returned (.tuple #[.int .i64 0, .bool false]) ∧ Below wr.heap.size wr w') (fun e w' ⟨he, hB⟩ => ⟨by rw [he, rfE, hv], hB⟩))
        have HF9 : Hid (G = .inr k) := Lib.hid (by
          have h1 := HFG2.out
          rw [fldsG, hv] at h1
          exact h1.symm)
        clear hv HFG2 HRD
        go_wp2_with fail
        refine HE.out.mono ?_
        rintro e w5 ⟨rfl, hB5⟩
        go_wp2_with fail
        go_ret2
        exact ⟨rnP_no HF9.out, bt HB.out hB5⟩
      | some x =>
        have HE := Lib.hid (HRD.out.mono (R' := fun e w' => e = .returned (.tuple #[.int .i64 x, .bool true]) ∧ Below wr.heap.size wr w') (fun e w' ⟨he, hB⟩ => ⟨by rw [he, rfE, hv], hB⟩))
        have HFG3 : Hid (fldsG (r.drop (k + 1)) (k + 1) (acc ++ [x]) = G) := Lib.hid (by
          have h1 := HFG2.out
          rw [fldsG, hv] at h1
          exact h1)
        clear hv HFG2 HRD
        go_wp2_with fail
        refine HE.out.mono ?_
        rintro e w5 ⟨rfl, hB5⟩
        have hO5 := owns_bl HO.out hB5
        have HB5 := Lib.hid (bt HB.out hB5)
        rw [HAL.out] at hO5
        clear hB5 hcf hlf
        go_wp2_with (at_builtin; refine wpList_append_own _ rfl _ _ 26 rfl w.heap.size 3 iI (.int .i64 0) 1 8 Tryz.underlying26 gi gz0 gz1 gz2 rfl (by decide) _ _ _ rfl (hO5.alloc _) ⟨w5.heap.size, 0, none⟩ 1 1 [.int .i64 x] rfl rfl ?p1 ?q1 ?r1 ?s1 ?t1 ?_)
        try (case p1 => exact news_one)
        case q1 => first | (intro u hu; simp at hu; subst hu; rfl) | rfl
        case r1 => unfold maxLen; omega
        case s1 => omega
        case t1 => have := HB5.out.size; simp; omega
        intro v6 w6 hown6 hg6 _
        have HB6 := Lib.hid ((HB5.out.alloc HB5.out.size (.cells #[.int .i64 x] 3)).grown hg6 (by have := HB5.out.size; simp; omega) (fun q hq => (hO5.lt q hq).1))
        have HO6 : Hid (w6.ownsRow w.heap.size 3 1 v6 (acc ++ [x]).length (intCells (acc ++ [x]))) := Lib.hid (int_row9 (by rw [HAL.out]; exact hown6))
        clear hown6 hg6 hO5 HB5
        go_wp2_with fail
        go_roundg (n - (k + 1))
        case measure => omega
        case rel => exact ⟨k + 1, acc ++ [x], v6, by omega, rfl, by go_num, rfl, by rw [List.length_append, HAL.out]; rfl, HFG3.out, HO6.out, HB6.out⟩
    · have hk1 : ¬ (k : Int) < n := by omega
      have hke : k = n := by omega
      have HACC : Hid (G = .inl acc) := Lib.hid (by
        have h := HFG.out
        rw [List.drop_eq_nil_of_le (by rw [HN.out]; omega)] at h
        exact h.symm)
      clear HFG hke
      go_wp2_with fail
      go_ret2
      exact ⟨rnP_ok HACC.out HO.out, HB.out⟩
end Go.Proofs.YticeagjonfifbaaGreatDoor
namespace Go.Proofs.YticeagjonfifbaaGreatDoor
open Go.RowKit

set_option maxRecDepth 100000 in
set_option maxHeartbeats 1000000 in
theorem implTabText_no (T : Tab) (a1 a2 a3 : Option Addr) (c1 c2 c3 : Nat) (w : World) (h : TabRow w T (.slice a1 T.ns.length c1) (.slice a2 T.rs.length c2) (.slice a3 T.ys.length c3)) (hl : T.ns.length ≤ 1048576) (hyl : T.y.length ≤ 9223372036854775807) (hnl : ∀ p ∈ T.ns, p.length ≤ 9223372036854775807) (hk : Hid (okT T = false)) :
    Calls Tryz.prog 8 #[.agg #[.slice a1 T.ns.length c1, .string ⟨T.y.toArray⟩, .slice a2 T.rs.length c2, .slice a3 T.ys.length c3]] w fun e w' => e = .returned (.string ⟨#[]⟩) ∧ Below w.heap.size w w' := by
  have HO := Lib.hid ((implTabOk9 T _ _ _ _ (h.below (bl_al w (.cells #[.slice a1 T.ns.length c1, .string ⟨T.y.toArray⟩, .slice a2 T.rs.length c2, .slice a3 T.ys.length c3] 28))) hl hnl hyl).mono (R' := fun e w' => e = .returned (.bool false) ∧ Below (w.alloc (.cells #[.slice a1 T.ns.length c1, .string ⟨T.y.toArray⟩, .slice a2 T.rs.length c2, .slice a3 T.ys.length c3] 28)).heap.size (w.alloc (.cells #[.slice a1 T.ns.length c1, .string ⟨T.y.toArray⟩, .slice a2 T.rs.length c2, .slice a3 T.ys.length c3] 28)) w') (fun e w' ⟨he, hB⟩ => ⟨by rw [he, hk.out], hB⟩))
  clear h hyl hnl hl
  go_enter Tryz.func8, Tryz.ntmps8
  go_wp2_with fail
  refine HO.out.mono ?_
  rintro e w1 ⟨rfl, hB⟩
  go_wp2_with fail
  go_ret
  exact ⟨rfl, bt (bl_al w _) hB⟩
set_option maxRecDepth 100000 in
set_option maxHeartbeats 4000000 in
theorem implTabText_ok (T : Tab) (a1 a2 a3 : Option Addr) (c1 c2 c3 : Nat) (w : World) (m : Int) (hm : w.cell? ⟨4, 0, none⟩ = some (.int .i64 m)) (hL : Lib.TabIs Tryz.prog w "internal/strconv.uint64pow10" .u64 Lib.pow10Tab ∧ 1 < w.heap.size) (h : TabRow w T (.slice a1 T.ns.length c1) (.slice a2 T.rs.length c2) (.slice a3 T.ys.length c3)) (hl : T.ns.length ≤ 1048576) (hyl : T.y.length ≤ 9223372036854775807) (hnl : ∀ p ∈ T.ns, p.length ≤ 9223372036854775807) (hk : Hid (okT T = true)) :
    Calls Tryz.prog 8 #[.agg #[.slice a1 T.ns.length c1, .string ⟨T.y.toArray⟩, .slice a2 T.rs.length c2, .slice a3 T.ys.length c3]] w fun e w' => e = .returned (.string ⟨(csvT (rowsTx T T.rs.length)).toArray⟩) ∧ Below w.heap.size w w' := by
  obtain ⟨iS, hi, hz0, hz1, hz2⟩ := info_parts infoStr
  obtain ⟨iL, hj, hy0, hy1, hy2⟩ := info_parts infoSlS
  have HO := Lib.hid ((implTabOk9 T _ _ _ _ (h.below (bl_al w (.cells #[.slice a1 T.ns.length c1, .string ⟨T.y.toArray⟩, .slice a2 T.rs.length c2, .slice a3 T.ys.length c3] 28))) hl hnl hyl).mono (R' := fun e w' => e = .returned (.bool true) ∧ Below (w.alloc (.cells #[.slice a1 T.ns.length c1, .string ⟨T.y.toArray⟩, .slice a2 T.rs.length c2, .slice a3 T.ys.length c3] 28)).heap.size (w.alloc (.cells #[.slice a1 T.ns.length c1, .string ⟨T.y.toArray⟩, .slice a2 T.rs.length c2, .slice a3 T.ys.length c3] 28)) w') (fun e w' ⟨he, hB⟩ => ⟨by rw [he, hk.out], hB⟩))
  have ho := okT_head hk.out
  have hx0 := alloc_blk w #[.slice a1 T.ns.length c1, .string ⟨T.y.toArray⟩, .slice a2 T.rs.length c2, .slice a3 T.ys.length c3] 28
  have HX := Lib.hid hx0
  have HH := Lib.hid h
  have hn4 := ho.1
  have hr40 := ho.2.2.1
  have HOK := Lib.hid ho
  have HOK2 := Lib.hid hk.out
  have HF : Hid (∀ wz, Below w.heap.size w wz → ∀ x : Int, -9223372036854775808 ≤ x → x ≤ 9223372036854775807 → Calls Tryz.prog 26 #[.int .i64 x] wz fun e w' => e = .returned (.string ⟨(fixT x).toArray⟩) ∧ Below wz.heap.size wz w') := Lib.hid (fun wz hB x h0 h1 => fixTextB w hL.1 hL.2 wz hB x h0 h1)
  have HCT : Hid (ImplText w) := Lib.hid (implText w m hm)
  clear h hyl hnl ho hx0 hL hm
  go_enter Tryz.func8, Tryz.ntmps8
  go_wp2_with fail
  refine HO.out.mono ?_
  rintro e w1 ⟨rfl, hB⟩
  have X1 := Lib.hid (blk_next HX.out hB)
  have B1 := Lib.hid (bt (bl_al w _) hB)
  have HHD := Lib.hid (header9 T _ _ _ w1 (HH.out.below B1.out) (by omega))
  clear hB HX HO
  have ca0 := cell_blk X1.out 0
  have ca1 := cell_blk X1.out 1
  have ca2 := cell_blk X1.out 2
  have ca3 := cell_blk X1.out 3
  have la := blk_lt X1.out
  go_wp2_with fail
  refine HHD.out.mono ?_
  rintro e w2 ⟨⟨v2, rfl, hO2⟩, hB2⟩
  rw [strCells_app9] at hO2
  clear ca0 ca1 ca2 ca3 la
  have hrT : (rowsTx T 0).length = 1 := rfl
  have HS : Hid (OutT w (w2.alloc (.cells #[v2] 24)) #[.slice a1 T.ns.length c1, .string ⟨T.y.toArray⟩, .slice a2 T.rs.length c2, .slice a3 T.ys.length c3] (.slice (some ⟨w2.heap.size, 0, none⟩) 1 1) (rowsTx T 0)) := Lib.hid ⟨bt (bt B1.out hB2) (bl_al _ _), blk_al (blk_next X1.out hB2) _, (headOut (T := T) hB2 (by simpa [strCells] using hO2) B1.out.size).1⟩
  have hO3 := hO2
  clear hO2 hB2
  obtain ⟨va, vc, rfl⟩ := owns_form hO3
  clear hO3
  obtain ⟨wz, hwz⟩ : ∃ wz, w2.alloc (.cells #[.slice va (T.ns ++ [T.y]).length vc] 24) = wz := ⟨_, rfl⟩
  obtain ⟨zb, hzb⟩ : ∃ zb, w2.heap.size = zb := ⟨_, rfl⟩
  have hln : (T.ns ++ [T.y]).length = T.ns.length + 1 := by simp
  rw [hln] at hwz HS ⊢
  rw [hwz, hzb] at HS
  have HII := Lib.hid HH.out.2.1
  have HIY := Lib.hid HH.out.2.2
  have ca2 := cell_blk HS.out.cell 2
  have ca3 := cell_blk HS.out.cell 3
  have la := blk_lt HS.out.cell
  go_wp2_with fail
  go_loopg [3, 4, 5, 6, 8, 18] T.rs.length (fun g v_ _ _ _ _ i_ wr => ∃ (i : Nat) (vo : Value), i ≤ T.rs.length ∧ g = T.rs.length - i ∧ i_ = .int .i64 i ∧ vo = v_ ∧ OutT w wr #[.slice a1 T.ns.length c1, .string ⟨T.y.toArray⟩, .slice a2 T.rs.length c2, .slice a3 T.ys.length c3] vo (rowsTx T i))
  case atStart => exact ⟨0, _, Nat.zero_le _, rfl, rfl, rfl, HS.out⟩
  case round =>
    clear HS
    obtain ⟨i, vo, hii, rfl, rfl, rfl, hO⟩ := hrel
    have HO := Lib.hid hO
    clear hO
    have ca2 := cell_blk HO.out.cell 2
    have la := blk_lt HO.out.cell
    by_cases hlt : i < T.rs.length
    · have hi1 : (i : Int) < T.rs.length := by omega
      have hi0 : (0 : Int) ≤ i := by omega
      obtain ⟨r, hr⟩ : ∃ r, T.rs[i]? = some r := ⟨_, List.getElem?_eq_getElem hlt⟩
      obtain ⟨y, hy⟩ : ∃ y, T.ys[i]? = some y := ⟨_, List.getElem?_eq_getElem (by rw [HOK.out.2.2.2.1]; exact hlt)⟩
      have hrow := HOK.out.2.2.2.2.2.2 i hlt
      rw [getD_at hr, getD_at hy] at hrow
      have HRW := Lib.hid hrow
      clear hrow
      have hm4 : r.length ≤ 4 := by rw [HRW.out.1]; exact hn4.2
      have hm1 : 1 ≤ r.length := by rw [HRW.out.1]; exact hn4.1
      obtain ⟨ag, cg, he2, _, hfg⟩ := iiRow_cells HII.out
      injection he2 with he21 _ he23
      subst he21
      subst he23
      obtain ⟨b2, o2, u, rfl, hcu0, hur0⟩ := hfg i r hr
      obtain ⟨ar, cr, rfl, _, hfr⟩ := intRow_form hur0
      obtain ⟨b4, o4, har4, _⟩ := hfr 0 _ (List.getElem?_eq_getElem (show 0 < r.length by omega))
      subst har4
      obtain ⟨a9, c9, he3, _, hfy⟩ := intRow_form HIY.out
      injection he3 with he31 _ he33
      subst he31
      subst he33
      obtain ⟨b3, o3, rfl, hcy0⟩ := hfy i y hy
      have HFR := Lib.hid hfr
      have HCU := Lib.hid hcu0
      have HYV := Lib.hid hcy0
      have HRS := Lib.hid (show rowsTx T (i + 1) = rowsTx T i ++ [rowTx r y] by rw [rowsTx_succ, getD_at hr, getD_at hy])
      have hcu := (HO.out.below.cell (p := ⟨b2, o2 + i, none⟩) (World.block_lt_of_cell? w _ hcu0)).trans hcu0
      have hlu := World.block_lt_of_cell? wr _ hcu
      obtain ⟨ao, co, hvo⟩ : ∃ a c, vo = .slice a (rowsTx T i).length c := by
        obtain ⟨vs, ho, _⟩ := HO.out.out
        exact owns_form ho
      subst hvo
      have hrl := rowsTx_length T i
      obtain ⟨lo0, hC0⟩ : ∃ lo0, TtSt w (wr.alloc (.cells #[] 9)) #[.slice a1 T.ns.length c1, .string ⟨T.y.toArray⟩, .slice (some ⟨b2, o2, none⟩) T.rs.length c2, .slice (some ⟨b3, o3, none⟩) T.ys.length c3] lo0 (.slice ao (rowsTx T i).length co) (.slice (some ⟨wr.heap.size, 0, none⟩) 0 0) (rowsTx T i) [] := ⟨_, HO.out.start⟩
      have HC0 := Lib.hid hC0
      clear hC0 HO hcu0 hur0 hfr hfy hfg hr hy hcy0
      go_wp2_with fail
      go_loopg [6, 8, 26] r.length (fun g v_ _ k_ wi => ∃ (k : Nat) (vr : Value), k ≤ r.length ∧ g = r.length - k ∧ k_ = .int .i64 k ∧ vr = v_ ∧ TtSt w wi #[.slice a1 T.ns.length c1, .string ⟨T.y.toArray⟩, .slice (some ⟨b2, o2, none⟩) T.rs.length c2, .slice (some ⟨b3, o3, none⟩) T.ys.length c3] lo0 (.slice ao (rowsTx T i).length co) vr (rowsTx T i) ((r.map fixT).take k))
      case atStart => exact ⟨0, _, Nat.zero_le _, rfl, rfl, rfl, HC0.out⟩
      case round =>
        clear HC0
        obtain ⟨k, vr, hkr, rfl, rfl, rfl, hC⟩ := hrel
        have HCC := Lib.hid hC
        clear hC
        have ca2 := cell_blk HCC.out.cell 2
        have ca3 := cell_blk HCC.out.cell 3
        have la := blk_lt HCC.out.cell
        have hcu := (HCC.out.below.cell (p := ⟨b2, o2 + i, none⟩) (World.block_lt_of_cell? w _ HCU.out)).trans HCU.out
        have hlu := World.block_lt_of_cell? wr _ hcu
        by_cases hk1 : k < r.length
        · have hk1i : (k : Int) < r.length := by omega
          have hk0i : (0 : Int) ≤ k := by omega
          obtain ⟨x, hx⟩ : ∃ x, r[k]? = some x := ⟨_, List.getElem?_eq_getElem hk1⟩
          have hxb := valB_iff.1 (List.all_eq_true.1 HRW.out.2.2 x (List.mem_of_getElem? hx))
          obtain ⟨bq, oq, hbq, hcx0⟩ := HFR.out k x hx
          injection hbq with hbq
          injection hbq with hbq1 hbq2 _
          subst hbq1
          subst hbq2
          have hcx := (HCC.out.below.cell (p := ⟨b4, o4 + k, none⟩) (World.block_lt_of_cell? w _ hcx0)).trans hcx0
          have hlx := World.block_lt_of_cell? wr _ hcx
          have HTK := Lib.hid (show (r.map fixT).take (k + 1) = (r.map fixT).take k ++ [fixT x] by rw [List.take_add_one]; simp [hx])
          have htl : ((r.map fixT).take k).length = k := by simp; omega
          clear hcx0 hx
          go_wp2_with fail
          refine (HF.out _ HCC.out.below x (by omega) (by omega)).mono ?_
          rintro e w2 ⟨rfl, hB2⟩
          have HCN := Lib.hid (HCC.out.next hB2)
          have hcu2 := (hB2.cell (p := ⟨b2, o2 + i, none⟩) hlu).trans hcu
          clear hB2 HCC hcu hcx ca2 ca3
          go_wp2_with (at_builtin; refine wpList_append_own _ rfl _ _ 24 rfl lo0 9 iS (.string ByteArray.empty) 1 16 Tryz.underlying24 hi hz0 hz1 hz2 rfl (by decide) _ _ _ rfl (HCN.out.row.alloc _) ⟨w2.heap.size, 0, none⟩ 1 1 [.string ⟨(fixT x).toArray⟩] rfl rfl ?p1 ?q1 ?r1 ?s1 ?t1 ?_)
          try (case p1 => exact news_one)
          case q1 => first | (intro u hu; simp at hu; subst hu; rfl) | rfl
          case r1 => unfold maxLen; omega
          case s1 => omega
          case t1 => have := HCN.out.hi; simp; omega
          intro v3 w3 hown3 hg3 _
          have HC3 := Lib.hid ((HCN.out.next ((Below.refl _ _).alloc (Nat.le_refl _) (.cells #[.string ⟨(fixT x).toArray⟩] 9))).app (f := fixT x) hg3 (by rw [htl]; exact hown3))
          clear hown3 hg3 HCN
          go_wp2_with fail
          go_roundg (r.length - (k + 1))
          case measure => omega
          case rel => exact ⟨k + 1, v3, by omega, rfl, rfl, rfl, by rw [HTK.out]; exact HC3.out⟩
        · have hk2 : ¬ (k : Int) < r.length := by omega
          have HTK := Lib.hid (show (r.map fixT).take k = r.map fixT by rw [List.take_of_length_le]; simp; omega)
          have HEN := Lib.hid (show TtSt w wr #[.slice a1 T.ns.length c1, .string ⟨T.y.toArray⟩, .slice (some ⟨b2, o2, none⟩) T.rs.length c2, .slice (some ⟨b3, o3, none⟩) T.ys.length c3] lo0 (.slice ao (rowsTx T i).length co) vr (rowsTx T i) (r.map fixT) by rw [← HTK.out]; exact HCC.out)
          have hyb := valB_iff.1 HRW.out.2.1
          have hml : (r.map fixT).length = r.length := List.length_map _
          have hcy := (HEN.out.below.cell (p := ⟨b3, o3 + i, none⟩) (World.block_lt_of_cell? w _ HYV.out)).trans HYV.out
          have hly := World.block_lt_of_cell? wr _ hcy
          have hyi : i < T.ys.length := by rw [HOK.out.2.2.2.1]; exact hlt
          have hyi1 : (i : Int) < T.ys.length := by omega
          clear HTK HCC
          go_wp2_with fail
          refine (HF.out _ HEN.out.below y (by omega) (by omega)).mono ?_
          rintro e w2 ⟨rfl, hB2⟩
          have HCN := Lib.hid (HEN.out.next hB2)
          clear hB2 HEN hcu hcy ca2 ca3
          go_wp2_with (at_builtin; refine wpList_append_own _ rfl _ _ 24 rfl lo0 9 iS (.string ByteArray.empty) 1 16 Tryz.underlying24 hi hz0 hz1 hz2 rfl (by decide) _ _ _ rfl (HCN.out.row.alloc _) ⟨w2.heap.size, 0, none⟩ 1 1 [.string ⟨(fixT y).toArray⟩] rfl rfl ?p2 ?q2 ?r2 ?s2 ?t2 ?_)
          try (case p2 => exact news_one)
          case q2 => first | (intro u hu; simp at hu; subst hu; rfl) | rfl
          case r2 => unfold maxLen; omega
          case s2 => omega
          case t2 => have := HCN.out.hi; simp; omega
          intro v3 w3 hown3 hg3 _
          have HC3 := Lib.hid ((HCN.out.next ((Below.refl _ _).alloc (Nat.le_refl _) (.cells #[.string ⟨(fixT y).toArray⟩] 9))).app (f := fixT y) hg3 (by rw [hml]; exact hown3))
          clear hown3 hg3 HCN
          obtain ⟨av, cv, hv3⟩ := owns_form HC3.out.row
          rw [show (r.map fixT ++ [fixT y]).length = r.length + 1 by simp] at hv3
          subst hv3
          obtain ⟨vs, hvo, hvr, hvl⟩ := HC3.out.out
          have hvo1 := hvo
          rw [hrl] at hvo1
          go_wp2_with (at_builtin; refine wpList_append_own _ rfl _ _ 49 rfl w.heap.size 24 iL (.slice none 0 0) 1 24 Tryz.underlying49 hj hy0 hy1 hy2 rfl (by decide) _ _ _ rfl (hvo1.alloc _) ⟨w3.heap.size, 0, none⟩ 1 1 [.slice av (r.length + 1) cv] rfl rfl ?p3 ?q3 ?r3 ?s3 ?t3 ?_)
          try (case p3 => exact news_one)
          case q3 => first | (intro u hu; simp at hu; subst hu; rfl) | rfl
          case r3 => unfold maxLen; omega
          case s3 => omega
          case t3 => have := HC3.out.below.size; simp; omega
          intro v4 w4 hown4 hg4 _
          have hAl : Below w3.heap.size w3 (w3.alloc (.cells #[.slice av (r.length + 1) cv] 24)) := (Below.refl _ _).alloc (Nat.le_refl _) _
          have HO := Lib.hid ((HC3.out.next hAl).push (hvo.alloc _) (hvr.below hAl) hvl (by rw [hrl]; exact hg4) (by rw [hrl]; exact hown4))
          clear hown4 hg4 hAl HC3 hvo hvo1 hvr hvl
          go_wp2_with fail
          go_roundg (T.rs.length - (i + 1))
          case measure => omega
          case rel => exact ⟨i + 1, v4, by omega, rfl, rfl, rfl, by rw [HRS.out]; exact HO.out⟩
    · have hin : i = T.rs.length := by omega
      subst hin
      have hlt2 : ¬ ((T.rs.length : Int) < T.rs.length) := by omega
      have hall := rowsTx_all HOK2.out (Nat.le_refl _)
      have hlen := tabT_len HOK2.out
      have hrl := rowsTx_length T T.rs.length
      have HCR := Lib.hid (HO.out.out.row (by omega) (fun row hrw => by have := (hall row hrw).1; omega))
      have HAL : Hid (∀ r ∈ rowsTx T T.rs.length, r.length ≤ 16777216 ∧ ∀ p ∈ r, p.length ≤ 16777216) := Lib.hid (fun r hr => ⟨by have := (hall r hr).1; omega, fun p hp => by have := (hall r hr).2 p hp; omega⟩)
      clear hall
      go_wp2_with fail
      refine (HCT.out wr vo (rowsTx T T.rs.length) HO.out.below HCR.out (by omega) (by omega) HAL.out).mono ?_
      rintro e w2 ⟨rfl, hB2⟩
      go_wp2_with fail
      go_ret
      exact ⟨rfl, HO.out.below.trans (hB2.mono HO.out.below.size)⟩
/-- WHAT impl.TableText ANSWERS. -/
theorem implTabText9 (W : World) (m : Int) (hm : W.cell? ⟨4, 0, none⟩ = some (.int .i64 m)) (hL : Lib.TabIs Tryz.prog W "internal/strconv.uint64pow10" .u64 Lib.pow10Tab ∧ 1 < W.heap.size) (w : World) (hB : Below W.heap.size W w) (T : Tab) (u1 u2 u3 : Value) (h : TabRow w T u1 u2 u3) (hl : T.ns.length ≤ 1048576) (hyl : T.y.length ≤ 9223372036854775807) (hnl : ∀ p ∈ T.ns, p.length ≤ 9223372036854775807) :
    Calls Tryz.prog 8 #[.agg #[u1, .string ⟨T.y.toArray⟩, u2, u3]] w fun e w' => e = .returned (.string ⟨(tabT T).toArray⟩) ∧ Below w.heap.size w w' := by
  have h0 := h
  obtain ⟨p1, p2, p3⟩ := h0
  obtain ⟨a1, c1, rfl, _, _⟩ := sRow_cells p1
  obtain ⟨a2, c2, rfl, _, _⟩ := iiRow_cells p2
  obtain ⟨a3, c3, rfl, _, _⟩ := intRow_form p3
  unfold tabT
  by_cases hk : okT T = true
  · rw [if_pos hk]
    exact implTabText_ok T a1 a2 a3 c1 c2 c3 w m (maxLen_keep hm hB) ⟨tabIs_below hL.1 hB gPow hL.2, Nat.lt_of_lt_of_le hL.2 hB.size⟩ h hl hyl hnl (Lib.hid hk)
  · rw [if_neg hk]
    exact implTabText_no T a1 a2 a3 c1 c2 c3 w h hl hyl hnl (Lib.hid (by simpa using hk))
end Go.Proofs.YticeagjonfifbaaGreatDoor
