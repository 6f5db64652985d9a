/-
  The fault that an error carries; the decimals in the fields of a row: the program's way.
-/
import Derived.Test.YticeagjonfifbaaGreatDoorI9A
import Derived.Test.YticeagjonfifbaaGreatDoorTabW
import Derived.Test.YticeagjonfifbaaGreatDoorPk6
namespace Go.Proofs.YticeagjonfifbaaGreatDoor
open Go.RowKit

/-- The handle of the type error, as the library's variable holds it. -/
def HandleAt (w : World) : Prop := w.cell? ⟨0, 0, none⟩ = some (.iface 153 (.agg #[.pointer (some ⟨9, 53, none⟩)]))
theorem HandleAt.below {w w' : World} (h : HandleAt w) (hB : Below w.heap.size w w') : HandleAt w' := (hB.cell (World.block_lt_of_cell? w _ h)).trans h
set_option maxRecDepth 100000 in
set_option maxHeartbeats 1000000 in
theorem faultOf_nil9 (w : World) :
    Calls Tryz.prog 36 #[.nilIface] w fun e w' => e = .returned (.agg #[.int .i64 0, .int .i64 0, .int .i64 0]) ∧ Below w.heap.size w w' := by
  have hA := bt (bl_al w (.cells #[.int .i64 0, .int .i64 0, .int .i64 0] 33)) (bl_al _ (.cells #[.int .i64 0, .int .i64 0, .int .i64 0] 99))
  go_enter Tryz.func36, Tryz.ntmps36
  go_wp2_with fail
  refine (as_nil9 _ _).mono ?_
  rintro e w1 ⟨rfl, rfl⟩
  go_wp2_with fail
  refine bodyPost_ret (v := .agg #[.int .i64 0, .int .i64 0, .int .i64 0]) ?_ rfl ⟨rfl, ?_⟩
  · rw [results_oneF rfl]
    go_simp
  · first | exact hA | (refine Below.setCell (Below.setCell (Below.setCell hA (Nat.le_refl _) _) (Nat.le_refl _) _) (Nat.le_refl _) _) | exact bt (bl_al w _) (bl_al _ _)
set_option maxRecDepth 100000 in
set_option maxHeartbeats 1000000 in
theorem faultOf_some9 (c a k : Int) (w : World) (hg : HandleAt w) :
    Calls Tryz.prog 36 #[.iface 99 (.agg #[.int .i64 c, .int .i64 a, .int .i64 k])] w fun e w' => e = .returned (.agg #[.int .i64 c, .int .i64 a, .int .i64 k]) ∧ Below w.heap.size w w' := by
  have hA := bt (bl_al w (.cells #[.int .i64 0, .int .i64 0, .int .i64 0] 33)) (bl_al _ (.cells #[.int .i64 0, .int .i64 0, .int .i64 0] 99))
  have x0 := blk_al (alloc_blk w #[.int .i64 0, .int .i64 0, .int .i64 0] 33) (.cells #[.int .i64 0, .int .i64 0, .int .i64 0] 99)
  have x1 := alloc_blk (w.alloc (.cells #[.int .i64 0, .int .i64 0, .int .i64 0] 33)) #[.int .i64 0, .int .i64 0, .int .i64 0] 99
  rw [sz_alloc] at x1
  have HK := Lib.hid (as_hit9 c a k (w.heap.size + 1) _ _ _ ((w.alloc (.cells #[.int .i64 0, .int .i64 0, .int .i64 0] 33)).alloc (.cells #[.int .i64 0, .int .i64 0, .int .i64 0] 99)) (hg.below hA) x1)
  clear x1 hg
  go_enter Tryz.func36, Tryz.ntmps36
  go_wp2_with fail
  refine HK.out.mono ?_
  rintro e w1 ⟨rfl, hx, hB⟩
  have y0 := (hB.block _ (Nat.lt_succ_self _)).trans x0
  have HBB := Lib.hid (hA.trans (hB.mono (Nat.le_succ _)))
  have p0 := cell_blk y0 0
  have p1 := cell_blk y0 1
  have p2 := cell_blk y0 2
  have f0 := free_blk y0 0
  have f1 := free_blk y0 1
  have f2 := free_blk y0 2
  have lp := blk_lt y0
  have q0 := cell_blk hx 0
  have q1 := cell_blk hx 1
  have q2 := cell_blk hx 2
  have lq := blk_lt hx
  clear hA x0 hB
  go_wp2_with fail
  refine bodyPost_ret (v := .agg #[.int .i64 c, .int .i64 a, .int .i64 k]) ?_ rfl ⟨rfl, ?_⟩
  · rw [results_oneF rfl]
    go_simp
  · exact ((HBB.out.setCell (Nat.le_refl _) _).setCell (Nat.le_refl _) _).setCell (Nat.le_refl _) _
/-- THE FAULT THAT AN ERROR CARRIES. -/
theorem faultOf9 (c a k : Nat) (h0 : c = 0 → a = 0 ∧ k = 0) (w : World) (hg : HandleAt w) :
    Calls Tryz.prog 36 #[errV9 c a k] w fun e w' => e = .returned (.agg #[.int .i64 (c : Nat), .int .i64 (a : Nat), .int .i64 (k : Nat)]) ∧ Below w.heap.size w w' := by
  by_cases hc : c = 0
  · obtain ⟨rfl, rfl⟩ := h0 hc
    subst hc
    exact faultOf_nil9 w
  · rw [errV9_some hc]
    exact faultOf_some9 c a k w hg
/-- What the reading of a row's fields answers: w's size is the base. -/
def RnP (w : World) (row : Nat) (e : Ending) (w' : World) : List Int ⊕ Nat → Prop
  | .inl xs => ∃ v, e = .returned (.tuple #[v, .nilIface]) ∧ w'.ownsRow w.heap.size 3 1 v xs.length (intCells xs)
  | .inr k => e = .returned (.tuple #[.slice none 0 0, .iface 99 (.agg #[.int .i64 9, .int .i64 row, .int .i64 k])])
theorem rnP_ok {w w' : World} {row : Nat} {F : List Int ⊕ Nat} {xs : List Int} {v : Value} (h : F = .inl xs) (ho : w'.ownsRow w.heap.size 3 1 v xs.length (intCells xs)) : RnP w row (.returned (.tuple #[v, .nilIface])) w' F := by
  rw [h]
  exact ⟨v, rfl, ho⟩
theorem rnP_no {w w' : World} {row k : Nat} {F : List Int ⊕ Nat} (h : F = .inr k) : RnP w row (.returned (.tuple #[.slice none 0 0, .iface 99 (.agg #[.int .i64 9, .int .i64 row, .int .i64 k])])) w' F := by
  rw [h]
  rfl
set_option maxRecDepth 100000 in
theorem readNum_width9 (a : Option Addr) (m c row n : Nat) (hm : ¬ m = n) (w : World) :
    Calls Tryz.prog 89 #[.slice a m c, .int .i64 row, .int .i64 n] w fun e w' => e = .returned (.tuple #[.slice none 0 0, .iface 99 (.agg #[.int .i64 4, .int .i64 row, .int .i64 0])]) ∧ Below w.heap.size w w' := by
  have h1 : ¬ (m : Int) = n := by omega
  have h2 : ((m : Int) == (n : Int)) = false := beq_eq_false_iff_ne.2 h1
  go_enter Tryz.func89, Tryz.ntmps89
  go_wp2_with fail
  go_ret2
  exact ⟨rfl, Below.refl _ _⟩
set_option maxRecDepth 100000 in
set_option maxHeartbeats 2000000 in
theorem readNum9 (W : World) (hL : Lib6 W) (v : Value) (r : List (List UInt8)) (row : Nat) (w : World) (hBW : Below W.heap.size W w) (h : StrRow w v r) (hr : r.length ≤ 1048576) (hnl : ∀ p ∈ r, p.length ≤ 1048576) :
    Calls Tryz.prog 89 #[v, .int .i64 row, .int .i64 r.length] w fun e w' => RnP w row e w' (fldsG r 0 []) ∧ Below w.heap.size w w' := by
  obtain ⟨iI, gi, gz0, gz1, gz2⟩ := info_parts infoInt
  obtain ⟨a, c, rfl, hl, hf⟩ := sRow_cells h
  have HF := Lib.hid hf
  have HNL := Lib.hid hnl
  have HRF : Hid (∀ wz, Below W.heap.size W wz → ∀ p : List UInt8, p.length ≤ 1048576 → Calls Tryz.prog 114 #[.string ⟨p.toArray⟩] wz fun e w' => e = rfE p ∧ Below wz.heap.size wz w') := Lib.hid (fun wz hB p hp => readFixB W hL wz hB ⟨p.toArray⟩ (by rw [Lib.size_eq]; exact hp))
  obtain ⟨G, hG⟩ : ∃ G, fldsG r 0 [] = G := ⟨_, rfl⟩
  obtain ⟨n, hn⟩ : ∃ n : Nat, r.length = n := ⟨_, rfl⟩
  rw [hn] at hr ⊢
  rw [hG]
  have HN := Lib.hid hn
  have HG := Lib.hid hG
  have HBW := Lib.hid hBW
  have hO0 : (w.alloc (.cells #[] 3)).ownsRow w.heap.size 3 1 (.slice (some ⟨w.heap.size, 0, none⟩) 0 0) 0 [] := World.ownsRow_made w #[] 0 (Nat.le_refl _) (by unfold maxLen; omega) (by simp)
  have HO0 := Lib.hid hO0
  have HB0 := Lib.hid (bl_al w (.cells #[] 3))
  clear hf hnl hL hn hG hBW h hl hO0
  go_enter Tryz.func89, Tryz.ntmps89
  go_wp2_with fail
  go_loopg [8, 9, 10, 11, 12, 24] n (fun g v_ _ _ _ _ k_ wr => ∃ (k : Nat) (acc : List Int) (vr : Value), k ≤ n ∧ g = n - k ∧ k_ = .int .i64 k ∧ vr = v_ ∧ acc.length = k ∧ fldsG (r.drop k) k acc = G ∧ wr.ownsRow w.heap.size 3 1 vr acc.length (intCells acc) ∧ Below w.heap.size w wr)
  case atStart => exact ⟨0, [], _, Nat.zero_le _, rfl, rfl, rfl, rfl, HG.out, HO0.out, HB0.out⟩
  case round =>
    clear HO0 HB0
    obtain ⟨k, acc, vr, hk9, rfl, rfl, rfl, hal, hfg, hO, hB⟩ := hrel
    have HO := Lib.hid hO
    have HB := Lib.hid hB
    have HFG := Lib.hid hfg
    have HAL := Lib.hid hal
    clear hO hB hfg hal
    by_cases hk : k < n
    · have hk1 : (k : Int) < n := by omega
      have hk0 : (0 : Int) ≤ k := by omega
      obtain ⟨f, hfk⟩ : ∃ f, r[k]? = some f := ⟨_, List.getElem?_eq_getElem (by rw [HN.out]; exact hk)⟩
      obtain ⟨b, o, rfl, hcf0⟩ := HF.out k f hfk
      have hcf := (HB.out.cell (World.block_lt_of_cell? w _ hcf0)).trans hcf0
      have hlf := World.block_lt_of_cell? wr _ hcf
      have hfl := HNL.out f (List.mem_of_getElem? hfk)
      have hdk : r.drop k = f :: r.drop (k + 1) := by
        rw [List.drop_eq_getElem_cons (show k < r.length by rw [HN.out]; exact hk)]
        congr 1
        exact (List.getElem?_eq_some_iff.1 hfk).2
      have HFG2 : Hid (fldsG (f :: r.drop (k + 1)) k acc = G) := Lib.hid (by rw [← hdk]; exact HFG.out)
      have HRD := Lib.hid (HRF.out wr (bt HBW.out HB.out) f hfl)
      clear hfk hcf0 hdk HFG
      cases hv : rdV f with
      | none =>
        have HE := Lib.hid (HRD.out.mono (R' := fun e w' => e = .returned (.tuple #[.int .i64 0, .bool false]) ∧ Below wr.heap.size wr w') (fun e w' ⟨he, hB⟩ => ⟨by rw [he, rfE, hv], hB⟩))
        have HF9 : Hid (G = .inr k) := Lib.hid (by
          have h1 := HFG2.out
          rw [fldsG, hv] at h1
          exact h1.symm)
        clear hv HFG2 HRD
        go_wp2_with fail
        refine HE.out.mono ?_
        rintro e w5 ⟨rfl, hB5⟩
        go_wp2_with fail
        go_ret2
        exact ⟨rnP_no HF9.out, bt HB.out hB5⟩
      | some x =>
        have HE := Lib.hid (HRD.out.mono (R' := fun e w' => e = .returned (.tuple #[.int .i64 x, .bool true]) ∧ Below wr.heap.size wr w') (fun e w' ⟨he, hB⟩ => ⟨by rw [he, rfE, hv], hB⟩))
        have HFG3 : Hid (fldsG (r.drop (k + 1)) (k + 1) (acc ++ [x]) = G) := Lib.hid (by
          have h1 := HFG2.out
          rw [fldsG, hv] at h1
          exact h1)
        clear hv HFG2 HRD
        go_wp2_with fail
        refine HE.out.mono ?_
        rintro e w5 ⟨rfl, hB5⟩
        have hO5 := owns_bl HO.out hB5
        have HB5 := Lib.hid (bt HB.out hB5)
        rw [HAL.out] at hO5
        clear hB5 hcf hlf
        go_wp2_with (at_builtin; refine wpList_append_own _ rfl _ _ 26 rfl w.heap.size 3 iI (.int .i64 0) 1 8 Tryz.underlying26 gi gz0 gz1 gz2 rfl (by decide) _ _ _ rfl (hO5.alloc _) ⟨w5.heap.size, 0, none⟩ 1 1 [.int .i64 x] rfl rfl ?p1 ?q1 ?r1 ?s1 ?t1 ?_)
        try (case p1 => exact news_one)
        case q1 => first | (intro u hu; simp at hu; subst hu; rfl) | rfl
        case r1 => unfold maxLen; omega
        case s1 => omega
        case t1 => have := HB5.out.size; simp; omega
        intro v6 w6 hown6 hg6 _
        have HB6 := Lib.hid ((HB5.out.alloc HB5.out.size (.cells #[.int .i64 x] 3)).grown hg6 (by have := HB5.out.size; simp; omega) (fun q hq => (hO5.lt q hq).1))
        have HO6 : Hid (w6.ownsRow w.heap.size 3 1 v6 (acc ++ [x]).length (intCells (acc ++ [x]))) := Lib.hid (int_row9 (by rw [HAL.out]; exact hown6))
        clear hown6 hg6 hO5 HB5
        go_wp2_with fail
        go_roundg (n - (k + 1))
        case measure => omega
        case rel => exact ⟨k + 1, acc ++ [x], v6, by omega, rfl, by go_num, rfl, by rw [List.length_append, HAL.out]; rfl, HFG3.out, HO6.out, HB6.out⟩
    · have hk1 : ¬ (k : Int) < n := by omega
      have hke : k = n := by omega
      have HACC : Hid (G = .inl acc) := Lib.hid (by
        have h := HFG.out
        rw [List.drop_eq_nil_of_le (by rw [HN.out]; omega)] at h
        exact h.symm)
      clear HFG hke
      go_wp2_with fail
      go_ret2
      exact ⟨rnP_ok HACC.out HO.out, HB.out⟩
end Go.Proofs.YticeagjonfifbaaGreatDoor
