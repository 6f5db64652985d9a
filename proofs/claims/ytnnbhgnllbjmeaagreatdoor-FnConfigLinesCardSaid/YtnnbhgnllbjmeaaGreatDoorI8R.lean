/-
  The reading of settings, the program's way: signs, a rate, a key's value.
-/
import Derived.Test.YtnnbhgnllbjmeaaGreatDoorI8C
namespace Go.Proofs.YtnnbhgnllbjmeaaGreatDoor
open Go.RowKit

theorem partsG (l : List UInt8) (c : UInt8) (w : World) (hl : l.length ≤ 1048576) (h : Lib8 w) :
    Calls Tryz.prog 33 #[.string ⟨l.toArray⟩, .int .u8 (c.toNat : Int)] w fun e w' => ∃ v, e = .returned v ∧ w'.ownsRow w.heap.size 9 1 v (partsL c l).length (strCells (partsL c l)) ∧ Below w.heap.size w w' := by
  obtain ⟨m, hm⟩ := h.mx
  exact implParts ⟨l.toArray⟩ c m w (by simpa [ByteArray.size] using hl) hm
/-- What reading signs answers. -/
def SgG (B : Nat) (l : List UInt8) (e : Ending) (w' : World) : Prop :=
  (∃ s v, signsV l = some s ∧ e = .returned (.tuple #[v, .bool true]) ∧ w'.ownsRow B 3 1 v s.length (intCells s)) ∨ (signsV l = none ∧ e = .returned (.tuple #[.slice none 0 0, .bool false]))
set_option maxRecDepth 100000 in
set_option maxHeartbeats 4000000 in
theorem readSignsG (l : List UInt8) (hl : l.length ≤ 1048576) (w : World) (hL : Lib8 w) :
    Calls Tryz.prog 76 #[.string ⟨l.toArray⟩] w fun e w' => SgG w.heap.size l e w' ∧ Below w.heap.size w w' := by
  obtain ⟨iI, hi, hz0, hz1, hz2⟩ := info_parts infoInt
  go_enter Tryz.func76, Tryz.ntmps76
  go_wp2_with fail
  refine (partsG l 44 _ hl hL).mono ?_
  rintro e w1 ⟨v, rfl, hown1, hB1⟩
  obtain ⟨ps, hps⟩ : ∃ ps, partsL 44 l = ps := ⟨_, rfl⟩
  have hpp := parts_pos (c := 44) l
  rw [hps] at hown1 hpp
  obtain ⟨gg, cap, rfl⟩ := Joins.ownsRow_form hown1 hpp
  have HPS := Lib.hid hps
  have HB1 := Lib.hid hB1
  have HWD := Lib.hid hown1
  clear hown1 hps hB1
  by_cases hq4 : 4 < ps.length
  · have hq : (4 : Int) < ps.length := by omega
    have HV : Hid (signsV l = none) := Lib.hid (by rw [signsV, HPS.out, if_pos hq4])
    clear hq4
    go_wp2_with fail
    go_ret2
    exact ⟨Or.inr ⟨HV.out, rfl⟩, HB1.out⟩
  · have hq : ¬ (4 : Int) < ps.length := by omega
    have HV : Hid (signsV l = sgnsV ps) := Lib.hid (by rw [signsV, HPS.out, if_neg hq4])
    have H0 := Lib.hid (And.intro (World.ownsRow_made (base := w.heap.size) (e := 3) (size := 1) w1 #[] 0 HB1.out.size (by unfold maxLen; omega) (by simp)) (And.intro (HWD.out.alloc (.cells #[] 3)) (bt HB1.out (below_al w1 (.cells #[] 3)))))
    clear HWD HB1
    go_wp2_with fail
    go_loopw [5, 16] (fun v i wr => ∃ (j : Nat) (zs : List Int), j ≤ ps.length ∧ i = .int .i64 j ∧ sgnsV (ps.take j) = some zs ∧ wr.ownsRow w.heap.size 3 1 v zs.length (intCells zs) ∧ wr.ownsRow w.heap.size 9 1 (.slice (some ⟨gg, 0, none⟩) ps.length cap) ps.length (strCells ps) ∧ Below w.heap.size w wr) (fun _ i _ => ps.length - (intOf i).toNat)
    case atStart => exact ⟨0, [], Nat.zero_le _, rfl, rfl, H0.out.1, H0.out.2.1, H0.out.2.2⟩
    case round =>
      clear H0
      obtain ⟨j, zs, hj, rfl, hzs, hown, hwd, hB⟩ := hrel
      have HZS := Lib.hid hzs
      clear hzs
      by_cases hlt : j < ps.length
      · have hj1 : (j : Int) < ps.length := by omega
        have hj0 : (0 : Int) ≤ j := by omega
        obtain ⟨p, hp⟩ : ∃ p, ps[j]? = some p := ⟨_, List.getElem?_eq_getElem hlt⟩
        have hcj : wr.cell? ⟨gg, j, none⟩ = some (.string ⟨p.toArray⟩) := by
          have h := hwd.cellAt j (by omega)
          simpa [strCells, hp] using h
        have hlj := World.block_lt_of_cell? wr _ hcj
        have HP := Lib.hid hp
        have hzl : zs.length ≤ 4 := by have := (sgnsV_ok HZS.out).1; rw [List.length_take] at this; omega
        clear hp
        by_cases h43 : p = [43]
        · subst h43
          have HVV : Hid (sgnsV (ps.take (j + 1)) = some (zs ++ [1])) := Lib.hid (by rw [List.take_add_one, HP.out]; exact sgnsV_snoc HZS.out rfl)
          go_wp2_with (at_builtin; refine wpList_append_own _ rfl _ _ 24 rfl w.heap.size 3 iI (.int .i64 0) 1 8 Tryz.underlying24 hi hz0 hz1 hz2 rfl (by decide) _ _ _ rfl (hown.alloc (.cells #[.int .i64 (1)] 3)) ⟨wr.heap.size, 0, none⟩ 1 1 [.int .i64 (1)] rfl rfl news_one (by intro y hy; simp at hy; subst hy; rfl) ?a1 ?b1 ?c1 ?_)
          case a1 => unfold maxLen; omega
          case b1 => omega
          case c1 => have := hB.size; simp; omega
          intro v' w7 hown1 hg1 _
          have hR := Lib.hid (int_row hown1)
          have hBB := Lib.hid ((hB.alloc hB.size (.cells #[.int .i64 (1)] 3)).grown hg1 (by have := hB.size; simp; omega) (fun q hq => (hown.lt q hq).1))
          have hWW := Lib.hid (owns_keep (hwd.alloc (.cells #[.int .i64 (1)] 3)) (hown.alloc (.cells #[.int .i64 (1)] 3)) (by decide) hg1)
          clear hown1 hg1 hown hB hwd
          go_wp2_with fail
          go_roundw
          case rel => exact ⟨j + 1, zs ++ [1], by omega, by go_num, HVV.out, hR.out, hWW.out, hBB.out⟩
          case measure => simp [intOf]; omega
        · have n43 : (p == [43]) = false := beq_eq_false_iff_ne.2 h43
          by_cases h48 : p = [48]
          · subst h48
            have HVV : Hid (sgnsV (ps.take (j + 1)) = some (zs ++ [0])) := Lib.hid (by rw [List.take_add_one, HP.out]; exact sgnsV_snoc HZS.out rfl)
            go_wp2_with (at_builtin; refine wpList_append_own _ rfl _ _ 24 rfl w.heap.size 3 iI (.int .i64 0) 1 8 Tryz.underlying24 hi hz0 hz1 hz2 rfl (by decide) _ _ _ rfl (hown.alloc (.cells #[.int .i64 (0)] 3)) ⟨wr.heap.size, 0, none⟩ 1 1 [.int .i64 (0)] rfl rfl news_one (by intro y hy; simp at hy; subst hy; rfl) ?a2 ?b2 ?c2 ?_)
            case a2 => unfold maxLen; omega
            case b2 => omega
            case c2 => have := hB.size; simp; omega
            intro v' w7 hown1 hg1 _
            have hR := Lib.hid (int_row hown1)
            have hBB := Lib.hid ((hB.alloc hB.size (.cells #[.int .i64 (0)] 3)).grown hg1 (by have := hB.size; simp; omega) (fun q hq => (hown.lt q hq).1))
            have hWW := Lib.hid (owns_keep (hwd.alloc (.cells #[.int .i64 (0)] 3)) (hown.alloc (.cells #[.int .i64 (0)] 3)) (by decide) hg1)
            clear hown1 hg1 hown hB hwd
            go_wp2_with fail
            go_roundw
            case rel => exact ⟨j + 1, zs ++ [0], by omega, by go_num, HVV.out, hR.out, hWW.out, hBB.out⟩
            case measure => simp [intOf]; omega
          · have n48 : (p == [48]) = false := beq_eq_false_iff_ne.2 h48
            by_cases h45 : p = [45]
            · subst h45
              have HVV : Hid (sgnsV (ps.take (j + 1)) = some (zs ++ [-1])) := Lib.hid (by rw [List.take_add_one, HP.out]; exact sgnsV_snoc HZS.out rfl)
              go_wp2_with (at_builtin; refine wpList_append_own _ rfl _ _ 24 rfl w.heap.size 3 iI (.int .i64 0) 1 8 Tryz.underlying24 hi hz0 hz1 hz2 rfl (by decide) _ _ _ rfl (hown.alloc (.cells #[.int .i64 (-1)] 3)) ⟨wr.heap.size, 0, none⟩ 1 1 [.int .i64 (-1)] rfl rfl news_one (by intro y hy; simp at hy; subst hy; rfl) ?a3 ?b3 ?c3 ?_)
              case a3 => unfold maxLen; omega
              case b3 => omega
              case c3 => have := hB.size; simp; omega
              intro v' w7 hown1 hg1 _
              have hR := Lib.hid (int_row hown1)
              have hBB := Lib.hid ((hB.alloc hB.size (.cells #[.int .i64 (-1)] 3)).grown hg1 (by have := hB.size; simp; omega) (fun q hq => (hown.lt q hq).1))
              have hWW := Lib.hid (owns_keep (hwd.alloc (.cells #[.int .i64 (-1)] 3)) (hown.alloc (.cells #[.int .i64 (-1)] 3)) (by decide) hg1)
              clear hown1 hg1 hown hB hwd
              go_wp2_with fail
              go_roundw
              case rel => exact ⟨j + 1, zs ++ [-1], by omega, by go_num, HVV.out, hR.out, hWW.out, hBB.out⟩
              case measure => simp [intOf]; omega
            · have n45 : (p == [45]) = false := beq_eq_false_iff_ne.2 h45
              have HN : Hid (signsV l = none) := Lib.hid (by rw [HV.out]; exact sgnsV_bad (List.mem_of_getElem? HP.out) (by rw [sgnV, if_neg h43, if_neg h48, if_neg h45]))
              clear h43 h48 h45
              go_wp2_with fail
              go_ret2
              exact ⟨Or.inr ⟨HN.out, rfl⟩, hB⟩
      · have hje : j = ps.length := by omega
        have hj1 : ¬ (j : Int) < ps.length := by omega
        have HN : Hid (signsV l = some zs) := Lib.hid (by
          rw [HV.out]
          have h := HZS.out
          rwa [List.take_of_length_le (by omega)] at h)
        clear hje
        go_wp2_with fail
        go_ret2
        exact ⟨Or.inl ⟨zs, _, HN.out, rfl, hown⟩, hB⟩
theorem cut_lens (c : UInt8) (l : List UInt8) : (Lib.cut l [c]).1.length ≤ l.length ∧ (Lib.cut l [c]).2.1.length ≤ l.length := by
  rcases cut_point c l with ⟨_, h⟩ | ⟨a, b, rfl, _, h⟩
  · rw [h]; simp
  · rw [h]; simp; omega
theorem rdZ_of {l a b : List UInt8} {p : Bool} (h : Lib.cut l [47] = (a, b, p)) : rdZ l = if numB a = true ∧ numB b = true then (numZ a, numZ b, true) else (0, 0, false) := by
  unfold rdZ numB numZ
  rw [h]
  simp only
  cases numV a <;> cases numV b <;> simp
theorem ret_rate {x y : Int × Int × Bool} (h : x = y) : Ending.returned (.tuple #[.int .i64 x.1, .int .i64 x.2.1, .bool x.2.2]) = .returned (.tuple #[.int .i64 y.1, .int .i64 y.2.1, .bool y.2.2]) := by rw [h]
set_option maxRecDepth 100000 in
theorem readRate_a (l a b : List UInt8) (p : Bool) (hl : l.length ≤ 1048576) (hc : Lib.cut l [47] = (a, b, p)) (ha : numB a = false) (w : World) (hL : Lib8 w) :
    Calls Tryz.prog 75 #[.string ⟨l.toArray⟩] w fun e w' => e = .returned (.tuple #[.int .i64 ((0, 0, false) : Int × Int × Bool).1, .int .i64 ((0, 0, false) : Int × Int × Bool).2.1, .bool ((0, 0, false) : Int × Int × Bool).2.2]) ∧ Below w.heap.size w w' := by
  have hab := cut_lens 47 l
  rw [hc] at hab
  have HC := Lib.hid (cutG 47 l a b p hc hl w hL)
  have HA := Lib.hid (fun w1 (h : Below w.heap.size w w1) => numberG a (by have := hab.1; simp at this; omega) w1 (hL.mono h))
  have HB := Lib.hid (fun w1 (h : Below w.heap.size w w1) => numberG b (by have := hab.2; simp at this; omega) w1 (hL.mono h))
  have Ha := Lib.hid ha
  clear hab hc ha hL hl
  go_enter Tryz.func75, Tryz.ntmps75
  go_wp2_with fail
  refine HC.out.mono ?_
  rintro e w1 ⟨rfl, hB1⟩
  have H1 := Lib.hid hB1
  clear hB1
  go_wp2_with fail
  refine (HA.out _ H1.out).mono ?_
  rintro e w2 ⟨rfl, hB2⟩
  rw [Ha.out]
  have H2 := Lib.hid (bt H1.out hB2)
  clear hB2 H1
  go_wp2_with fail
  refine (HB.out _ H2.out).mono ?_
  rintro e w3 ⟨rfl, hB3⟩
  have H3 := Lib.hid (bt H2.out hB3)
  clear hB3 H2
  go_wp2_with fail
  go_ret3
  exact ⟨rfl, H3.out⟩
set_option maxRecDepth 100000 in
theorem readRate_b (l a b : List UInt8) (p : Bool) (hl : l.length ≤ 1048576) (hc : Lib.cut l [47] = (a, b, p)) (ha : numB a = true) (hb : numB b = false) (w : World) (hL : Lib8 w) :
    Calls Tryz.prog 75 #[.string ⟨l.toArray⟩] w fun e w' => e = .returned (.tuple #[.int .i64 ((0, 0, false) : Int × Int × Bool).1, .int .i64 ((0, 0, false) : Int × Int × Bool).2.1, .bool ((0, 0, false) : Int × Int × Bool).2.2]) ∧ Below w.heap.size w w' := by
  have hab := cut_lens 47 l
  rw [hc] at hab
  have HC := Lib.hid (cutG 47 l a b p hc hl w hL)
  have HA := Lib.hid (fun w1 (h : Below w.heap.size w w1) => numberG a (by have := hab.1; simp at this; omega) w1 (hL.mono h))
  have HB := Lib.hid (fun w1 (h : Below w.heap.size w w1) => numberG b (by have := hab.2; simp at this; omega) w1 (hL.mono h))
  have Ha := Lib.hid ha
  have Hb := Lib.hid hb
  clear hab hc ha hb hL hl
  go_enter Tryz.func75, Tryz.ntmps75
  go_wp2_with fail
  refine HC.out.mono ?_
  rintro e w1 ⟨rfl, hB1⟩
  have H1 := Lib.hid hB1
  clear hB1
  go_wp2_with fail
  refine (HA.out _ H1.out).mono ?_
  rintro e w2 ⟨rfl, hB2⟩
  rw [Ha.out]
  have H2 := Lib.hid (bt H1.out hB2)
  clear hB2 H1
  go_wp2_with fail
  refine (HB.out _ H2.out).mono ?_
  rintro e w3 ⟨rfl, hB3⟩
  rw [Hb.out]
  have H3 := Lib.hid (bt H2.out hB3)
  clear hB3 H2
  go_wp2_with fail
  go_ret3
  exact ⟨rfl, H3.out⟩
set_option maxRecDepth 100000 in
theorem readRate_c (l a b : List UInt8) (p : Bool) (hl : l.length ≤ 1048576) (hc : Lib.cut l [47] = (a, b, p)) (ha : numB a = true) (hb : numB b = true) (w : World) (hL : Lib8 w) :
    Calls Tryz.prog 75 #[.string ⟨l.toArray⟩] w fun e w' => e = .returned (.tuple #[.int .i64 ((numZ a, numZ b, true) : Int × Int × Bool).1, .int .i64 ((numZ a, numZ b, true) : Int × Int × Bool).2.1, .bool ((numZ a, numZ b, true) : Int × Int × Bool).2.2]) ∧ Below w.heap.size w w' := by
  have hab := cut_lens 47 l
  rw [hc] at hab
  have HC := Lib.hid (cutG 47 l a b p hc hl w hL)
  have HA := Lib.hid (fun w1 (h : Below w.heap.size w w1) => numberG a (by have := hab.1; simp at this; omega) w1 (hL.mono h))
  have HB := Lib.hid (fun w1 (h : Below w.heap.size w w1) => numberG b (by have := hab.2; simp at this; omega) w1 (hL.mono h))
  have Ha := Lib.hid ha
  have Hb := Lib.hid hb
  clear hab hc ha hb hL hl
  go_enter Tryz.func75, Tryz.ntmps75
  go_wp2_with fail
  refine HC.out.mono ?_
  rintro e w1 ⟨rfl, hB1⟩
  have H1 := Lib.hid hB1
  clear hB1
  go_wp2_with fail
  refine (HA.out _ H1.out).mono ?_
  rintro e w2 ⟨rfl, hB2⟩
  rw [Ha.out]
  have H2 := Lib.hid (bt H1.out hB2)
  clear hB2 H1
  go_wp2_with fail
  refine (HB.out _ H2.out).mono ?_
  rintro e w3 ⟨rfl, hB3⟩
  rw [Hb.out]
  have H3 := Lib.hid (bt H2.out hB3)
  clear hB3 H2
  go_wp2_with fail
  go_ret3
  exact ⟨rfl, H3.out⟩
theorem readRateG (l : List UInt8) (hl : l.length ≤ 1048576) (w : World) (hL : Lib8 w) :
    Calls Tryz.prog 75 #[.string ⟨l.toArray⟩] w fun e w' => e = .returned (.tuple #[.int .i64 (rdZ l).1, .int .i64 (rdZ l).2.1, .bool (rdZ l).2.2]) ∧ Below w.heap.size w w' := by
  obtain ⟨a, b, p, hc⟩ : ∃ a b p, Lib.cut l [47] = (a, b, p) := ⟨_, _, _, rfl⟩
  have hr := rdZ_of hc
  cases ha : numB a with
  | false =>
    rw [if_neg (by rw [ha]; simp)] at hr
    exact (readRate_a l a b p hl hc ha w hL).mono fun e w' ⟨he, hB⟩ => ⟨he.trans (ret_rate hr.symm), hB⟩
  | true =>
    cases hb : numB b with
    | false =>
      rw [if_neg (by rw [hb]; simp)] at hr
      exact (readRate_b l a b p hl hc ha hb w hL).mono fun e w' ⟨he, hB⟩ => ⟨he.trans (ret_rate hr.symm), hB⟩
    | true =>
      rw [if_pos ⟨ha, hb⟩] at hr
      exact (readRate_c l a b p hl hc ha hb w hL).mono fun e w' ⟨he, hB⟩ => ⟨he.trans (ret_rate hr.symm), hB⟩
/-- What the reading of a value answers. -/
def VlG (W w : World) (cb ub : Nat) (D : Cfg) (mt : List Nat) (k : Nat) (l : List UInt8) (e : Ending) (w' : World) : Prop :=
  ∃ c E u, rawV D k l = (c, E) ∧ e = .returned (.int .i64 (c : Nat)) ∧ RdS W w' cb ub E u mt ∧ Only cb ub w w'
set_option maxRecDepth 100000 in
theorem readValue_0t (W w : World) (cb ub : Nat) (D : Cfg) (v : Value) (mt : List Nat) (l : List UInt8) (hl : l.length ≤ 1048576) (h : RdS W w cb ub D v mt) (hL : Lib8 w) (hb : numB l = true) :
    Calls Tryz.prog 60 #[.pointer (some ⟨cb, 0, none⟩), .string ⟨#[114, 111, 117, 110, 100, 115]⟩, .string ⟨l.toArray⟩] w fun e w' => VlG W w cb ub D mt 0 l e w' := by
  have HR : Hid (rawV D 0 l = (0, setC 0 (numZ l) D)) := Lib.hid (by rw [rawV, if_neg (by decide), if_neg (by decide), hb]; rfl)
  have HN := Lib.hid (numberG l hl w hL)
  have HS := Lib.hid h
  have Hb := Lib.hid hb
  clear h hL hb hl
  go_enter Tryz.func60, Tryz.ntmps60
  go_wp2_with fail
  refine (numberAt_0 _ _).mono ?_
  rintro e w1 ⟨rfl, rfl⟩
  go_wp2_with fail
  refine HN.out.mono ?_
  rintro e w2 ⟨rfl, hB2⟩
  rw [Hb.out]
  have H2 := Lib.hid (HS.out.next hB2)
  have HO := Lib.hid (Only.of_below (cb := cb) (ub := ub) hB2)
  clear hB2 HS HN
  have ca := cell_blk H2.out.box 0
  have fa := free_blk H2.out.box 0
  have la := blk_lt H2.out.box
  obtain ⟨z, hz⟩ : ∃ z, numZ l = z := ⟨_, rfl⟩
  rw [hz] at HR ⊢
  clear hz
  go_wp2_with fail
  go_ret
  exact ⟨0, _, v, HR.out, rfl, H2.out.put (by rfl) H2.out.own, HO.out.trans (Only.put cb ub _ _ _)⟩
set_option maxRecDepth 100000 in
theorem readValue_0f (W w : World) (cb ub : Nat) (D : Cfg) (v : Value) (mt : List Nat) (l : List UInt8) (hl : l.length ≤ 1048576) (h : RdS W w cb ub D v mt) (hL : Lib8 w) (hb : numB l = false) :
    Calls Tryz.prog 60 #[.pointer (some ⟨cb, 0, none⟩), .string ⟨#[114, 111, 117, 110, 100, 115]⟩, .string ⟨l.toArray⟩] w fun e w' => VlG W w cb ub D mt 0 l e w' := by
  have HR : Hid (rawV D 0 l = (12, setC 0 (numZ l) D)) := Lib.hid (by rw [rawV, if_neg (by decide), if_neg (by decide), hb]; rfl)
  have HN := Lib.hid (numberG l hl w hL)
  have HS := Lib.hid h
  have Hb := Lib.hid hb
  clear h hL hb hl
  go_enter Tryz.func60, Tryz.ntmps60
  go_wp2_with fail
  refine (numberAt_0 _ _).mono ?_
  rintro e w1 ⟨rfl, rfl⟩
  go_wp2_with fail
  refine HN.out.mono ?_
  rintro e w2 ⟨rfl, hB2⟩
  rw [Hb.out]
  have H2 := Lib.hid (HS.out.next hB2)
  have HO := Lib.hid (Only.of_below (cb := cb) (ub := ub) hB2)
  clear hB2 HS HN
  have ca := cell_blk H2.out.box 0
  have fa := free_blk H2.out.box 0
  have la := blk_lt H2.out.box
  obtain ⟨z, hz⟩ : ∃ z, numZ l = z := ⟨_, rfl⟩
  rw [hz] at HR ⊢
  clear hz
  go_wp2_with fail
  go_ret
  exact ⟨12, _, v, HR.out, rfl, H2.out.put (by rfl) H2.out.own, HO.out.trans (Only.put cb ub _ _ _)⟩
set_option maxRecDepth 100000 in
theorem readValue_1t (W w : World) (cb ub : Nat) (D : Cfg) (v : Value) (mt : List Nat) (l : List UInt8) (hl : l.length ≤ 1048576) (h : RdS W w cb ub D v mt) (hL : Lib8 w) (hb : numB l = true) :
    Calls Tryz.prog 60 #[.pointer (some ⟨cb, 0, none⟩), .string ⟨#[100, 101, 112, 116, 104]⟩, .string ⟨l.toArray⟩] w fun e w' => VlG W w cb ub D mt 1 l e w' := by
  have HR : Hid (rawV D 1 l = (0, setC 1 (numZ l) D)) := Lib.hid (by rw [rawV, if_neg (by decide), if_neg (by decide), hb]; rfl)
  have HN := Lib.hid (numberG l hl w hL)
  have HS := Lib.hid h
  have Hb := Lib.hid hb
  clear h hL hb hl
  go_enter Tryz.func60, Tryz.ntmps60
  go_wp2_with fail
  refine (numberAt_1 _ _).mono ?_
  rintro e w1 ⟨rfl, rfl⟩
  go_wp2_with fail
  refine HN.out.mono ?_
  rintro e w2 ⟨rfl, hB2⟩
  rw [Hb.out]
  have H2 := Lib.hid (HS.out.next hB2)
  have HO := Lib.hid (Only.of_below (cb := cb) (ub := ub) hB2)
  clear hB2 HS HN
  have ca := cell_blk H2.out.box 1
  have fa := free_blk H2.out.box 1
  have la := blk_lt H2.out.box
  obtain ⟨z, hz⟩ : ∃ z, numZ l = z := ⟨_, rfl⟩
  rw [hz] at HR ⊢
  clear hz
  go_wp2_with fail
  go_ret
  exact ⟨0, _, v, HR.out, rfl, H2.out.put (by rfl) H2.out.own, HO.out.trans (Only.put cb ub _ _ _)⟩
set_option maxRecDepth 100000 in
theorem readValue_1f (W w : World) (cb ub : Nat) (D : Cfg) (v : Value) (mt : List Nat) (l : List UInt8) (hl : l.length ≤ 1048576) (h : RdS W w cb ub D v mt) (hL : Lib8 w) (hb : numB l = false) :
    Calls Tryz.prog 60 #[.pointer (some ⟨cb, 0, none⟩), .string ⟨#[100, 101, 112, 116, 104]⟩, .string ⟨l.toArray⟩] w fun e w' => VlG W w cb ub D mt 1 l e w' := by
  have HR : Hid (rawV D 1 l = (12, setC 1 (numZ l) D)) := Lib.hid (by rw [rawV, if_neg (by decide), if_neg (by decide), hb]; rfl)
  have HN := Lib.hid (numberG l hl w hL)
  have HS := Lib.hid h
  have Hb := Lib.hid hb
  clear h hL hb hl
  go_enter Tryz.func60, Tryz.ntmps60
  go_wp2_with fail
  refine (numberAt_1 _ _).mono ?_
  rintro e w1 ⟨rfl, rfl⟩
  go_wp2_with fail
  refine HN.out.mono ?_
  rintro e w2 ⟨rfl, hB2⟩
  rw [Hb.out]
  have H2 := Lib.hid (HS.out.next hB2)
  have HO := Lib.hid (Only.of_below (cb := cb) (ub := ub) hB2)
  clear hB2 HS HN
  have ca := cell_blk H2.out.box 1
  have fa := free_blk H2.out.box 1
  have la := blk_lt H2.out.box
  obtain ⟨z, hz⟩ : ∃ z, numZ l = z := ⟨_, rfl⟩
  rw [hz] at HR ⊢
  clear hz
  go_wp2_with fail
  go_ret
  exact ⟨12, _, v, HR.out, rfl, H2.out.put (by rfl) H2.out.own, HO.out.trans (Only.put cb ub _ _ _)⟩
set_option maxRecDepth 100000 in
theorem readValue_2t (W w : World) (cb ub : Nat) (D : Cfg) (v : Value) (mt : List Nat) (l : List UInt8) (hl : l.length ≤ 1048576) (h : RdS W w cb ub D v mt) (hL : Lib8 w) (hb : numB l = true) :
    Calls Tryz.prog 60 #[.pointer (some ⟨cb, 0, none⟩), .string ⟨#[98, 105, 110, 115]⟩, .string ⟨l.toArray⟩] w fun e w' => VlG W w cb ub D mt 2 l e w' := by
  have HR : Hid (rawV D 2 l = (0, setC 2 (numZ l) D)) := Lib.hid (by rw [rawV, if_neg (by decide), if_neg (by decide), hb]; rfl)
  have HN := Lib.hid (numberG l hl w hL)
  have HS := Lib.hid h
  have Hb := Lib.hid hb
  clear h hL hb hl
  go_enter Tryz.func60, Tryz.ntmps60
  go_wp2_with fail
  refine (numberAt_2 _ _).mono ?_
  rintro e w1 ⟨rfl, rfl⟩
  go_wp2_with fail
  refine HN.out.mono ?_
  rintro e w2 ⟨rfl, hB2⟩
  rw [Hb.out]
  have H2 := Lib.hid (HS.out.next hB2)
  have HO := Lib.hid (Only.of_below (cb := cb) (ub := ub) hB2)
  clear hB2 HS HN
  have ca := cell_blk H2.out.box 2
  have fa := free_blk H2.out.box 2
  have la := blk_lt H2.out.box
  obtain ⟨z, hz⟩ : ∃ z, numZ l = z := ⟨_, rfl⟩
  rw [hz] at HR ⊢
  clear hz
  go_wp2_with fail
  go_ret
  exact ⟨0, _, v, HR.out, rfl, H2.out.put (by rfl) H2.out.own, HO.out.trans (Only.put cb ub _ _ _)⟩
set_option maxRecDepth 100000 in
theorem readValue_2f (W w : World) (cb ub : Nat) (D : Cfg) (v : Value) (mt : List Nat) (l : List UInt8) (hl : l.length ≤ 1048576) (h : RdS W w cb ub D v mt) (hL : Lib8 w) (hb : numB l = false) :
    Calls Tryz.prog 60 #[.pointer (some ⟨cb, 0, none⟩), .string ⟨#[98, 105, 110, 115]⟩, .string ⟨l.toArray⟩] w fun e w' => VlG W w cb ub D mt 2 l e w' := by
  have HR : Hid (rawV D 2 l = (12, setC 2 (numZ l) D)) := Lib.hid (by rw [rawV, if_neg (by decide), if_neg (by decide), hb]; rfl)
  have HN := Lib.hid (numberG l hl w hL)
  have HS := Lib.hid h
  have Hb := Lib.hid hb
  clear h hL hb hl
  go_enter Tryz.func60, Tryz.ntmps60
  go_wp2_with fail
  refine (numberAt_2 _ _).mono ?_
  rintro e w1 ⟨rfl, rfl⟩
  go_wp2_with fail
  refine HN.out.mono ?_
  rintro e w2 ⟨rfl, hB2⟩
  rw [Hb.out]
  have H2 := Lib.hid (HS.out.next hB2)
  have HO := Lib.hid (Only.of_below (cb := cb) (ub := ub) hB2)
  clear hB2 HS HN
  have ca := cell_blk H2.out.box 2
  have fa := free_blk H2.out.box 2
  have la := blk_lt H2.out.box
  obtain ⟨z, hz⟩ : ∃ z, numZ l = z := ⟨_, rfl⟩
  rw [hz] at HR ⊢
  clear hz
  go_wp2_with fail
  go_ret
  exact ⟨12, _, v, HR.out, rfl, H2.out.put (by rfl) H2.out.own, HO.out.trans (Only.put cb ub _ _ _)⟩
set_option maxRecDepth 100000 in
theorem readValue_3t (W w : World) (cb ub : Nat) (D : Cfg) (v : Value) (mt : List Nat) (l : List UInt8) (hl : l.length ≤ 1048576) (h : RdS W w cb ub D v mt) (hL : Lib8 w) (hb : numB l = true) :
    Calls Tryz.prog 60 #[.pointer (some ⟨cb, 0, none⟩), .string ⟨#[108, 97, 109, 98, 100, 97]⟩, .string ⟨l.toArray⟩] w fun e w' => VlG W w cb ub D mt 3 l e w' := by
  have HR : Hid (rawV D 3 l = (0, setC 3 (numZ l) D)) := Lib.hid (by rw [rawV, if_neg (by decide), if_neg (by decide), hb]; rfl)
  have HN := Lib.hid (numberG l hl w hL)
  have HS := Lib.hid h
  have Hb := Lib.hid hb
  clear h hL hb hl
  go_enter Tryz.func60, Tryz.ntmps60
  go_wp2_with fail
  refine (numberAt_3 _ _).mono ?_
  rintro e w1 ⟨rfl, rfl⟩
  go_wp2_with fail
  refine HN.out.mono ?_
  rintro e w2 ⟨rfl, hB2⟩
  rw [Hb.out]
  have H2 := Lib.hid (HS.out.next hB2)
  have HO := Lib.hid (Only.of_below (cb := cb) (ub := ub) hB2)
  clear hB2 HS HN
  have ca := cell_blk H2.out.box 3
  have fa := free_blk H2.out.box 3
  have la := blk_lt H2.out.box
  obtain ⟨z, hz⟩ : ∃ z, numZ l = z := ⟨_, rfl⟩
  rw [hz] at HR ⊢
  clear hz
  go_wp2_with fail
  go_ret
  exact ⟨0, _, v, HR.out, rfl, H2.out.put (by rfl) H2.out.own, HO.out.trans (Only.put cb ub _ _ _)⟩
set_option maxRecDepth 100000 in
theorem readValue_3f (W w : World) (cb ub : Nat) (D : Cfg) (v : Value) (mt : List Nat) (l : List UInt8) (hl : l.length ≤ 1048576) (h : RdS W w cb ub D v mt) (hL : Lib8 w) (hb : numB l = false) :
    Calls Tryz.prog 60 #[.pointer (some ⟨cb, 0, none⟩), .string ⟨#[108, 97, 109, 98, 100, 97]⟩, .string ⟨l.toArray⟩] w fun e w' => VlG W w cb ub D mt 3 l e w' := by
  have HR : Hid (rawV D 3 l = (12, setC 3 (numZ l) D)) := Lib.hid (by rw [rawV, if_neg (by decide), if_neg (by decide), hb]; rfl)
  have HN := Lib.hid (numberG l hl w hL)
  have HS := Lib.hid h
  have Hb := Lib.hid hb
  clear h hL hb hl
  go_enter Tryz.func60, Tryz.ntmps60
  go_wp2_with fail
  refine (numberAt_3 _ _).mono ?_
  rintro e w1 ⟨rfl, rfl⟩
  go_wp2_with fail
  refine HN.out.mono ?_
  rintro e w2 ⟨rfl, hB2⟩
  rw [Hb.out]
  have H2 := Lib.hid (HS.out.next hB2)
  have HO := Lib.hid (Only.of_below (cb := cb) (ub := ub) hB2)
  clear hB2 HS HN
  have ca := cell_blk H2.out.box 3
  have fa := free_blk H2.out.box 3
  have la := blk_lt H2.out.box
  obtain ⟨z, hz⟩ : ∃ z, numZ l = z := ⟨_, rfl⟩
  rw [hz] at HR ⊢
  clear hz
  go_wp2_with fail
  go_ret
  exact ⟨12, _, v, HR.out, rfl, H2.out.put (by rfl) H2.out.own, HO.out.trans (Only.put cb ub _ _ _)⟩
set_option maxRecDepth 100000 in
theorem readValue_4t (W w : World) (cb ub : Nat) (D : Cfg) (v : Value) (mt : List Nat) (l : List UInt8) (hl : l.length ≤ 1048576) (h : RdS W w cb ub D v mt) (hL : Lib8 w) (hb : numB l = true) :
    Calls Tryz.prog 60 #[.pointer (some ⟨cb, 0, none⟩), .string ⟨#[114, 111, 119, 115]⟩, .string ⟨l.toArray⟩] w fun e w' => VlG W w cb ub D mt 4 l e w' := by
  have HR : Hid (rawV D 4 l = (0, setC 4 (numZ l) D)) := Lib.hid (by rw [rawV, if_neg (by decide), if_neg (by decide), hb]; rfl)
  have HN := Lib.hid (numberG l hl w hL)
  have HS := Lib.hid h
  have Hb := Lib.hid hb
  clear h hL hb hl
  go_enter Tryz.func60, Tryz.ntmps60
  go_wp2_with fail
  refine (numberAt_4 _ _).mono ?_
  rintro e w1 ⟨rfl, rfl⟩
  go_wp2_with fail
  refine HN.out.mono ?_
  rintro e w2 ⟨rfl, hB2⟩
  rw [Hb.out]
  have H2 := Lib.hid (HS.out.next hB2)
  have HO := Lib.hid (Only.of_below (cb := cb) (ub := ub) hB2)
  clear hB2 HS HN
  have ca := cell_blk H2.out.box 4
  have fa := free_blk H2.out.box 4
  have la := blk_lt H2.out.box
  obtain ⟨z, hz⟩ : ∃ z, numZ l = z := ⟨_, rfl⟩
  rw [hz] at HR ⊢
  clear hz
  go_wp2_with fail
  go_ret
  exact ⟨0, _, v, HR.out, rfl, H2.out.put (by rfl) H2.out.own, HO.out.trans (Only.put cb ub _ _ _)⟩
set_option maxRecDepth 100000 in
theorem readValue_4f (W w : World) (cb ub : Nat) (D : Cfg) (v : Value) (mt : List Nat) (l : List UInt8) (hl : l.length ≤ 1048576) (h : RdS W w cb ub D v mt) (hL : Lib8 w) (hb : numB l = false) :
    Calls Tryz.prog 60 #[.pointer (some ⟨cb, 0, none⟩), .string ⟨#[114, 111, 119, 115]⟩, .string ⟨l.toArray⟩] w fun e w' => VlG W w cb ub D mt 4 l e w' := by
  have HR : Hid (rawV D 4 l = (12, setC 4 (numZ l) D)) := Lib.hid (by rw [rawV, if_neg (by decide), if_neg (by decide), hb]; rfl)
  have HN := Lib.hid (numberG l hl w hL)
  have HS := Lib.hid h
  have Hb := Lib.hid hb
  clear h hL hb hl
  go_enter Tryz.func60, Tryz.ntmps60
  go_wp2_with fail
  refine (numberAt_4 _ _).mono ?_
  rintro e w1 ⟨rfl, rfl⟩
  go_wp2_with fail
  refine HN.out.mono ?_
  rintro e w2 ⟨rfl, hB2⟩
  rw [Hb.out]
  have H2 := Lib.hid (HS.out.next hB2)
  have HO := Lib.hid (Only.of_below (cb := cb) (ub := ub) hB2)
  clear hB2 HS HN
  have ca := cell_blk H2.out.box 4
  have fa := free_blk H2.out.box 4
  have la := blk_lt H2.out.box
  obtain ⟨z, hz⟩ : ∃ z, numZ l = z := ⟨_, rfl⟩
  rw [hz] at HR ⊢
  clear hz
  go_wp2_with fail
  go_ret
  exact ⟨12, _, v, HR.out, rfl, H2.out.put (by rfl) H2.out.own, HO.out.trans (Only.put cb ub _ _ _)⟩
set_option maxRecDepth 100000 in
theorem readValue_5t (W w : World) (cb ub : Nat) (D : Cfg) (v : Value) (mt : List Nat) (l : List UInt8) (hl : l.length ≤ 1048576) (h : RdS W w cb ub D v mt) (hL : Lib8 w) (n d : Int) (hr : rdZ l = (n, d, true)) :
    Calls Tryz.prog 60 #[.pointer (some ⟨cb, 0, none⟩), .string ⟨#[114, 97, 116, 101]⟩, .string ⟨l.toArray⟩] w fun e w' => VlG W w cb ub D mt 5 l e w' := by
  have HR : Hid (rawV D 5 l = (0, { D with n := n, e := d })) := Lib.hid (by rw [rawV, if_neg (by decide), if_pos rfl, hr]; rfl)
  have HN := readRateG l hl w hL
  rw [hr] at HN
  replace HN := Lib.hid HN
  have HS := Lib.hid h
  clear h hL hr hl
  go_enter Tryz.func60, Tryz.ntmps60
  go_wp2_with fail
  refine HN.out.mono ?_
  rintro e w2 ⟨rfl, hB2⟩
  have H2 := Lib.hid (HS.out.next hB2)
  have HO := Lib.hid (Only.of_below (cb := cb) (ub := ub) hB2)
  clear hB2 HS HN
  have ca5 := cell_blk H2.out.box 5
  have fa5 := free_blk H2.out.box 5
  have ca6 := cell_blk H2.out.box 6
  have fa6 := free_blk H2.out.box 6
  have la := blk_lt H2.out.box
  go_wp2_with fail
  go_ret
  have h5 : RdS W (w2.setCell ⟨cb, 5, none⟩ (.int .i64 n)) cb ub { D with n := n } v mt := H2.out.put (by rfl) H2.out.own
  exact ⟨0, _, v, HR.out, rfl, h5.put (by rfl) h5.own, (HO.out.trans (Only.put cb ub _ _ _)).trans (Only.put cb ub _ _ _)⟩
set_option maxRecDepth 100000 in
theorem readValue_5f (W w : World) (cb ub : Nat) (D : Cfg) (v : Value) (mt : List Nat) (l : List UInt8) (hl : l.length ≤ 1048576) (h : RdS W w cb ub D v mt) (hL : Lib8 w) (n d : Int) (hr : rdZ l = (n, d, false)) :
    Calls Tryz.prog 60 #[.pointer (some ⟨cb, 0, none⟩), .string ⟨#[114, 97, 116, 101]⟩, .string ⟨l.toArray⟩] w fun e w' => VlG W w cb ub D mt 5 l e w' := by
  have HR : Hid (rawV D 5 l = (12, { D with n := n, e := d })) := Lib.hid (by rw [rawV, if_neg (by decide), if_pos rfl, hr]; rfl)
  have HN := readRateG l hl w hL
  rw [hr] at HN
  replace HN := Lib.hid HN
  have HS := Lib.hid h
  clear h hL hr hl
  go_enter Tryz.func60, Tryz.ntmps60
  go_wp2_with fail
  refine HN.out.mono ?_
  rintro e w2 ⟨rfl, hB2⟩
  have H2 := Lib.hid (HS.out.next hB2)
  have HO := Lib.hid (Only.of_below (cb := cb) (ub := ub) hB2)
  clear hB2 HS HN
  have ca5 := cell_blk H2.out.box 5
  have fa5 := free_blk H2.out.box 5
  have ca6 := cell_blk H2.out.box 6
  have fa6 := free_blk H2.out.box 6
  have la := blk_lt H2.out.box
  go_wp2_with fail
  go_ret
  have h5 : RdS W (w2.setCell ⟨cb, 5, none⟩ (.int .i64 n)) cb ub { D with n := n } v mt := H2.out.put (by rfl) H2.out.own
  exact ⟨12, _, v, HR.out, rfl, h5.put (by rfl) h5.own, (HO.out.trans (Only.put cb ub _ _ _)).trans (Only.put cb ub _ _ _)⟩
set_option maxRecDepth 100000 in
theorem readValue_6 (W w : World) (hWs : W.heap.size ≤ w.heap.size) (cb ub : Nat) (D : Cfg) (v : Value) (mt : List Nat) (l : List UInt8) (hl : l.length ≤ 1048576) (h : RdS W w cb ub D v mt) (hL : Lib8 w) :
    Calls Tryz.prog 60 #[.pointer (some ⟨cb, 0, none⟩), .string ⟨#[115, 105, 103, 110, 115]⟩, .string ⟨l.toArray⟩] w fun e w' => VlG W w cb ub D mt 6 l e w' := by
  have HN := Lib.hid (readSignsG l hl w hL)
  have HS := Lib.hid h
  clear h hL hl
  go_enter Tryz.func60, Tryz.ntmps60
  go_wp2_with fail
  refine HN.out.mono ?_
  rintro e w2 ⟨hsg, hB2⟩
  have H2 := Lib.hid (HS.out.next hB2)
  have HO := Lib.hid (Only.of_below (cb := cb) (ub := ub) hB2)
  clear hB2 HN
  have ca7 := cell_blk H2.out.box 7
  have fa7 := free_blk H2.out.box 7
  have la := blk_lt H2.out.box
  rcases hsg with ⟨s, u, hs, rfl, hu⟩ | ⟨hs, rfl⟩
  · have HR : Hid (rawV D 6 l = (0, { D with s := s })) := Lib.hid (by rw [rawV, if_pos rfl, hs])
    obtain ⟨ua, uc, rfl⟩ := ownsI_form hu
    have HU := Lib.hid (World.ownsRow.mono hu hWs)
    clear hu hs HS
    go_wp2_with fail
    go_ret
    exact ⟨0, _, _, HR.out, rfl, H2.out.put (by rfl) HU.out, HO.out.trans (Only.put cb ub _ _ _)⟩
  · have HR : Hid (rawV D 6 l = (14, { D with s := [] })) := Lib.hid (by rw [rawV, if_pos rfl, hs])
    clear hs HS
    go_wp2_with fail
    go_ret
    exact ⟨14, _, _, HR.out, rfl, H2.out.put (by rfl) ⟨rfl, Or.inl ⟨rfl, rfl⟩⟩, HO.out.trans (Only.put cb ub _ _ _)⟩
theorem readValueG (k : Nat) (hk : k < 7) (W w : World) (hWs : W.heap.size ≤ w.heap.size) (cb ub : Nat) (D : Cfg) (v : Value) (mt : List Nat) (l : List UInt8) (hl : l.length ≤ 1048576) (h : RdS W w cb ub D v mt) (hL : Lib8 w) :
    Calls Tryz.prog 60 #[.pointer (some ⟨cb, 0, none⟩), .string ⟨(wordL k).toArray⟩, .string ⟨l.toArray⟩] w fun e w' => VlG W w cb ub D mt k l e w' := by
  rcases (by omega : k = 0 ∨ k = 1 ∨ k = 2 ∨ k = 3 ∨ k = 4 ∨ k = 5 ∨ k = 6) with rfl | rfl | rfl | rfl | rfl | rfl | rfl
  · cases hb : numB l with
    | true => exact readValue_0t W w cb ub D v mt l hl h hL hb
    | false => exact readValue_0f W w cb ub D v mt l hl h hL hb
  · cases hb : numB l with
    | true => exact readValue_1t W w cb ub D v mt l hl h hL hb
    | false => exact readValue_1f W w cb ub D v mt l hl h hL hb
  · cases hb : numB l with
    | true => exact readValue_2t W w cb ub D v mt l hl h hL hb
    | false => exact readValue_2f W w cb ub D v mt l hl h hL hb
  · cases hb : numB l with
    | true => exact readValue_3t W w cb ub D v mt l hl h hL hb
    | false => exact readValue_3f W w cb ub D v mt l hl h hL hb
  · cases hb : numB l with
    | true => exact readValue_4t W w cb ub D v mt l hl h hL hb
    | false => exact readValue_4f W w cb ub D v mt l hl h hL hb
  · obtain ⟨n, d, b, hr⟩ : ∃ n d b, rdZ l = (n, d, b) := ⟨_, _, _, rfl⟩
    cases b with
    | true => exact readValue_5t W w cb ub D v mt l hl h hL n d hr
    | false => exact readValue_5f W w cb ub D v mt l hl h hL n d hr
  · exact readValue_6 W w hWs cb ub D v mt l hl h hL
end Go.Proofs.YtnnbhgnllbjmeaaGreatDoor
