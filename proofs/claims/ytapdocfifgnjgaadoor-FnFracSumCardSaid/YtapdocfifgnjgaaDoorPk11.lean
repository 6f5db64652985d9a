/-
  What the program answers about fractions is what the reference answers.
  The law on the text of a fraction.
  The laws on sums and texts of fractions.
-/
import Derived.Test.YtapdocfifgnjgaaDoorPk9
import Derived.Test.YtapdocfifgnjgaaDoorPk5
import Derived.Test.YtapdocfifgnjgaaDoorI5
import Derived.Test.YtapdocfifgnjgaaDoorPk10
import Derived.Test.YtapdocfifgnjgaaDoorPk8
import Derived.Test.YtapdocfifgnjgaaDoorI4
import Derived.Test.YtapdocfifgnjgaaDoorPk1
import Derived.Test.YtapdocfifgnjgaaDoorPk2
namespace Go.Proofs.YtapdocfifgnjgaaDoor
open Go.RowKit

set_option maxRecDepth 100000 in
set_option maxHeartbeats 1000000 in
theorem toFrac (n0 : Bool) (h0 l0 d0 : Int) (w : World) :
    Calls Tryd.prog 20 #[.agg #[.bool n0, .int .u64 h0, .int .u64 l0, .int .i64 d0]] w fun e w' => e = .returned (.agg #[.bool n0, .int .u64 h0, .int .u64 l0, .int .i64 d0]) ∧ Below w.heap.size w w' := by
  go_enter Tryd.func20, Tryd.ntmps20
  go_wp2_with fail
  refine (toWide n0 h0 l0 _).mono ?_
  rintro e w1 ⟨rfl, hB1⟩
  obtain ⟨hA, hR, hO, hBB, _⟩ := box3 hB1
  have HT := Lib.hid hBB
  clear hBB hB1
  have cA0 : w1.cell? ⟨w.heap.size, 0, none⟩ = some (.bool n0) := cell_blk hA 0
  have cA1 : w1.cell? ⟨w.heap.size, 1, none⟩ = some (.int .u64 h0) := cell_blk hA 1
  have cA2 : w1.cell? ⟨w.heap.size, 2, none⟩ = some (.int .u64 l0) := cell_blk hA 2
  have cA3 : w1.cell? ⟨w.heap.size, 3, none⟩ = some (.int .i64 d0) := cell_blk hA 3
  have lA := blkF hA
  have cR0 : w1.cell? ⟨w.heap.size + 1, 0, none⟩ = some (.bool false) := cell_blk hR 0
  have cR1 : w1.cell? ⟨w.heap.size + 1, 1, none⟩ = some (.int .u64 0) := cell_blk hR 1
  have cR2 : w1.cell? ⟨w.heap.size + 1, 2, none⟩ = some (.int .u64 0) := cell_blk hR 2
  have cR3 : w1.cell? ⟨w.heap.size + 1, 3, none⟩ = some (.int .i64 0) := cell_blk hR 3
  have fR := free_blk hR
  have lR := blkF hR
  have cO0 : w1.cell? ⟨w.heap.size + 1 + 1, 0, none⟩ = some (.bool false) := cell_blk hO 0
  have cO1 : w1.cell? ⟨w.heap.size + 1 + 1, 1, none⟩ = some (.int .u64 0) := cell_blk hO 1
  have cO2 : w1.cell? ⟨w.heap.size + 1 + 1, 2, none⟩ = some (.int .u64 0) := cell_blk hO 2
  have cO3 : w1.cell? ⟨w.heap.size + 1 + 1, 3, none⟩ = some (.int .i64 0) := cell_blk hO 3
  have fO := free_blk hO
  have lO := blkF hO
  go_wp2_with fail
  (try simp only [Exit.inBlock, Exit.then])
  refine bodyPost_ret (v := .agg #[.bool n0, .int .u64 h0, .int .u64 l0, .int .i64 d0]) ?_ rfl ⟨rfl, ?_⟩
  · rw [results_cell rfl]
    go_simp
  · repeat' (first | refine Below.setCell ?_ (by simp <;> omega) _ | exact HT.out)
theorem sqE_shape (g d : Int) : ∃ (n : Bool) (h l k : Int) (b : Bool), sqE g d = .returned (.tuple #[.agg #[.bool n, .int .u64 h, .int .u64 l, .int .i64 k], .bool b]) := by
  rw [sqE]
  split
  · exact ⟨_, _, _, _, _, rfl⟩
  · exact ⟨false, 0, 0, 0, false, rfl⟩
/-- Two boxes of fractions. -/
abbrev PairF (W : World) (A B : Nat) (n0 : Bool) (h0 l0 d0 : Int) (n1 : Bool) (h1 l1 d1 : Int) (w' : World) : Prop := w'.cell? ⟨A, 0, none⟩ = some (.bool n0) ∧ w'.cell? ⟨A, 1, none⟩ = some (.int .u64 h0) ∧ w'.cell? ⟨A, 2, none⟩ = some (.int .u64 l0) ∧ w'.cell? ⟨A, 3, none⟩ = some (.int .i64 d0) ∧ w'.cell? ⟨B, 0, none⟩ = some (.bool n1) ∧ w'.cell? ⟨B, 1, none⟩ = some (.int .u64 h1) ∧ w'.cell? ⟨B, 2, none⟩ = some (.int .u64 l1) ∧ w'.cell? ⟨B, 3, none⟩ = some (.int .i64 d1) ∧ Below W.heap.size W w'
theorem PairF.still {W : World} {A B : Nat} {n0 : Bool} {h0 l0 d0 : Int} {n1 : Bool} {h1 l1 d1 : Int} {wr w' : World} (h : PairF W A B n0 h0 l0 d0 n1 h1 l1 d1 wr) (hB : Below wr.heap.size wr w') : PairF W A B n0 h0 l0 d0 n1 h1 l1 d1 w' :=
  ⟨below_cell h.1 hB, below_cell h.2.1 hB, below_cell h.2.2.1 hB, below_cell h.2.2.2.1 hB, below_cell h.2.2.2.2.1 hB, below_cell h.2.2.2.2.2.1 hB, below_cell h.2.2.2.2.2.2.1 hB, below_cell h.2.2.2.2.2.2.2.1 hB, bt2 h.2.2.2.2.2.2.2.2 hB⟩
theorem PairF.call {f : FuncId} {args : Array Value} {W : World} {A B : Nat} {n0 : Bool} {h0 l0 d0 : Int} {n1 : Bool} {h1 l1 d1 : Int} {wr : World} {E : Ending} (h : Calls Tryd.prog f args wr fun e w' => e = E ∧ Below wr.heap.size wr w') (hS : PairF W A B n0 h0 l0 d0 n1 h1 l1 d1 wr) :
    Calls Tryd.prog f args wr fun e w' => e = E ∧ PairF W A B n0 h0 l0 d0 n1 h1 l1 d1 w' := h.mono fun _ _ k => ⟨k.1, hS.still k.2⟩
theorem PairF.drew {W : World} {A B : Nat} {n0 : Bool} {h0 l0 d0 : Int} {n1 : Bool} {h1 l1 d1 : Int} {wr : World} (h : PairF W A B n0 h0 l0 d0 n1 h1 l1 d1 wr) : PairF W A B n0 h0 l0 d0 n1 h1 l1 d1 wr.drew :=
  ⟨h.1, h.2.1, h.2.2.1, h.2.2.2.1, h.2.2.2.2.1, h.2.2.2.2.2.1, h.2.2.2.2.2.2.1, h.2.2.2.2.2.2.2.1, Below.drew h.2.2.2.2.2.2.2.2⟩
theorem PairF.start (w : World) (n0 : Bool) (h0 l0 d0 : Int) (n1 : Bool) (h1 l1 d1 : Int) (T : TypeId) : PairF w w.heap.size (w.heap.size + 1) n0 h0 l0 d0 n1 h1 l1 d1 ((w.alloc (.cells #[.bool n0, .int .u64 h0, .int .u64 l0, .int .i64 d0] T)).alloc (.cells #[.bool n1, .int .u64 h1, .int .u64 l1, .int .i64 d1] T)) := by
  obtain ⟨hA, hB, hBB, _⟩ := box2 (w := w) (a := #[.bool n0, .int .u64 h0, .int .u64 l0, .int .i64 d0]) (b := #[.bool n1, .int .u64 h1, .int .u64 l1, .int .i64 d1]) (T := T) (U := T) (Below.refl _ _)
  exact ⟨cell_blk hA 0, cell_blk hA 1, cell_blk hA 2, cell_blk hA 3, cell_blk hB 0, cell_blk hB 1, cell_blk hB 2, cell_blk hB 3, hBB⟩
theorem cmpFE_shape (n0 : Bool) (h0 l0 d0 : Int) (n1 : Bool) (h1 l1 d1 : Int) : ∃ (x : Int) (b : Bool), cmpFE n0 h0 l0 d0 n1 h1 l1 d1 = .returned (.tuple #[.int .i64 x, .bool b]) := by
  rw [cmpFE]
  split
  · exact ⟨_, _, rfl⟩
  · exact ⟨0, false, rfl⟩
end Go.Proofs.YtapdocfifgnjgaaDoor
namespace Go.Proofs.YtapdocfifgnjgaaDoor
open Go.RowKit

set_option maxRecDepth 100000 in
set_option maxHeartbeats 1000000 in
theorem drawFracText (w : World) (v : Value) (n : Nat) (hb : Bytes w v n) :
    Calls Tryd.prog 15 #[v] w fun e w' => FracOut e ∧ Below w.heap.size w w' := by
  go_enter Tryd.func15, Tryd.ntmps15
  go_wp2_with fail
  refine (l1New _ v n (hb.mono ((Below.refl _ _).alloc (Nat.le_refl _) _))).mono ?_
  rintro e w1 ⟨rfl, hc1, hB1⟩
  have hsz : (w.alloc (.cells #[.bool false, .int .u64 0, .int .u64 0, .int .i64 0] 28)).heap.size = w.heap.size + 1 := by simp
  rw [hsz] at hc1
  go_wp2_with fail
  refine (l5Frac _ _ _ hc1).mono ?_
  rintro e w2 ⟨⟨n0, h0, l0, d0, hh, hl, hd, rfl⟩, hc2, _⟩
  have hB2 := cur_below hc2
  have hR := box_kept hB2
  have HT := Lib.hid (box_below hB2)
  clear hB2 hB1 hc1 hc2
  have cR0 : w2.cell? ⟨w.heap.size, 0, none⟩ = some (.bool false) := cell_blk hR 0
  have cR1 : w2.cell? ⟨w.heap.size, 1, none⟩ = some (.int .u64 0) := cell_blk hR 1
  have cR2 : w2.cell? ⟨w.heap.size, 2, none⟩ = some (.int .u64 0) := cell_blk hR 2
  have cR3 : w2.cell? ⟨w.heap.size, 3, none⟩ = some (.int .i64 0) := cell_blk hR 3
  have fR := free_blk hR
  have lR := blkF hR
  go_wp2_with fail
  (try simp only [Exit.inBlock, Exit.then])
  refine bodyPost_ret (v := .agg #[.bool n0, .int .u64 h0, .int .u64 l0, .int .i64 d0]) ?_ rfl ⟨⟨_, _, _, _, hh, hl, hd, rfl⟩, ?_⟩
  · rw [results_cell rfl]
    go_simp
  · repeat' (first | refine Below.setCell ?_ (by simp <;> omega) _ | exact HT.out)
theorem itoa_no47 {z : Int} : ∀ x ∈ Lib.itoa z, x ≠ 47 := by
  intro x hx e
  subst e
  by_cases hz : z < 0
  · obtain ⟨u, hu⟩ : ∃ u : Nat, z = -(u : Int) := ⟨z.natAbs, by omega⟩
    subst hu
    rw [Lib.itoa_neg u (by omega)] at hx
    rcases List.mem_cons.mp hx with h | h
    · cases h
    · have := decDigits_dig u 47 h
      unfold isDig at this
      simp at this
  · obtain ⟨u, rfl⟩ := Int.eq_ofNat_of_zero_le (by omega : 0 ≤ z)
    rw [Lib.itoa_nonneg] at hx
    have := decDigits_dig u 47 hx
    unfold isDig at this
    simp at this
theorem fracT_parts {n : Bool} {h l d : Int} (k : okF n h l d = true) : partsL 47 (fracT n h l d) = [Lib.itoa (sv n (h * 18446744073709551616 + l)), Lib.itoa d] := by
  rw [fracT, if_pos k, parts_cut _ itoa_no47, parts_none itoa_no47]
theorem strEqF {l : List UInt8} {s : ByteArray} (h : l = s.data.toList) : (l == s.toList) = true := by
  rw [ByteArray.toList_eq]; simpa using h
set_option maxRecDepth 100000 in
set_option maxHeartbeats 4000000 in
theorem lawFnFracText (w : World) (v : Value) (n : Nat) (hb : Bytes w v n) (hText : ∀ (wz : World), Below w.heap.size w wz → ∀ (n0 : Bool) (h0 l0 d0 : Int), 0 ≤ h0 → h0 < 18446744073709551616 → 0 ≤ l0 → l0 < 18446744073709551616 → -9223372036854775808 ≤ d0 → d0 ≤ 9223372036854775807 → Calls Tryd.prog 14 #[.agg #[.bool n0, .int .u64 h0, .int .u64 l0, .int .i64 d0]] wz fun e w' => e = .returned (.string ⟨(fracT n0 h0 l0 d0).toArray⟩) ∧ Below wz.heap.size wz w') (hNum : ∀ (wz : World), Below w.heap.size w wz → ∀ (s : ByteArray) (d : Int), IsNum s.data.toList d → 0 ≤ d → d ≤ 999999999 → Calls Tryd.prog 19 #[.string s] wz fun e w' => e = .returned (.tuple #[.int .i64 d, .bool true]) ∧ Below wz.heap.size wz w') :
    Calls Tryd.prog 4 #[v] w fun e w' => e = .returned (.bool true) ∧ Below w.heap.size w w' := by
  by_cases hbig : 1048576 < n
  · skip
    go_enter Tryd.func4, Tryd.ntmps4
    go_wp2_with fail
    refine (big_yes w v n hb hbig).mono ?_
    rintro e w1 ⟨rfl, rfl⟩
    go_wp2_with fail
    go_ret
    exact ⟨rfl, Below.refl _ _⟩
  · skip
    go_enter Tryd.func4, Tryd.ntmps4
    go_wp2_with fail
    refine (big_no w v n hb hbig).mono ?_
    rintro e w1 ⟨rfl, rfl⟩
    go_wp2_with fail
    refine (drawFracText w v n hb).mono ?_
    rintro e w1 ⟨⟨n0, h0, l0, d0, ⟨hp0, hq0⟩, ⟨lp0, lq0⟩, ⟨dp0, dq0⟩, rfl⟩, hB1⟩
    have HT := Lib.hid hB1
    clear hB1
    obtain ⟨tx, htx⟩ : ∃ l, fracT n0 h0 l0 d0 = l := ⟨_, rfl⟩
    have HX := Lib.hid htx
    clear htx
    go_wp2_with fail
    refine (hText _ (HT.out.alloc HT.out.size _) n0 h0 l0 d0 hp0 hq0 lp0 lq0 dp0 dq0).mono ?_
    rintro e w2 ⟨rfl, hB2⟩
    rw [HX.out]
    have hA := box_kept hB2
    replace HT := Lib.hid (bt2 HT.out (box_below hB2))
    clear hB2
    have cA0 : w2.cell? ⟨w1.heap.size, 0, none⟩ = some (.bool n0) := cell_blk hA 0
    have cA1 : w2.cell? ⟨w1.heap.size, 1, none⟩ = some (.int .u64 h0) := cell_blk hA 1
    have cA2 : w2.cell? ⟨w1.heap.size, 2, none⟩ = some (.int .u64 l0) := cell_blk hA 2
    have cA3 : w2.cell? ⟨w1.heap.size, 3, none⟩ = some (.int .i64 d0) := cell_blk hA 3
    have lA := blkF hA
    go_wp2_with fail
    refine (specFracText n0 h0 l0 d0 hp0 hq0 lp0 lq0 dp0 dq0 _).mono ?_
    rintro e w3 ⟨rfl, hB3⟩
    rw [HX.out]
    replace hA := box_still hA hB3
    replace HT := Lib.hid (bt2 HT.out hB3)
    clear hB3
    clear cA0 cA1 cA2 cA3 lA
    have cA0 : w3.cell? ⟨w1.heap.size, 0, none⟩ = some (.bool n0) := cell_blk hA 0
    have cA1 : w3.cell? ⟨w1.heap.size, 1, none⟩ = some (.int .u64 h0) := cell_blk hA 1
    have cA2 : w3.cell? ⟨w1.heap.size, 2, none⟩ = some (.int .u64 l0) := cell_blk hA 2
    have cA3 : w3.cell? ⟨w1.heap.size, 3, none⟩ = some (.int .i64 d0) := cell_blk hA 3
    have lA := blkF hA
    cases hk : okF n0 h0 l0 d0 with
    | false =>
      have he : tx = [] := by rw [← HX.out, fracT, if_neg (by rw [hk]; simp)]
      have HK := Lib.hid hk
      subst he
      clear hk
      go_wp2_with fail
      refine (implFracOk n0 h0 l0 d0 hp0 hq0 lp0 lq0 dp0 dq0 _).mono ?_
      rintro e w4 ⟨rfl, hB4⟩
      rw [HK.out]
      replace HT := Lib.hid (bt2 HT.out hB4)
      clear hB4
      go_wp2_with fail
      all_goals first
        | (go_ret; exact ⟨rfl, HT.out⟩)
        | (exfalso; simp_all; done)
    | true =>
      have hne : tx ≠ [] := by rw [← HX.out, fracT, if_pos hk]; simp
      have hne2 : (tx == []) = false := by simpa using hne
      have HK := Lib.hid hk
      have hkk := okF_yes hk
      have hP := Lib.hid (fracT_parts hk)
      rw [HX.out] at hP
      have hIW : IsW (Lib.itoa (sv n0 (h0 * 18446744073709551616 + l0))) (sv n0 (h0 * 18446744073709551616 + l0)) := ⟨by have := okV_yes hkk.1; unfold RoomW; cases n0 <;> simp [sv] <;> omega, rfl⟩
      have hRd : rdE (Lib.itoa (sv n0 (h0 * 18446744073709551616 + l0))) = .returned (.tuple #[.agg #[.bool n0, .int .u64 h0, .int .u64 l0], .bool true]) := by rw [rdE_yes hIW, ← wideC_eq hp0 lp0 lq0 (okV_yes hkk.1).2 rfl]
      have HR := Lib.hid hRd
      have hIN : IsNum (Lib.itoa d0) d0 := ⟨by omega, by omega, rfl⟩
      have hlen : tx.length ≤ 100 := by
        rw [← HX.out, fracT, if_pos hk]
        have a := (isW_parts hIW).2.2.2.2.2
        have b := itoa_short hkk.2.1 hkk.2.2
        simp
        omega
      have hl0 := (isW_parts hIW).2.2.2.2.2
      clear hRd hk hne
      go_wp2_with fail
      refine (implFracOk n0 h0 l0 d0 hp0 hq0 lp0 lq0 dp0 dq0 _).mono ?_
      rintro e w4 ⟨rfl, hB4⟩
      rw [HK.out]
      replace hA := box_still hA hB4
      replace HT := Lib.hid (bt2 HT.out hB4)
      clear hB4
      clear cA0 cA1 cA2 cA3 lA
      go_wp2_with fail
      refine (specParts ⟨tx.toArray⟩ 47 _ (by simp [ByteArray.size]; omega)).mono ?_
      rintro e w5 ⟨v2, rfl, hown, hB5⟩
      rw [show (ByteArray.mk tx.toArray).data.toList = tx by simp, hP.out] at hown
      obtain ⟨gg, cap, rfl⟩ := Joins.ownsRow_form hown (by simp)
      have q0 : w5.cell? ⟨gg, 0, none⟩ = some (.string ⟨(Lib.itoa (sv n0 (h0 * 18446744073709551616 + l0))).toArray⟩) := hown.cellAt 0 (by simp)
      have q1 : w5.cell? ⟨gg, 1, none⟩ = some (.string ⟨(Lib.itoa d0).toArray⟩) := hown.cellAt 1 (by simp)
      replace hA := box_still hA hB5
      replace HT := Lib.hid (bt2 HT.out hB5)
      clear hB5
      have HQ := Lib.hid hown
      clear hown
      have lq := World.block_lt_of_cell? w5 _ q0
      go_wp2_with fail
      refine (implReadWide ⟨(Lib.itoa (sv n0 (h0 * 18446744073709551616 + l0))).toArray⟩ (by simp [ByteArray.size]; omega) _).mono ?_
      rintro e w6 ⟨rfl, hB6⟩
      rw [show (ByteArray.mk (Lib.itoa (sv n0 (h0 * 18446744073709551616 + l0))).toArray).data.toList = Lib.itoa (sv n0 (h0 * 18446744073709551616 + l0)) by simp, HR.out]
      replace hA := box_still hA hB6
      replace q1 := below_cell q1 hB6
      have lq1 := World.block_lt_of_cell? w6 _ q1
      replace HT := Lib.hid (bt2 HT.out hB6)
      clear hB6 q0 lq
      go_wp2_with fail
      refine (hNum _ (HT.out.alloc HT.out.size _) ⟨(Lib.itoa d0).toArray⟩ d0 (by simpa using hIN) (by omega) (by omega)).mono ?_
      rintro e w7 ⟨rfl, hB7⟩
      have hX := box_kept hB7
      have hBB := box_below hB7
      replace hA := box_still hA hBB
      replace HT := Lib.hid (bt2 HT.out hBB)
      clear hB7 hBB q1 lq1
      have cA0 : w7.cell? ⟨w1.heap.size, 0, none⟩ = some (.bool n0) := cell_blk hA 0
      have cA1 : w7.cell? ⟨w1.heap.size, 1, none⟩ = some (.int .u64 h0) := cell_blk hA 1
      have cA2 : w7.cell? ⟨w1.heap.size, 2, none⟩ = some (.int .u64 l0) := cell_blk hA 2
      have cA3 : w7.cell? ⟨w1.heap.size, 3, none⟩ = some (.int .i64 d0) := cell_blk hA 3
      have lA := blkF hA
      have cX0 : w7.cell? ⟨w6.heap.size, 0, none⟩ = some (.bool n0) := cell_blk hX 0
      have cX1 : w7.cell? ⟨w6.heap.size, 1, none⟩ = some (.int .u64 h0) := cell_blk hX 1
      have cX2 : w7.cell? ⟨w6.heap.size, 2, none⟩ = some (.int .u64 l0) := cell_blk hX 2
      go_wp2_with fail
      all_goals first
        | (go_ret; exact ⟨by first | rfl | simp, HT.out⟩)
        | (exfalso; simp_all; done)
end Go.Proofs.YtapdocfifgnjgaaDoor
namespace Go.Proofs.YtapdocfifgnjgaaDoor
open Go.RowKit

set_option maxRecDepth 100000 in
set_option maxHeartbeats 1000000 in
theorem lawExFracText (n0 : Bool) (h0 l0 d0 : Int) (hp0 : 0 ≤ h0) (hq0 : h0 < 18446744073709551616) (lp0 : 0 ≤ l0) (lq0 : l0 < 18446744073709551616) (dp0 : -9223372036854775808 ≤ d0) (dq0 : d0 ≤ 9223372036854775807) (w : World) (hText : ∀ (wz : World), Below w.heap.size w wz → ∀ (n0 : Bool) (h0 l0 d0 : Int), 0 ≤ h0 → h0 < 18446744073709551616 → 0 ≤ l0 → l0 < 18446744073709551616 → -9223372036854775808 ≤ d0 → d0 ≤ 9223372036854775807 → Calls Tryd.prog 14 #[.agg #[.bool n0, .int .u64 h0, .int .u64 l0, .int .i64 d0]] wz fun e w' => e = .returned (.string ⟨(fracT n0 h0 l0 d0).toArray⟩) ∧ Below wz.heap.size wz w') :
    Calls Tryd.prog 5 #[.agg #[.bool n0, .int .u64 h0, .int .u64 l0, .int .i64 d0]] w fun e w' => e = .returned (.bool true) ∧ Below w.heap.size w w' := by
  go_enter Tryd.func5, Tryd.ntmps5
  go_wp2_with fail
  refine (toFrac n0 h0 l0 d0 _).mono ?_
  rintro e w1 ⟨rfl, hB1⟩
  have hA := box_kept hB1
  have HT := Lib.hid (box_below hB1)
  clear hB1
  go_wp2_with fail
  refine (specFracText n0 h0 l0 d0 hp0 hq0 lp0 lq0 dp0 dq0 _).mono ?_
  rintro e w2 ⟨rfl, hB2⟩
  replace hA := box_still hA hB2
  replace HT := Lib.hid (bt2 HT.out hB2)
  clear hB2
  have cA0 : w2.cell? ⟨w.heap.size, 0, none⟩ = some (.bool n0) := cell_blk hA 0
  have cA1 : w2.cell? ⟨w.heap.size, 1, none⟩ = some (.int .u64 h0) := cell_blk hA 1
  have cA2 : w2.cell? ⟨w.heap.size, 2, none⟩ = some (.int .u64 l0) := cell_blk hA 2
  have cA3 : w2.cell? ⟨w.heap.size, 3, none⟩ = some (.int .i64 d0) := cell_blk hA 3
  have lA := blkF hA
  go_wp2_with fail
  refine (toFrac n0 h0 l0 d0 _).mono ?_
  rintro e w3 ⟨rfl, hB3⟩
  replace HT := Lib.hid (bt2 HT.out hB3)
  clear hB3
  go_wp2_with fail
  refine (hText _ HT.out n0 h0 l0 d0 hp0 hq0 lp0 lq0 dp0 dq0).mono ?_
  rintro e w4 ⟨rfl, hB4⟩
  replace HT := Lib.hid (bt2 HT.out hB4)
  clear hB4
  go_wp2_with fail
  all_goals first
    | (go_ret; exact ⟨rfl, HT.out⟩)
    | (exfalso; simp_all; done)
set_option maxRecDepth 100000 in
set_option maxHeartbeats 1000000 in
theorem drawSquareOver (w : World) (v : Value) (n : Nat) (hb : Bytes w v n) :
    Calls Tryd.prog 10 #[v] w fun e w' => (∃ g d : Int, (-9223372036854775808 ≤ g ∧ g ≤ 9223372036854775807) ∧ (-9223372036854775808 ≤ d ∧ d ≤ 9223372036854775807) ∧ e = .returned (.tuple #[.int .i64 g, .int .i64 d])) ∧ Below w.heap.size w w' := by
  go_enter Tryd.func10, Tryd.ntmps10
  go_wp2_with fail
  refine (l1New w v n hb).mono ?_
  rintro e w1 ⟨rfl, hc1, _⟩
  go_wp2_with fail
  refine (l1WholeG w _ _ hc1).mono ?_
  rintro e w2 ⟨⟨g, g0, g1, rfl⟩, hc2, _⟩
  have hl := hc2.lt
  go_wp2_with fail
  refine (l1PickInt w _ _ w2.heap.size 8 (by omega) (by omega) (by omega) ?_ (hc2.alloc _)).mono ?_
  · refine intList ?_ ?_
    · rfl
    · decide
  rintro e w3 ⟨⟨d, y0, y1, rfl⟩, hc3, _⟩
  go_wp2_with fail
  go_ret2
  exact ⟨⟨g, d, ⟨g0, g1⟩, ⟨y0, y1⟩, rfl⟩, cur_below hc3⟩
theorem addFE_symm (n0 : Bool) (h0 l0 d0 : Int) (n1 : Bool) (h1 l1 d1 : Int) : addFE n1 h1 l1 d1 n0 h0 l0 d0 = addFE n0 h0 l0 d0 n1 h1 l1 d1 := by
  by_cases k : CrossOk n0 h0 l0 d0 n1 h1 l1 d1 ∧ RoomW (sv n0 (h0 * 18446744073709551616 + l0) * d1 + sv n1 (h1 * 18446744073709551616 + l1) * d0) ∧ d0 * d1 ≤ 1000000
  · have k2 : CrossOk n1 h1 l1 d1 n0 h0 l0 d0 ∧ RoomW (sv n1 (h1 * 18446744073709551616 + l1) * d0 + sv n0 (h0 * 18446744073709551616 + l0) * d1) ∧ d1 * d0 ≤ 1000000 := by
      rw [Int.add_comm, Int.mul_comm d1 d0]
      exact ⟨k.1.symm, k.2⟩
    rw [addFE, addFE, if_pos k, if_pos k2, Int.add_comm (sv n1 (h1 * 18446744073709551616 + l1) * d0), Int.mul_comm d1 d0]
  · have k2 : ¬ (CrossOk n1 h1 l1 d1 n0 h0 l0 d0 ∧ RoomW (sv n1 (h1 * 18446744073709551616 + l1) * d0 + sv n0 (h0 * 18446744073709551616 + l0) * d1) ∧ d1 * d0 ≤ 1000000) := by
      rw [Int.add_comm, Int.mul_comm d1 d0]
      exact fun q => k ⟨q.1.symm, q.2⟩
    rw [addFE, addFE, if_neg k, if_neg k2]
theorem fracT_ne {n : Bool} {h l d : Int} (k : okF n h l d = true) : fracT n h l d ≠ [] := by
  rw [fracT, if_pos k]
  simp
/-- A square over a number, in parts. -/
theorem sq_parts {g d : Int} (g0 : -9223372036854775808 ≤ g) (g1 : g ≤ 9223372036854775807) (d0 : 1 ≤ d) (d1 : d ≤ 1000000) :
    ∃ (n : Bool) (h l : Int), (0 ≤ h ∧ h < 18446744073709551616) ∧ (0 ≤ l ∧ l < 18446744073709551616) ∧ sqE g d = .returned (.tuple #[.agg #[.bool n, .int .u64 h, .int .u64 l, .int .i64 d], .bool true]) ∧ okF n h l d = true ∧ 0 ≤ cmpV n h l false 0 0 := by
  have hr := sq_room g0 g1
  have hR : RoomW (g * g) := by unfold RoomW; omega
  refine ⟨_, _, _, ?_, ?_, by rw [sqE, if_pos ⟨d0, d1⟩, fracV], okF_mk (wideC_ok hR) d0 d1, ?_⟩
  · omega
  · omega
  · rw [cmpV, wideC_sv]
    simp only [sv]
    split
    · rename_i k
      simp at k <;> omega
    · split <;> omega
set_option maxRecDepth 100000 in
set_option maxHeartbeats 4000000 in
theorem lawFnFracSum (w : World) (v : Value) (n : Nat) (hb : Bytes w v n) (hText : ∀ (wz : World), Below w.heap.size w wz → ∀ (n0 : Bool) (h0 l0 d0 : Int), 0 ≤ h0 → h0 < 18446744073709551616 → 0 ≤ l0 → l0 < 18446744073709551616 → -9223372036854775808 ≤ d0 → d0 ≤ 9223372036854775807 → Calls Tryd.prog 14 #[.agg #[.bool n0, .int .u64 h0, .int .u64 l0, .int .i64 d0]] wz fun e w' => e = .returned (.string ⟨(fracT n0 h0 l0 d0).toArray⟩) ∧ Below wz.heap.size wz w') :
    Calls Tryd.prog 3 #[v] w fun e w' => e = .returned (.bool true) ∧ Below w.heap.size w w' := by
  by_cases hbig : 1048576 < n
  · skip
    go_enter Tryd.func3, Tryd.ntmps3
    go_wp2_with fail
    refine (big_yes w v n hb hbig).mono ?_
    rintro e w1 ⟨rfl, rfl⟩
    go_wp2_with fail
    go_ret
    exact ⟨rfl, Below.refl _ _⟩
  · skip
    go_enter Tryd.func3, Tryd.ntmps3
    go_wp2_with fail
    refine (big_no w v n hb hbig).mono ?_
    rintro e w1 ⟨rfl, rfl⟩
    go_wp2_with fail
    refine (drawAddFrac w v n hb).mono ?_
    rintro e w1 ⟨⟨n0, h0, l0, d0, n1, h1, l1, d1, ⟨⟨hp0, hq0⟩, ⟨lp0, lq0⟩, ⟨dp0, dq0⟩⟩, ⟨⟨hp1, hq1⟩, ⟨lp1, lq1⟩, ⟨dp1, dq1⟩⟩, rfl⟩, hB1⟩
    have HT := Lib.hid hB1
    clear hB1
    obtain ⟨n3, h3, l3, d3, ok, ⟨hp3, hq3⟩, ⟨lp3, lq3⟩, ⟨dp3, dq3⟩, hX, hXo⟩ := add_parts n0 h0 l0 d0 n1 h1 l1 d1
    have HX := Lib.hid hX
    have HY := Lib.hid ((addFE_symm n0 h0 l0 d0 n1 h1 l1 d1).trans hX)
    have HXo := Lib.hid hXo
    clear hX hXo
    go_wp2_with fail
    refine (implAddFrac n0 h0 l0 d0 n1 h1 l1 d1 hp0 hq0 lp0 lq0 dp0 dq0 hp1 hq1 lp1 lq1 dp1 dq1 _).mono ?_
    rintro e w2 ⟨rfl, hB2⟩
    rw [HX.out]
    obtain ⟨hA, hB, hBB, _⟩ := box2 hB2
    replace HT := Lib.hid (bt2 HT.out hBB)
    clear hBB hB2
    have cA0 : w2.cell? ⟨w1.heap.size, 0, none⟩ = some (.bool n0) := cell_blk hA 0
    have cA1 : w2.cell? ⟨w1.heap.size, 1, none⟩ = some (.int .u64 h0) := cell_blk hA 1
    have cA2 : w2.cell? ⟨w1.heap.size, 2, none⟩ = some (.int .u64 l0) := cell_blk hA 2
    have cA3 : w2.cell? ⟨w1.heap.size, 3, none⟩ = some (.int .i64 d0) := cell_blk hA 3
    have lA := blkF hA
    have cB0 : w2.cell? ⟨w1.heap.size + 1, 0, none⟩ = some (.bool n1) := cell_blk hB 0
    have cB1 : w2.cell? ⟨w1.heap.size + 1, 1, none⟩ = some (.int .u64 h1) := cell_blk hB 1
    have cB2 : w2.cell? ⟨w1.heap.size + 1, 2, none⟩ = some (.int .u64 l1) := cell_blk hB 2
    have cB3 : w2.cell? ⟨w1.heap.size + 1, 3, none⟩ = some (.int .i64 d1) := cell_blk hB 3
    have lB := blkF hB
    go_wp2_with fail
    refine (implAddFrac n1 h1 l1 d1 n0 h0 l0 d0 hp1 hq1 lp1 lq1 dp1 dq1 hp0 hq0 lp0 lq0 dp0 dq0 _).mono ?_
    rintro e w3 ⟨rfl, hB3⟩
    rw [HY.out]
    clear cA0 cA1 cA2 cA3 lA
    clear cB0 cB1 cB2 cB3 lB
    have hX := box_kept hB3
    have hBB := box_below hB3
    replace hA := box_still hA hBB
    replace hB := box_still hB hBB
    replace HT := Lib.hid (bt2 HT.out hBB)
    clear hBB hB3
    have cA0 : w3.cell? ⟨w1.heap.size, 0, none⟩ = some (.bool n0) := cell_blk hA 0
    have cA1 : w3.cell? ⟨w1.heap.size, 1, none⟩ = some (.int .u64 h0) := cell_blk hA 1
    have cA2 : w3.cell? ⟨w1.heap.size, 2, none⟩ = some (.int .u64 l0) := cell_blk hA 2
    have cA3 : w3.cell? ⟨w1.heap.size, 3, none⟩ = some (.int .i64 d0) := cell_blk hA 3
    have lA := blkF hA
    have cB0 : w3.cell? ⟨w1.heap.size + 1, 0, none⟩ = some (.bool n1) := cell_blk hB 0
    have cB1 : w3.cell? ⟨w1.heap.size + 1, 1, none⟩ = some (.int .u64 h1) := cell_blk hB 1
    have cB2 : w3.cell? ⟨w1.heap.size + 1, 2, none⟩ = some (.int .u64 l1) := cell_blk hB 2
    have cB3 : w3.cell? ⟨w1.heap.size + 1, 3, none⟩ = some (.int .i64 d1) := cell_blk hB 3
    have lB := blkF hB
    go_wp2_with fail
    refine (specAddFrac n0 h0 l0 d0 n1 h1 l1 d1 hp0 hq0 lp0 lq0 dp0 dq0 hp1 hq1 lp1 lq1 dp1 dq1 _).mono ?_
    rintro e w4 ⟨rfl, hB4⟩
    rw [HX.out]
    clear cA0 cA1 cA2 cA3 lA
    clear cB0 cB1 cB2 cB3 lB
    have hY := box_kept hB4
    have hBB := box_below hB4
    replace hX := box_still hX hBB
    replace HT := Lib.hid (bt2 HT.out hBB)
    clear hBB hB4
    have cX0 : w4.cell? ⟨w2.heap.size, 0, none⟩ = some (.bool n3) := cell_blk hX 0
    have cX1 : w4.cell? ⟨w2.heap.size, 1, none⟩ = some (.int .u64 h3) := cell_blk hX 1
    have cX2 : w4.cell? ⟨w2.heap.size, 2, none⟩ = some (.int .u64 l3) := cell_blk hX 2
    have cX3 : w4.cell? ⟨w2.heap.size, 3, none⟩ = some (.int .i64 d3) := cell_blk hX 3
    have lX := blkF hX
    have cY0 : w4.cell? ⟨w3.heap.size, 0, none⟩ = some (.bool n3) := cell_blk hY 0
    have cY1 : w4.cell? ⟨w3.heap.size, 1, none⟩ = some (.int .u64 h3) := cell_blk hY 1
    have cY2 : w4.cell? ⟨w3.heap.size, 2, none⟩ = some (.int .u64 l3) := cell_blk hY 2
    have cY3 : w4.cell? ⟨w3.heap.size, 3, none⟩ = some (.int .i64 d3) := cell_blk hY 3
    have lY := blkF hY
    clear hA hB
    go_wp2_with fail
    refine (drawSquareOver _ v n (hb.mono (HT.out.alloc HT.out.size _))).mono ?_
    rintro e w5 ⟨⟨g, d5, ⟨g0, g1⟩, ⟨dp5, dq5⟩, rfl⟩, hB5⟩
    clear cX0 cX1 cX2 cX3 lX cY0 cY1 cY2 cY3 lY hY
    have hBB := box_below hB5
    replace hX := box_still hX hBB
    replace HT := Lib.hid (bt2 HT.out hBB)
    clear hBB hB5
    go_wp2_with fail
    refine (implSquareOver g d5 g0 g1 dp5 dq5 _).mono ?_
    rintro e w7 ⟨rfl, hB7⟩
    replace hX := box_still hX hB7
    replace HT := Lib.hid (bt2 HT.out hB7)
    clear hB7
    have cX0 : w7.cell? ⟨w2.heap.size, 0, none⟩ = some (.bool n3) := cell_blk hX 0
    have cX1 : w7.cell? ⟨w2.heap.size, 1, none⟩ = some (.int .u64 h3) := cell_blk hX 1
    have cX2 : w7.cell? ⟨w2.heap.size, 2, none⟩ = some (.int .u64 l3) := cell_blk hX 2
    have cX3 : w7.cell? ⟨w2.heap.size, 3, none⟩ = some (.int .i64 d3) := cell_blk hX 3
    have lX := blkF hX
    by_cases hd1 : 1 ≤ d5
    · by_cases hd2 : d5 ≤ 1000000
      · obtain ⟨n5, h5, l5, ⟨hp5, hq5⟩, ⟨lp5, lq5⟩, hS, hk5⟩ := sq_parts g0 g1 hd1 hd2
        have HS5 := Lib.hid hk5
        clear hk5
        rw [hS]
        clear hS
        cases ok with
        | true =>
          go_wp2_with fail
          refine (implFracOk n3 h3 l3 d3 hp3 hq3 lp3 lq3 dp3 dq3 _).mono ?_
          rintro e w8 ⟨rfl, hB8⟩
          rw [(HXo.out (by simp)).2.2.2]
          have hS := box_kept hB8
          have hBB := box_below hB8
          replace HT := Lib.hid (bt2 HT.out hBB)
          clear hBB hB8
          have cS0 : w8.cell? ⟨w7.heap.size, 0, none⟩ = some (.bool n5) := cell_blk hS 0
          have cS1 : w8.cell? ⟨w7.heap.size, 1, none⟩ = some (.int .u64 h5) := cell_blk hS 1
          have cS2 : w8.cell? ⟨w7.heap.size, 2, none⟩ = some (.int .u64 l5) := cell_blk hS 2
          have cS3 : w8.cell? ⟨w7.heap.size, 3, none⟩ = some (.int .i64 d5) := cell_blk hS 3
          go_wp2_with fail
          refine (specCompareWide n5 h5 l5 false 0 0 hp5 lp5 lq5 (by omega) (by omega) (by omega) _).mono ?_
          rintro e w9 ⟨rfl, hB9⟩
          have hBB := hB9
          replace hS := box_still hS hBB
          replace HT := Lib.hid (bt2 HT.out hBB)
          clear hBB hB9
          clear cS0 cS1 cS2 cS3
          have cS0 : w9.cell? ⟨w7.heap.size, 0, none⟩ = some (.bool n5) := cell_blk hS 0
          have cS1 : w9.cell? ⟨w7.heap.size, 1, none⟩ = some (.int .u64 h5) := cell_blk hS 1
          have cS2 : w9.cell? ⟨w7.heap.size, 2, none⟩ = some (.int .u64 l5) := cell_blk hS 2
          have cS3 : w9.cell? ⟨w7.heap.size, 3, none⟩ = some (.int .i64 d5) := cell_blk hS 3
          have hcm := HS5.out.2
          go_wp2_with fail
          refine (hText _ HT.out n5 h5 l5 d5 hp5 hq5 lp5 lq5 dp5 dq5).mono ?_
          rintro e w10 ⟨rfl, hB10⟩
          have hBB := hB10
          replace HT := Lib.hid (bt2 HT.out hBB)
          clear hBB hB10
          have hne := fracT_ne HS5.out.1
          have hne2 : (fracT n5 h5 l5 d5 == []) = false := by simpa using hne
          go_wp2_with fail
          go_ret
          exact ⟨by simp_all, HT.out⟩
        | false =>
          go_wp2_with fail
          refine (specCompareWide n5 h5 l5 false 0 0 hp5 lp5 lq5 (by omega) (by omega) (by omega) _).mono ?_
          rintro e w9 ⟨rfl, hB9⟩
          have hS := box_kept hB9
          have hBB := box_below hB9
          replace HT := Lib.hid (bt2 HT.out hBB)
          clear hBB hB9
          have cS0 : w9.cell? ⟨w7.heap.size, 0, none⟩ = some (.bool n5) := cell_blk hS 0
          have cS1 : w9.cell? ⟨w7.heap.size, 1, none⟩ = some (.int .u64 h5) := cell_blk hS 1
          have cS2 : w9.cell? ⟨w7.heap.size, 2, none⟩ = some (.int .u64 l5) := cell_blk hS 2
          have cS3 : w9.cell? ⟨w7.heap.size, 3, none⟩ = some (.int .i64 d5) := cell_blk hS 3
          have hcm := HS5.out.2
          go_wp2_with fail
          refine (hText _ HT.out n5 h5 l5 d5 hp5 hq5 lp5 lq5 dp5 dq5).mono ?_
          rintro e w10 ⟨rfl, hB10⟩
          have hBB := hB10
          replace HT := Lib.hid (bt2 HT.out hBB)
          clear hBB hB10
          have hne := fracT_ne HS5.out.1
          have hne2 : (fracT n5 h5 l5 d5 == []) = false := by simpa using hne
          go_wp2_with fail
          go_ret
          exact ⟨by simp_all, HT.out⟩
      · have hS : sqE g d5 = .returned (.tuple #[.agg #[.bool false, .int .u64 0, .int .u64 0, .int .i64 0], .bool false]) := by rw [sqE, if_neg (fun k => hd2 k.2)]
        rw [hS]
        clear hS
        cases ok with
        | true =>
          go_wp2_with fail
          refine (implFracOk n3 h3 l3 d3 hp3 hq3 lp3 lq3 dp3 dq3 _).mono ?_
          rintro e w8 ⟨rfl, hB8⟩
          rw [(HXo.out (by simp)).2.2.2]
          replace HT := Lib.hid (bt2 HT.out (box_below hB8))
          clear hB8
          go_wp2_with fail
          go_ret
          exact ⟨by first | rfl | simp_all, HT.out⟩
        | false =>
          go_wp2_with fail
          go_ret
          exact ⟨by first | rfl | simp_all, HT.out.alloc HT.out.size _⟩
    · have hS : sqE g d5 = .returned (.tuple #[.agg #[.bool false, .int .u64 0, .int .u64 0, .int .i64 0], .bool false]) := by rw [sqE, if_neg (fun k => hd1 k.1)]
      rw [hS]
      clear hS
      cases ok with
      | true =>
        go_wp2_with fail
        refine (implFracOk n3 h3 l3 d3 hp3 hq3 lp3 lq3 dp3 dq3 _).mono ?_
        rintro e w8 ⟨rfl, hB8⟩
        rw [(HXo.out (by simp)).2.2.2]
        replace HT := Lib.hid (bt2 HT.out (box_below hB8))
        clear hB8
        go_wp2_with fail
        go_ret
        exact ⟨by first | rfl | simp_all, HT.out⟩
      | false =>
        go_wp2_with fail
        go_ret
        exact ⟨by first | rfl | simp_all, HT.out.alloc HT.out.size _⟩
end Go.Proofs.YtapdocfifgnjgaaDoor
