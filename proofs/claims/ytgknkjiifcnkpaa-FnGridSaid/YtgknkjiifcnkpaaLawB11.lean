/-
  The laws on bins: the program's contracts are hypotheses.
-/
import Derived.Test.YtgknkjiifcnkpaaPk7
import Derived.Test.YtgknkjiifcnkpaaPk1
import Derived.Test.YtgknkjiifcnkpaaArgsB
import Derived.Test.YtgknkjiifcnkpaaRowII
import Derived.Deep.RegionHeld3
import Derived.Deep.LoopGhost
namespace Go.Proofs.Ytgknkjiifcnkpaa
open Go.RowKit

/-- What the program is to answer. -/
def ImplBin : Prop := ∀ (zs : List Int) (v : Int) (u : Value) (w : World), IntRow w u zs → zs.length ≤ 1048576 → Calls Try.prog 14 #[u, .int .i64 v] w fun e w' => e = .returned (.int .i64 ((binZ zs v : Nat) : Int)) ∧ Below w.heap.size w w'
set_option maxRecDepth 100000 in
set_option maxHeartbeats 4000000 in
theorem lawExBinOf (hI : ImplBin) (zs : List Int) (v : Int) (u : Value) (w : World) (h : IntRow w u zs) :
    Calls Try.prog 6 #[u, .int .i64 v] w fun e w' => e = .returned (.bool true) ∧ Below w.heap.size w w' := by
  obtain ⟨a, c, rfl, hl9, _⟩ := intRow_form h
  by_cases hov : 1048576 < zs.length
  · have hov1 : (1048576 : Int) < zs.length := by omega
    go_enter Try.func6, Try.ntmps6
    go_wp2_with fail
    go_ret
    exact ⟨rfl, Below.refl _ _⟩
  · have hov1 : ¬ (1048576 : Int) < zs.length := by omega
    have hle : zs.length ≤ 1048576 := by omega
    have h0 := Lib.hid h
    obtain ⟨q, hq⟩ : ∃ q, binZ zs v = q := ⟨_, rfl⟩
    have HI : Hid (∀ (u : Value) (w : World), IntRow w u zs → Calls Try.prog 14 #[u, .int .i64 v] w fun e w' => e = .returned (.int .i64 (q : Int)) ∧ Below w.heap.size w w') := Lib.hid (fun u w hw => by have := hI zs v u w hw hle; rwa [hq] at this)
    have HS : Hid (∀ (u : Value) (w : World), IntRow w u zs → Calls Try.prog 19 #[u, .int .i64 v] w fun e w' => e = .returned (.int .i64 (q : Int)) ∧ Below w.heap.size w w') := Lib.hid (fun u w hw => by have := specBinOf zs v u w hw; rwa [hq] at this)
    have HT : Hid (∀ (w : World), IntRow w (.slice a zs.length c) zs → Calls Try.prog 29 #[.slice a zs.length c] w fun e w' => ∃ v, e = .returned v ∧ w'.ownsRow w.heap.size 3 1 v zs.length (intCells zs) ∧ Below w.heap.size w w') := Lib.hid (fun w hw => toI w _ zs hw hle)
    clear h hI hq hov
    go_enter Try.func6, Try.ntmps6
    go_wp2_with fail
    refine (HT.out w h0.out).mono ?_
    rintro e w1 ⟨v1, rfl, ho1, B1⟩
    have R1 := Lib.hid (intRow_of_owns ho1 hl9)
    have B01 := Lib.hid B1
    clear ho1 B1
    go_wp2_with fail
    refine (HS.out v1 w1 R1.out).mono ?_
    rintro e w2 ⟨rfl, B2⟩
    have B02 := Lib.hid (bt B01.out B2)
    clear B2 B01 R1
    go_wp2_with fail
    refine (HT.out w2 (h0.out.below B02.out)).mono ?_
    rintro e w3 ⟨v3, rfl, ho3, B3⟩
    have O3 := Lib.hid ho3
    have B03 := Lib.hid (bt B02.out B3)
    clear ho3 B3
    go_wp2_with fail
    refine (HI.out v3 w3 (intRow_of_owns O3.out hl9)).mono ?_
    rintro e w4 ⟨rfl, B4⟩
    have O4 := Lib.hid (owns_bl O3.out B4)
    have B04 := Lib.hid (bt B03.out B4)
    clear B4
    go_wp2_with fail
    refine (HT.out w4 (h0.out.below B04.out)).mono ?_
    rintro e w6 ⟨v6, rfl, ho6, B46⟩
    have B06 := Lib.hid (bt B04.out B46)
    have O6 := Lib.hid (owns_bl O4.out B46)
    have R6 := Lib.hid (intRow_of_owns ho6 hl9)
    clear ho6 B46
    go_wp2_with fail
    refine (eqI _ _ _ zs (intRow_of_owns O6.out hl9) R6.out).mono ?_
    rintro e w7 ⟨rfl, z7, hz7⟩
    have B67 : Below w6.heap.size w6 w7 := hz7 ▸ below_drewN2 (Below.refl _ _) z7
    clear hz7
    go_wp2_with fail
    go_ret
    exact ⟨rfl, bt B06.out B67⟩
set_option maxRecDepth 100000 in
set_option maxHeartbeats 4000000 in
theorem lawBins (hI : ImplBin) (w : World) (v : Value) (n : Nat) (hb : Bytes w v n) :
    Calls Try.prog 4 #[v] w fun e w' => e = .returned (.bool true) ∧ Below w.heap.size w w' := by
  by_cases hn : 1048576 < n
  · have HK := Lib.hid (big_yes w v n hb hn)
    go_enter Try.func4, Try.ntmps4
    go_wp2_with fail
    refine HK.out.mono ?_
    rintro e w1 ⟨rfl, rfl⟩
    go_wp2_with fail
    go_ret
    exact ⟨rfl, Below.refl _ _⟩
  · have HK := Lib.hid (big_no w v n hb hn)
    have HD := Lib.hid (drawBinOf w v n hb)
    have HI := Lib.hid hI
    clear hI hb hn
    go_enter Try.func4, Try.ntmps4
    go_wp2_with fail
    refine HK.out.mono ?_
    rintro e w1 ⟨rfl, rfl⟩
    go_wp2_with fail
    refine HD.out.mono ?_
    rintro e w1 ⟨⟨vl, L, b, rfl, hol, hl⟩, B1⟩
    have RL := Lib.hid (intRow_of_owns hol (by omega))
    have HB1 := Lib.hid B1
    clear hol B1 HD
    go_wp2_with fail
    refine (specDistinct L _ w1 RL.out (by omega)).mono ?_
    rintro e w2 ⟨⟨vd, rfl, hod⟩, B2⟩
    have hdl := distZ_len L
    have HDS := Lib.hid (distZ_srt L)
    generalize distZ L = D at hod hdl HDS ⊢
    have hdl2 : D.length ≤ 42 := by omega
    obtain ⟨ad, cd, rfl⟩ := owns_form hod
    have RD := Lib.hid (intRow_of_owns hod (by omega))
    have HB2 := Lib.hid (bt HB1.out B2)
    clear hod B2 HB1 RL hdl
    go_wp2_with fail
    refine (HI.out D b _ w2 RD.out (by omega)).mono ?_
    rintro e w3 ⟨rfl, B3⟩
    have RD3 := Lib.hid (RD.out.below B3)
    have HB3 := Lib.hid (bt HB2.out B3)
    have hbl := binZ_le D b
    have HSD := Lib.hid (binZ_side HDS.out b)
    have HSP := Lib.hid (specBinOf D b (.slice ad D.length cd) w3 RD3.out)
    clear B3 HB2 RD
    generalize binZ D b = m at hbl HSD HSP ⊢
    go_wp2_with fail
    refine HSP.out.mono ?_
    rintro e w4 ⟨rfl, B4⟩
    have RD4 := Lib.hid (RD3.out.below B4)
    have HB4 := Lib.hid (bt HB3.out B4)
    obtain ⟨n9, hn9⟩ : ∃ n9, D.length = n9 := ⟨_, rfl⟩
    have HE := Lib.hid hn9
    rw [hn9] at RD4 hbl hdl2 ⊢
    have hm0 : ¬ (m : Int) < 0 := by omega
    have hmn : ¬ (n9 : Int) < m := by omega
    have hmnd : decide (n9 < m) = false := decide_eq_false (by omega)
    clear B4 RD3 HB3 hn9 HSP
    go_wp2_with fail
    go_loopg [6] n9 (fun g_ i_ wr => ∃ j : Nat, g_ = n9 - j ∧ i_ = .int .i64 j ∧ j ≤ n9 ∧ wr = w4)
    case atStart => exact ⟨0, rfl, rfl, Nat.zero_le _, rfl⟩
    case round =>
      obtain ⟨j, rfl, rfl, hj, rfl⟩ := hrel
      by_cases hlt : j < n9
      · have hj1 : (j : Int) < n9 := by omega
        have hj0 : (0 : Int) ≤ j := by omega
        obtain ⟨x, hx⟩ : ∃ x, D[j]? = some x := ⟨_, List.getElem?_eq_getElem (by rw [HE.out]; exact hlt)⟩
        have hrl := RD4.out
        rw [show n9 = D.length from HE.out.symm] at hrl
        obtain ⟨a9, c9, hv9, _, hcell⟩ := intRow_form hrl
        obtain ⟨bl, ofl, hal, hcx⟩ := hcell j x hx
        injection hv9 with h1 h2 h3
        subst h1
        subst hal
        clear h2 h3 hcell hrl
        have hsd := HSD.out j x hx
        clear hx
        by_cases hbx : b ≤ x
        · have hmj : m ≤ j := hsd.1 hbx
          have hmj1 : (m : Int) ≤ j := by omega
          clear hsd
          go_wp2_with fail
          go_roundg (n9 - (j + 1))
          case measure => omega
          case rel => exact ⟨j + 1, rfl, by go_num, by omega, rfl⟩
        · have hmj : ¬ m ≤ j := fun h => hbx (hsd.2 h)
          have hmj1 : ¬ (m : Int) ≤ j := by omega
          clear hsd
          go_wp2_with fail
          go_roundg (n9 - (j + 1))
          case measure => omega
          case rel => exact ⟨j + 1, rfl, by go_num, by omega, rfl⟩
      · have hj1 : ¬ (j : Int) < n9 := by omega
        go_wp2_with fail
        go_ret
        exact ⟨rfl, HB4.out⟩
end Go.Proofs.Ytgknkjiifcnkpaa
