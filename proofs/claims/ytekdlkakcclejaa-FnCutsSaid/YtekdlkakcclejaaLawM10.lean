/-
  The law on cuts: the program's contracts are hypotheses.
-/
import Derived.Test.YtekdlkakcclejaaLawL10
import Derived.Test.YtekdlkakcclejaaDrawL
import Derived.Test.YtekdlkakcclejaaSmI
import Derived.Test.YtekdlkakcclejaaSrtL
import Derived.Deep.CutBlock
import Derived.Deep.DeepCutAuto
namespace Go.Proofs.Ytekdlkakcclejaa
open Go.RowKit

set_option maxRecDepth 100000 in
set_option maxHeartbeats 4000000 in
theorem lawCuts (hI : ImplCuts) (w : World) (v : Value) (n : Nat) (hb : Bytes w v n) :
    Calls Try.prog 4 #[v] w fun e w' => e = .returned (.bool true) ∧ Below w.heap.size w w' := by
  by_cases hn : 1048576 < n
  · have HK := Lib.hid (big_yes w v n hb hn)
    go_enter Try.func4, Try.ntmps4
    go_wp2_with fail
    refine HK.out.mono ?_
    rintro e w1 ⟨rfl, rfl⟩
    go_wp2_with fail
    go_ret
    exact ⟨rfl, Below.refl _ _⟩
  · have HK := Lib.hid (big_no w v n hb hn)
    have HD := Lib.hid (drawCutsOf w v n hb)
    have HI := Lib.hid hI
    clear hI hb hn
    go_enter Try.func4, Try.ntmps4
    go_wp2_with fail
    refine HK.out.mono ?_
    rintro e w1 ⟨rfl, rfl⟩
    go_wp2_with fail
    refine HD.out.mono ?_
    rintro e w1 ⟨⟨vl, L, b, rfl, hol, hl⟩, B1⟩
    obtain ⟨al, cl, rfl⟩ := owns_form hol
    have RL := Lib.hid (intRow_of_owns hol (by omega))
    have HB1 := Lib.hid B1
    clear hol B1 HD
    go_wp2_with fail
    refine (HI.out L b _ w1 RL.out (by omega)).mono ?_
    rintro e w2 ⟨⟨vc, rfl, hoc⟩, B2⟩
    have hCl := cutsZ_len L b
    obtain ⟨ac, cc, rfl⟩ := owns_form hoc
    have RC := Lib.hid (intRow_of_owns hoc (by omega))
    have RL2 := Lib.hid (RL.out.below B2)
    have HB2 := Lib.hid (bt HB1.out B2)
    clear hoc B2 HB1 RL
    go_wp2_with fail
    refine (specCutsOf L b _ w2 RL2.out (by omega)).mono ?_
    rintro e w3 ⟨⟨ve, rfl, hoe⟩, B3⟩
    have RE := Lib.hid (intRow_of_owns hoe (by omega))
    have RC3 := Lib.hid (RC.out.below B3)
    have RL3 := Lib.hid (RL2.out.below B3)
    have HB3 := Lib.hid (bt HB2.out B3)
    clear hoe B3 HB2 RL2 RC
    have HMM : Hid (∀ x ∈ cutsZ L b, x ∈ L ∧ ∃ y ∈ L, x < y) := Lib.hid (fun x hx => cutsZ_mem hx)
    have HCS := Lib.hid (cutsZ_srt L b)
    have hclt := cutsZ_lt L b
    generalize cutsZ L b = C at RC3 RE HMM HCS hclt hCl ⊢
    go_wp2_with fail
    refine (smI_B w3 _ _ C RC3.out RE.out).mono ?_
    rintro e w4 ⟨rfl, B4⟩
    have RC4 := Lib.hid (RC3.out.below B4)
    have RL4 := Lib.hid (RL3.out.below B4)
    have HB4 := Lib.hid (bt HB3.out B4)
    obtain ⟨n9, hn9⟩ : ∃ n9, L.length = n9 := ⟨_, rfl⟩
    obtain ⟨m9, hm9⟩ : ∃ m9, C.length = m9 := ⟨_, rfl⟩
    have HE := Lib.hid hn9
    have HC := Lib.hid hm9
    rw [hn9] at RL4 hl ⊢
    rw [hm9] at RC4 hclt hCl ⊢
    have HCLT := Lib.hid hclt
    clear B4 RC3 RL3 RE HB3 hn9 hm9 hclt
    go_wp2_with fail
    go_loopg [6] m9 (fun g_ i_ wr => ∃ j : Nat, g_ = m9 - j ∧ i_ = .int .i64 j ∧ j ≤ m9 ∧ Below w4.heap.size w4 wr)
    case atStart => exact ⟨0, rfl, rfl, Nat.zero_le _, Below.refl _ _⟩
    case round =>
      obtain ⟨j, rfl, rfl, hj, hB⟩ := hrel
      by_cases hlt : j < m9
      · have hj1 : (j : Int) < m9 := by omega
        have hj0 : (0 : Int) ≤ j := by omega
        obtain ⟨x, hx⟩ : ∃ x, C[j]? = some x := ⟨_, List.getElem?_eq_getElem (by rw [HC.out]; exact hlt)⟩
        have hrc := RC4.out
        rw [show m9 = C.length from HC.out.symm] at hrc
        obtain ⟨a9, c9, hv9, _, hcell⟩ := intRow_form hrc
        obtain ⟨bc, ofc, hal, hcx⟩ := hcell j x hx
        injection hv9 with h1 h2 h3
        subst h1
        subst hal
        clear h2 h3
        have HCELL := Lib.hid hcell
        have HCX := Lib.hid hcx
        have HX := Lib.hid hx
        have HM := Lib.hid (HMM.out x (List.mem_of_getElem? hx))
        have hrl := RL4.out
        rw [show n9 = L.length from HE.out.symm] at hrl
        obtain ⟨a8, c8, hv8, _, hcelll⟩ := intRow_form hrl
        have HCL := Lib.hid hcelll
        injection hv8 with h1 h2 h3
        subst h1
        clear h2 h3 hcell hcelll hrc hrl hcx hx
        obtain ⟨wo, hwo⟩ : ∃ y, y = wr := ⟨_, rfl⟩
        subst hwo
        have HBO := Lib.hid hB
        clear hB
        go_upto_block 2 with fail
        go_cut [7] (fun v7 wx => ∃ m : Nat, v7 = .int .i64 m ∧ 0 < m ∧ m < n9 ∧ Below wo.heap.size wo wx)
        case first =>
          go_wp2_with fail
          go_loopg [7, 8] n9 (fun g_ b_ k_ wi => ∃ q : Nat, g_ = n9 - q ∧ k_ = .int .i64 q ∧ q ≤ n9 ∧ b_ = .int .i64 ((belZ L x q : Nat) : Int) ∧ Below wo.heap.size wo wi)
          case atStart => exact ⟨0, rfl, rfl, Nat.zero_le _, rfl, Below.refl _ _⟩
          case round =>
            obtain ⟨q, rfl, rfl, hq, rfl, hBi⟩ := hrel
            have hBw := bt HBO.out hBi
            have hcxr := (hBw.cell (p := ⟨bc, ofc + j, none⟩) (World.block_lt_of_cell? w4 _ HCX.out)).trans HCX.out
            have hble := belZ_le L x q
            by_cases hqt : q < n9
            · have hq1 : (q : Int) < n9 := by omega
              have hq0 : (0 : Int) ≤ q := by omega
              obtain ⟨y, hy⟩ : ∃ y, L[q]? = some y := ⟨_, List.getElem?_eq_getElem (by rw [HE.out]; exact hqt)⟩
              obtain ⟨bl, ofl, hal, hcy⟩ := HCL.out q y hy
              subst hal
              have hcyr := (hBw.cell (p := ⟨bl, ofl + q, none⟩) (World.block_lt_of_cell? w4 _ hcy)).trans hcy
              have hbs := belZ_succ (x := x) hy
              generalize belZ L x q = m at hbs hble ⊢
              have HBS := Lib.hid hbs
              clear hy hcy hbs
              by_cases hyx : y ≤ x
              · go_wp2_with fail
                go_quiet (fail)
                go_wp2_with fail
                go_roundg (n9 - (q + 1))
                case measure => omega
                case rel => exact ⟨q + 1, rfl, by go_num, by omega, by rw [HBS.out, if_pos hyx]; go_num, below_drewN2 hBi _⟩
              · have HYX := Lib.hid (Int.not_le.1 hyx)
                go_wp2_with fail
                go_quiet (fail)
                go_wp2_with fail
                go_roundg (n9 - (q + 1))
                case measure => omega
                case rel => exact ⟨q + 1, rfl, by go_num, by omega, by rw [HBS.out, if_neg (Int.not_le.2 HYX.out)]; rfl, below_drewN2 hBi _⟩
            · have hq1 : ¬ (q : Int) < n9 := by omega
              have hqn : q = n9 := by omega
              have hbc := belZ_cut HM.out
              rw [HE.out] at hbc
              rw [hqn] at hble ⊢
              generalize belZ L x n9 = m at hbc hble ⊢
              go_wp2_with fail
              go_meet
              case rel => exact ⟨m, rfl, hbc.1, hbc.2, hBi⟩
        case rest =>
          obtain ⟨m, rfl, hbm0, hbmn, hBi⟩ := hcut
          have hb1 : ((m : Int) == 0) = false := beq_eq_false_iff_ne.2 (by omega)
          have hb2 : ((m : Int) == (n9 : Int)) = false := beq_eq_false_iff_ne.2 (by omega)
          clear hbm0 hbmn
          have hBw := bt HBO.out hBi
          have hcxr := (hBw.cell (p := ⟨bc, ofc + j, none⟩) (World.block_lt_of_cell? w4 _ HCX.out)).trans HCX.out
          have KH : ∀ z, Hid (Calls Try.prog 20 #[.slice al n9 cl, .int .i64 x] (wc.drewN z) fun e w' => e = .returned (.bool true) ∧ ∃ k, w' = (wc.drewN z).drewN k) := fun z => Lib.hid (hasQ (wc.drewN z) _ L x HM.out.1 ((RL4.out.below hBw).below (below_drewN2 (Below.refl _ _) z)))
          by_cases hj00 : j = 0
          · subst hj00
            rw [Nat.add_zero] at hcxr
            go_wp2_with fail
            go_quiet ((go_at_call 20; with_reducible exact Calls.quiet_of (KH _).out))
            go_wp2_with fail
            go_roundg (m9 - 1)
            case measure => omega
            case rel => exact ⟨1, rfl, rfl, by omega, below_drewN2 hBw _⟩
          · have hjp : (0 : Int) < j := by omega
            have hjn : 0 < j := by omega
            obtain ⟨p, hp⟩ : ∃ p, j = p + 1 := ⟨j - 1, by omega⟩
            have hqm : IntKind.i64.wrap ((j : Int) - 1) = p := by rw [IntKind.wrap_i64]; omega
            have hp0 : (0 : Int) ≤ p := by omega
            have hpj : (p : Int) < m9 := by omega
            have hpm : p < m9 := by omega
            have hpjn : p < j := by omega
            have HP := Lib.hid hp
            clear hp
            obtain ⟨y, hy⟩ : ∃ y, C[p]? = some y := ⟨_, List.getElem?_eq_getElem (by rw [HC.out]; exact hpm)⟩
            obtain ⟨b2, o2, hal, hcy⟩ := HCELL.out p y hy
            injection hal with hal
            injection hal with e1 e2
            subst e1
            subst e2
            have hcyr := (hBw.cell (p := ⟨bc, ofc + p, none⟩) (World.block_lt_of_cell? w4 _ hcy)).trans hcy
            have hyx : ¬ x ≤ y := by
              obtain ⟨h1, h2⟩ := List.getElem?_eq_some_iff.1 HX.out
              obtain ⟨h3, h4⟩ := List.getElem?_eq_some_iff.1 hy
              have := List.pairwise_iff_getElem.1 HCS.out p j h3 h1 hpjn
              rw [h2, h4] at this
              omega
            clear hy hcy
            go_wp2_with fail
            go_quiet ((go_at_call 20; with_reducible exact Calls.quiet_of (KH _).out))
            go_wp2_with fail
            go_roundg (m9 - (j + 1))
            case measure => omega
            case rel => exact ⟨j + 1, rfl, by go_num, by omega, below_drewN2 hBw _⟩
      · have hj1 : ¬ (j : Int) < m9 := by omega
        by_cases hc0 : m9 = 0
        · subst hc0
          go_wp2_with fail
          go_ret
          exact ⟨rfl, bt HB4.out hB⟩
        · have hc1 : (m9 : Int) < b := by
            rcases HCLT.out with h | h
            · exact absurd h hc0
            · exact h
          have hc2 : ¬ (m9 : Int) = 0 := by omega
          go_wp2_with fail
          go_ret
          exact ⟨rfl, bt HB4.out hB⟩
end Go.Proofs.Ytekdlkakcclejaa
