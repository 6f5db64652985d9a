/-
  The laws on sorted lists and cuts: the program's contracts are hypotheses.
-/
import Derived.Test.YtekdlkakcclejaaLawL10
import Derived.Test.YtekdlkakcclejaaDrawL
import Derived.Test.YtekdlkakcclejaaSmI
import Derived.Test.YtekdlkakcclejaaSrtL
namespace Go.Proofs.Ytekdlkakcclejaa
open Go.RowKit

set_option maxRecDepth 100000 in
set_option maxHeartbeats 4000000 in
theorem lawSorted (hI : ImplSort) (hJ : ImplDist) (w : World) (v : Value) (n : Nat) (hb : Bytes w v n) :
    Calls Try.prog 3 #[v] w fun e w' => e = .returned (.bool true) ∧ Below w.heap.size w w' := by
  by_cases hn : 1048576 < n
  · have HK := Lib.hid (big_yes w v n hb hn)
    go_enter Try.func3, Try.ntmps3
    go_wp2_with fail
    refine HK.out.mono ?_
    rintro e w1 ⟨rfl, rfl⟩
    go_wp2_with fail
    go_ret
    exact ⟨rfl, Below.refl _ _⟩
  · have HK := Lib.hid (big_no w v n hb hn)
    have HD := Lib.hid (drawSortInts w v n hb)
    have HI := Lib.hid hI
    have HJ := Lib.hid hJ
    clear hI hJ hb hn
    go_enter Try.func3, Try.ntmps3
    go_wp2_with fail
    refine HK.out.mono ?_
    rintro e w1 ⟨rfl, rfl⟩
    go_wp2_with fail
    refine HD.out.mono ?_
    rintro e w1 ⟨⟨vl, L, rfl, hol, hl⟩, B1⟩
    obtain ⟨al, cl, rfl⟩ := owns_form hol
    have RL := Lib.hid (intRow_of_owns hol (by omega))
    have HB1 := Lib.hid B1
    clear hol B1 HD
    go_wp2_with fail
    refine (HI.out L _ w1 RL.out (by omega)).mono ?_
    rintro e w2 ⟨⟨vs, rfl, hos⟩, B2⟩
    have hSl := sortZ_len L
    obtain ⟨aS, cs, rfl⟩ := owns_form hos
    have RS := Lib.hid (intRow_of_owns hos (by omega))
    have RL2 := Lib.hid (RL.out.below B2)
    have HB2 := Lib.hid (bt HB1.out B2)
    clear hos B2 HB1 RL
    go_wp2_with fail
    refine (HJ.out L _ w2 RL2.out (by omega)).mono ?_
    rintro e w3 ⟨⟨vd, rfl, hod⟩, B3⟩
    have hDl := distZ_len L
    obtain ⟨ad, cd, rfl⟩ := owns_form hod
    have RD := Lib.hid (intRow_of_owns hod (by omega))
    have RS3 := Lib.hid (RS.out.below B3)
    have RL3 := Lib.hid (RL2.out.below B3)
    have HB3 := Lib.hid (bt HB2.out B3)
    clear hod B3 HB2 RL2 RS
    have HSS := Lib.hid (sortZ_srt L)
    have HDS := Lib.hid (lt_le (distZ_srt L))
    have HCS : Hid (∀ x, (sortZ L).count x = L.count x) := Lib.hid (sortZ_count L)
    have HCD : Hid (∀ x, x ∈ L → (distZ L).count x = 1) := Lib.hid (fun x hx => distZ_count hx)
    have HSD : Hid (∀ (u : Value) (w : World), IntRow w u L → Calls Try.prog 14 #[u] w fun e w' => (∃ v, e = .returned v ∧ w'.ownsRow w.heap.size 3 1 v (distZ L).length (intCells (distZ L))) ∧ Below w.heap.size w w') := Lib.hid (fun u w hw => specDistinct L u w hw (by omega))
    generalize sortZ L = S at RS3 HSS HCS hSl ⊢
    generalize distZ L = D at RD HDS HCD hDl HSD ⊢
    obtain ⟨n9, hn9⟩ : ∃ n9, L.length = n9 := ⟨_, rfl⟩
    have HE := Lib.hid hn9
    rw [hn9] at RL3 hSl hl ⊢
    rw [hSl] at RS3
    try rw [hSl]
    clear hn9 hSl
    go_wp2_with fail
    refine (risI w3 _ S HSS.out RS3.out).mono ?_
    rintro e w4 ⟨rfl, B4⟩
    have RD4 := Lib.hid (RD.out.below B4)
    have RS4 := Lib.hid (RS3.out.below B4)
    have RL4 := Lib.hid (RL3.out.below B4)
    have HB4 := Lib.hid (bt HB3.out B4)
    clear B4 RD RS3 RL3 HB3
    go_wp2_with fail
    refine (risI w4 _ D HDS.out RD4.out).mono ?_
    rintro e w5 ⟨rfl, B5⟩
    have RD5 := Lib.hid (RD4.out.below B5)
    have RS5 := Lib.hid (RS4.out.below B5)
    have RL5 := Lib.hid (RL4.out.below B5)
    have HB5 := Lib.hid (bt HB4.out B5)
    clear B5 RD4 RS4 RL4 HB4
    go_wp2_with fail
    refine (HSD.out _ w5 RL5.out).mono ?_
    rintro e w6 ⟨⟨ve, rfl, hoe⟩, B6⟩
    obtain ⟨ae, ce, rfl⟩ := owns_form hoe
    have RD6 := Lib.hid (RD5.out.below B6)
    have RS6 := Lib.hid (RS5.out.below B6)
    have RL6 := Lib.hid (RL5.out.below B6)
    have HB6 := Lib.hid (bt HB5.out B6)
    clear B6 RD5 RS5 RL5 HB5 hoe
    go_wp2_with fail
    go_loopg [6] n9 (fun g_ i_ wr => ∃ j : Nat, g_ = n9 - j ∧ i_ = .int .i64 j ∧ j ≤ n9 ∧ Below w6.heap.size w6 wr)
    case atStart => exact ⟨0, rfl, rfl, Nat.zero_le _, Below.refl _ _⟩
    case round =>
      obtain ⟨j, rfl, rfl, hj, hB⟩ := hrel
      by_cases hlt : j < n9
      · have hj1 : (j : Int) < n9 := by omega
        have hj0 : (0 : Int) ≤ j := by omega
        obtain ⟨x, hx⟩ : ∃ x, L[j]? = some x := ⟨_, List.getElem?_eq_getElem (by rw [HE.out]; exact hlt)⟩
        have hrl := RL6.out.below hB
        rw [show n9 = L.length from HE.out.symm] at hrl
        obtain ⟨a9, c9, hv9, _, hcell⟩ := intRow_form hrl
        obtain ⟨bl, ofl, hal, hcx⟩ := hcell j x hx
        injection hv9 with h1 h2 h3
        subst h1
        subst hal
        clear h2 h3
        have hxm : x ∈ L := List.mem_of_getElem? hx
        have KA : ∀ z, Hid (Calls Try.prog 15 #[.slice aS n9 cs, .int .i64 x] (wr.drewN z) fun e w' => e = .returned (.int .i64 (((L.count x : Nat) : Int))) ∧ ∃ k, w' = (wr.drewN z).drewN k) := fun z => Lib.hid ((timesQ (wr.drewN z) _ S x ((RS6.out.below hB).below (below_drewN2 (Below.refl _ _) z))).mono fun e w' h => ⟨by rw [h.1, HCS.out x], h.2⟩)
        have KB : ∀ z, Hid (Calls Try.prog 15 #[.slice (some ⟨bl, ofl, none⟩) n9 cl, .int .i64 x] (wr.drewN z) fun e w' => e = .returned (.int .i64 (((L.count x : Nat) : Int))) ∧ ∃ k, w' = (wr.drewN z).drewN k) := fun z => Lib.hid (timesQ (wr.drewN z) _ L x ((RL6.out.below hB).below (below_drewN2 (Below.refl _ _) z)))
        have KC : ∀ z, Hid (Calls Try.prog 15 #[.slice ad D.length cd, .int .i64 x] (wr.drewN z) fun e w' => e = .returned (.int .i64 (1)) ∧ ∃ k, w' = (wr.drewN z).drewN k) := fun z => Lib.hid ((timesQ (wr.drewN z) _ D x ((RD6.out.below hB).below (below_drewN2 (Below.refl _ _) z))).mono fun e w' h => ⟨by rw [h.1, HCD.out x hxm]; rfl, h.2⟩)
        clear hx hrl hcell hxm
        go_wp2_with fail
        go_quiet (first | (go_at_call 15; with_reducible exact Calls.quiet_of (KA _).out) | (go_at_call 15; with_reducible exact Calls.quiet_of (KB _).out) | (go_at_call 15; with_reducible exact Calls.quiet_of (KC _).out))
        go_wp2_with fail
        go_roundg (n9 - (j + 1))
        case measure => omega
        case rel => exact ⟨j + 1, rfl, by go_num, by omega, below_drewN2 hB _⟩
      · have hj1 : ¬ (j : Int) < n9 := by omega
        go_wp2_with fail
        go_ret
        exact ⟨rfl, bt HB6.out hB⟩
end Go.Proofs.Ytekdlkakcclejaa
