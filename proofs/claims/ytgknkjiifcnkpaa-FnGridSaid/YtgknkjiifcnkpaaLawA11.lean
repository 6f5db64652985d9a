/-
  The law on as many bins as numbers: the program's contracts are hypotheses.
-/
import Derived.Test.YtgknkjiifcnkpaaLawB11
import Derived.Test.YtgknkjiifcnkpaaPk7
import Derived.Deep.RegionHeld3
namespace Go.Proofs.Ytgknkjiifcnkpaa
open Go.RowKit

set_option maxRecDepth 100000 in
set_option maxHeartbeats 4000000 in
theorem lawCutsAll (hI : ImplCuts) (hJ : ImplBin) (w : World) (v : Value) (n : Nat) (hb : Bytes w v n) :
    Calls Try.prog 3 #[v] w fun e w' => e = .returned (.bool true) ∧ Below w.heap.size w w' := by
  by_cases hn : 1048576 < n
  · have HK := Lib.hid (big_yes w v n hb hn)
    go_enter Try.func3, Try.ntmps3
    go_wp2_with fail
    refine HK.out.mono ?_
    rintro e w1 ⟨rfl, rfl⟩
    go_wp2_with fail
    go_ret
    exact ⟨rfl, Below.refl _ _⟩
  · have HK := Lib.hid (big_no w v n hb hn)
    have HD := Lib.hid (drawCutsOf w v n hb)
    clear hb hn
    go_enter Try.func3, Try.ntmps3
    go_wp2_with fail
    refine HK.out.mono ?_
    rintro e w1 ⟨rfl, rfl⟩
    go_wp2_with fail
    refine HD.out.mono ?_
    rintro e w1 ⟨⟨vl, L, b, rfl, hol, hl⟩, B1⟩
    have hle := hl
    obtain ⟨al, cl, rfl⟩ := owns_form hol
    have RL := Lib.hid (intRow_of_owns hol (by omega))
    have HB1 := Lib.hid B1
    obtain ⟨n9, hn9⟩ : ∃ n9, L.length = n9 := ⟨_, rfl⟩
    have HE := Lib.hid hn9
    rw [hn9] at RL hl hle ⊢
    clear hol B1 HD hn9
    by_cases hbig : 8 < n9 ∨ n9 = 0
    · have hz : cutsZ L 1 = [] := by rw [cutsZ, if_neg (fun h => by have := inZ_iff.1 h.1; omega)]
      have HI1 := Lib.hid (hI L 1 (.slice al n9 cl) w1 RL.out (by rw [HE.out]; omega))
      rw [hz] at HI1
      clear hz
      rcases hbig with h8 | h0
      · have h81 : (8 : Int) < n9 := by omega
        go_wp2_with fail
        refine HI1.out.mono ?_
        rintro e w2 ⟨⟨v2, rfl, ho2⟩, B2⟩
        obtain ⟨a2, c2, rfl⟩ := owns_form ho2
        go_wp2_with fail
        go_ret
        exact ⟨rfl, bt HB1.out B2⟩
      · subst h0
        go_wp2_with fail
        refine HI1.out.mono ?_
        rintro e w2 ⟨⟨v2, rfl, ho2⟩, B2⟩
        obtain ⟨a2, c2, rfl⟩ := owns_form ho2
        go_wp2_with fail
        go_ret
        exact ⟨rfl, bt HB1.out B2⟩
    · have h81 : ¬ (8 : Int) < n9 := by omega
      have h8 : n9 ≤ 8 := by omega
      have h0 : ((n9 : Int) == 0) = false := beq_eq_false_iff_ne.2 (by omega)
      have h82 : n9 ≤ 8 := by omega
      have h83 : ¬ 8 < n9 := by omega
      have HI8 := Lib.hid (hI L 8 (.slice al n9 cl) w1 RL.out (by rw [HE.out]; omega))
      have hCl := cutsZ_len L 8
      have HAL : Hid (∀ x y, x ∈ L → y ∈ L → (binZ (cutsZ L 8) x = binZ (cutsZ L 8) y ↔ x = y)) := Lib.hid (fun x y hx hy => binZ_all (by rw [HE.out]; exact h8) hx hy)
      have HSP : Hid (∀ (u : Value) (w : World), IntRow w u L → Calls Try.prog 16 #[u, .int .i64 8] w fun e w' => (∃ v, e = .returned v ∧ w'.ownsRow w.heap.size 3 1 v (cutsZ L 8).length (intCells (cutsZ L 8))) ∧ Below w.heap.size w w') := Lib.hid (fun u w hw => specCutsOf L 8 u w hw (by rw [HE.out]; omega))
      generalize cutsZ L 8 = C at HI8 hCl HAL HSP
      clear hbig
      go_wp2_with fail
      refine HI8.out.mono ?_
      rintro e w2 ⟨⟨vc, rfl, hoc⟩, B2⟩
      obtain ⟨ac, cc, rfl⟩ := owns_form hoc
      have RC := Lib.hid (intRow_of_owns hoc (by omega))
      have RL2 := Lib.hid (RL.out.below B2)
      have HB2 := Lib.hid (bt HB1.out B2)
      have HBN : Hid (∀ (x : Int) (w : World) (u : Value), IntRow w u C → Calls Try.prog 14 #[u, .int .i64 x] w fun e w' => e = .returned (.int .i64 ((binZ C x : Nat) : Int)) ∧ Below w.heap.size w w') := Lib.hid (fun x w u hw => hJ C x u w hw (by omega))
      clear hoc B2 HB1 RL HI8
      go_wp2_with fail
      go_loopg [6] n9 (fun g_ i_ wr => ∃ j : Nat, g_ = n9 - j ∧ i_ = .int .i64 j ∧ j ≤ n9 ∧ Below w2.heap.size w2 wr)
      case atStart => exact ⟨0, rfl, rfl, Nat.zero_le _, Below.refl _ _⟩
      case round =>
        obtain ⟨j, rfl, rfl, hj, hB⟩ := hrel
        by_cases hlt : j < n9
        · have hj1 : (j : Int) < n9 := by omega
          have hj0 : (0 : Int) ≤ j := by omega
          obtain ⟨x, hx⟩ : ∃ x, L[j]? = some x := ⟨_, List.getElem?_eq_getElem (by rw [HE.out]; exact hlt)⟩
          have hrl := RL2.out
          rw [show n9 = L.length from HE.out.symm] at hrl
          obtain ⟨a9, c9, hv9, _, hcell⟩ := intRow_form hrl
          obtain ⟨bl, ofl, hal, hcx⟩ := hcell j x hx
          injection hv9 with h1 h2 h3
          subst h1
          subst hal
          have HCX := Lib.hid hcx
          have HCELL := Lib.hid hcell
          have HXM := Lib.hid (List.mem_of_getElem? hx)
          clear h2 h3 hcell hcx hx hrl
          obtain ⟨wo, hwo⟩ : ∃ y, y = wr := ⟨_, rfl⟩
          subst hwo
          have HBO := Lib.hid hB
          clear hB
          go_wp2_with fail
          go_loopg [7] n9 (fun g_ k_ wi => ∃ k : Nat, g_ = n9 - k ∧ k_ = .int .i64 k ∧ k ≤ n9 ∧ Below wo.heap.size wo wi)
          case atStart => exact ⟨0, rfl, rfl, Nat.zero_le _, Below.refl _ _⟩
          case round =>
            obtain ⟨k, rfl, rfl, hk, hBi⟩ := hrel
            have hBw := bt HBO.out hBi
            by_cases hkt : k < n9
            · have hk1 : (k : Int) < n9 := by omega
              have hk0 : (0 : Int) ≤ k := by omega
              obtain ⟨y, hy⟩ : ∃ y, L[k]? = some y := ⟨_, List.getElem?_eq_getElem (by rw [HE.out]; exact hkt)⟩
              obtain ⟨b2, o2, hal, hcy⟩ := HCELL.out k y hy
              injection hal with hal
              injection hal with e1 e2
              subst e1
              subst e2
              have hbq : (((binZ C x : Nat) : Int) == ((binZ C y : Nat) : Int)) = (x == y) := by
                have h := HAL.out x y HXM.out (List.mem_of_getElem? hy)
                by_cases e : x = y
                · subst e
                  simp
                · have h1 : ¬ binZ C x = binZ C y := fun e2 => e (h.1 e2)
                  rw [beq_eq_false_iff_ne.2 e, beq_eq_false_iff_ne.2 (by omega)]
              have hbd : decide (binZ C x = binZ C y) = (x == y) := by
                rw [← hbq]
                by_cases e : binZ C x = binZ C y
                · rw [e]; simp
                · rw [decide_eq_false e, beq_eq_false_iff_ne.2 (by omega)]
              have hS0 : (fun w' => w'.cell? ⟨bl, ofl + j, none⟩ = some (.int .i64 x) ∧ w'.cell? ⟨bl, ofl + k, none⟩ = some (.int .i64 y) ∧ Below wr.heap.size wr w') wr.drew := ⟨(hBw.cell (p := ⟨bl, ofl + j, none⟩) (World.block_lt_of_cell? w2 _ HCX.out)).trans HCX.out, (hBw.cell (p := ⟨bl, ofl + k, none⟩) (World.block_lt_of_cell? w2 _ hcy)).trans hcy, (Below.refl _ _).drew⟩
              clear hy hcy
              go_upto_region 13 with fail
              refine wp_region_noPanic ?_
              refine wp_region_held_drew (S := (fun w' => w'.cell? ⟨bl, ofl + j, none⟩ = some (.int .i64 x) ∧ w'.cell? ⟨bl, ofl + k, none⟩ = some (.int .i64 y) ∧ Below wr.heap.size wr w')) (by kernel_rfl) hS0 (fun hHeld => ?_)
              clear hS0
              refine wpAnyH_take (i := 0) (oi := ?o1) (v := ?v1) ?hi1 ?hs1 ?hf1 ?hr1 ?hQ1 ?hy1 ?hS1 ?rest1
              case hi1 => rfl
              case hs1 => kernel_rfl
              case hf1 => kernel_rfl
              case hr1 => kernel_rfl
              case hQ1 => exact fun _ _ _ h => h
              case hS1 => assumption
              case hy1 =>
                refine Or.inl ⟨by kernel_rfl, ?_⟩
                intro w' hSw
                (try dsimp only at hSw)
                go_simp
                (try rfl)
              (try simp only [List.getElem_toArray, List.getElem_cons_zero, Act.put, List.setIfInBounds_toArray, List.set_cons_zero, List.set_cons_succ])
              refine wpAnyH_take (i := 1) (oi := ?o2) (v := ?v2) ?hi2 ?hs2 ?hf2 ?hr2 ?hQ2 ?hy2 ?hS2 ?rest2
              case hi2 => rfl
              case hs2 => kernel_rfl
              case hf2 => kernel_rfl
              case hr2 => kernel_rfl
              case hQ2 => exact fun _ _ _ h => h
              case hS2 => assumption
              case hy2 =>
                refine Or.inl ⟨by kernel_rfl, ?_⟩
                intro w' hSw
                (try dsimp only at hSw)
                go_simp
                (try rfl)
              (try simp only [List.getElem_toArray, List.getElem_cons_succ, List.getElem_cons_zero, Act.put, List.setIfInBounds_toArray, List.set_cons_zero, List.set_cons_succ])
              refine wpAnyH_take (i := 2) (oi := ?o3) (v := ?v3) ?hi3 ?hs3 ?hf3 ?hr3 ?hQ3 ?hy3 ?hS3 ?rest3
              case hi3 => rfl
              case hs3 => kernel_rfl
              case hf3 => kernel_rfl
              case hr3 => kernel_rfl
              case hQ3 => exact fun _ _ _ h => h
              case hS3 => assumption
              case hy3 =>
                refine Or.inl ⟨by kernel_rfl, ?_⟩
                intro w' hSw
                (try dsimp only at hSw)
                go_simp
                (try rfl)
              (try simp only [List.getElem_toArray, List.getElem_cons_succ, List.getElem_cons_zero, Act.put, List.setIfInBounds_toArray, List.set_cons_zero, List.set_cons_succ])
              refine wpAnyH_take (i := 3) (oi := ?o4) (v := ?v4) ?hi4 ?hs4 ?hf4 ?hr4 ?hQ4 ?hy4 ?hS4 ?rest4
              case hi4 => rfl
              case hs4 => kernel_rfl
              case hf4 => kernel_rfl
              case hr4 => kernel_rfl
              case hQ4 => exact fun _ _ _ h => h
              case hS4 => assumption
              case hy4 =>
                refine Or.inl ⟨by kernel_rfl, ?_⟩
                intro w' hSw
                (try dsimp only at hSw)
                go_simp
                (try rfl)
              (try simp only [List.getElem_toArray, List.getElem_cons_succ, List.getElem_cons_zero, Act.put, List.setIfInBounds_toArray, List.set_cons_zero, List.set_cons_succ])
              refine wpAnyH_take (i := 4) (oi := ?o5) (v := ?v5) ?hi5 ?hs5 ?hf5 ?hr5 ?hQ5 ?hy5 ?hS5 ?rest5
              case hi5 => rfl
              case hs5 => kernel_rfl
              case hf5 => kernel_rfl
              case hr5 => kernel_rfl
              case hQ5 => exact fun _ _ _ h => h
              case hS5 => assumption
              case hy5 =>
                refine Or.inl ⟨by kernel_rfl, ?_⟩
                intro w' hSw
                (try dsimp only at hSw)
                go_simp
                (try rfl)
              (try simp only [List.getElem_toArray, List.getElem_cons_succ, List.getElem_cons_zero, Act.put, List.setIfInBounds_toArray, List.set_cons_zero, List.set_cons_succ])
              refine wpAnyH_take (i := 6) (oi := ?o6) (v := ?v6) ?hi6 ?hs6 ?hf6 ?hr6 ?hQ6 ?hy6 ?hS6 ?rest6
              case hi6 => rfl
              case hs6 => kernel_rfl
              case hf6 => kernel_rfl
              case hr6 => kernel_rfl
              case hQ6 => exact fun _ _ _ h => h
              case hS6 => assumption
              case hy6 =>
                refine Or.inl ⟨by kernel_rfl, ?_⟩
                intro w' hSw
                (try dsimp only at hSw)
                go_simp
                (try rfl)
              (try simp only [List.getElem_toArray, List.getElem_cons_succ, List.getElem_cons_zero, Act.put, List.setIfInBounds_toArray, List.set_cons_zero, List.set_cons_succ])
              refine wpAnyH_take (i := 7) (oi := ?o7) (v := ?v7) ?hi7 ?hs7 ?hf7 ?hr7 ?hQ7 ?hy7 ?hS7 ?rest7
              case hi7 => rfl
              case hs7 => kernel_rfl
              case hf7 => kernel_rfl
              case hr7 => kernel_rfl
              case hQ7 => exact fun _ _ _ h => h
              case hS7 => assumption
              case hy7 =>
                refine Or.inl ⟨by kernel_rfl, ?_⟩
                intro w' hSw
                (try dsimp only at hSw)
                go_simp
                (try rfl)
              (try simp only [List.getElem_toArray, List.getElem_cons_succ, List.getElem_cons_zero, Act.put, List.setIfInBounds_toArray, List.set_cons_zero, List.set_cons_succ])
              refine wpAnyH_take (i := 8) (oi := ?o8) (v := ?v8) ?hi8 ?hs8 ?hf8 ?hr8 ?hQ8 ?hy8 ?hS8 ?rest8
              case hi8 => rfl
              case hs8 => kernel_rfl
              case hf8 => kernel_rfl
              case hr8 => kernel_rfl
              case hQ8 => exact fun _ _ _ h => h
              case hS8 => assumption
              case hy8 =>
                refine Or.inl ⟨by kernel_rfl, ?_⟩
                intro w' hSw
                (try dsimp only at hSw)
                go_simp
                (try rfl)
              (try simp only [List.getElem_toArray, List.getElem_cons_succ, List.getElem_cons_zero, Act.put, List.setIfInBounds_toArray, List.set_cons_zero, List.set_cons_succ])
              refine wpAnyH_take (i := 9) (oi := ?o9) (v := ?v9) ?hi9 ?hs9 ?hf9 ?hr9 ?hQ9 ?hy9 ?hS9 ?rest9
              case hi9 => rfl
              case hs9 => kernel_rfl
              case hf9 => kernel_rfl
              case hr9 => kernel_rfl
              case hQ9 => exact fun _ _ _ h => h
              case hS9 => assumption
              case hy9 =>
                refine Or.inl ⟨by kernel_rfl, ?_⟩
                intro w' hSw
                (try dsimp only at hSw)
                go_simp
                (try rfl)
              (try simp only [List.getElem_toArray, List.getElem_cons_succ, List.getElem_cons_zero, Act.put, List.setIfInBounds_toArray, List.set_cons_zero, List.set_cons_succ])
              refine wpAnyH_take (i := 10) (oi := ?o10) (v := ?v10) ?hi10 ?hs10 ?hf10 ?hr10 ?hQ10 ?hy10 ?hS10 ?rest10
              case hi10 => rfl
              case hs10 => kernel_rfl
              case hf10 => kernel_rfl
              case hr10 => kernel_rfl
              case hQ10 => exact fun _ _ _ h => h
              case hS10 => assumption
              case hy10 =>
                refine Or.inl ⟨by kernel_rfl, ?_⟩
                intro w' hSw
                (try dsimp only at hSw)
                go_simp
                (try rfl)
              (try simp only [List.getElem_toArray, List.getElem_cons_succ, List.getElem_cons_zero, Act.put, List.setIfInBounds_toArray, List.set_cons_zero, List.set_cons_succ])
              refine wpAnyH_take (i := 13) (oi := ?o11) (v := ?v11) ?hi11 ?hs11 ?hf11 ?hr11 ?hQ11 ?hy11 ?hS11 ?rest11
              case hi11 => rfl
              case hs11 => kernel_rfl
              case hf11 => kernel_rfl
              case hr11 => kernel_rfl
              case hQ11 => exact fun _ _ _ h => h
              case hS11 => assumption
              case hy11 =>
                refine Or.inl ⟨by kernel_rfl, ?_⟩
                intro w' hSw
                (try dsimp only at hSw)
                go_simp
                (try rfl)
              (try simp only [List.getElem_toArray, List.getElem_cons_succ, List.getElem_cons_zero, Act.put, List.setIfInBounds_toArray, List.set_cons_zero, List.set_cons_succ])
              refine wpAnyH_take (i := 14) (oi := ?o12) (v := ?v12) ?hi12 ?hs12 ?hf12 ?hr12 ?hQ12 ?hy12 ?hS12 ?rest12
              case hi12 => rfl
              case hs12 => kernel_rfl
              case hf12 => kernel_rfl
              case hr12 => kernel_rfl
              case hQ12 => exact fun _ _ _ h => h
              case hS12 => assumption
              case hy12 =>
                refine Or.inl ⟨by kernel_rfl, ?_⟩
                intro w' hSw
                (try dsimp only at hSw)
                go_simp
                (try rfl)
              (try simp only [List.getElem_toArray, List.getElem_cons_succ, List.getElem_cons_zero, Act.put, List.setIfInBounds_toArray, List.set_cons_zero, List.set_cons_succ])
              refine wpAnyH_take (i := 15) (oi := ?o13) (v := ?v13) ?hi13 ?hs13 ?hf13 ?hr13 ?hQ13 ?hy13 ?hS13 ?rest13
              case hi13 => rfl
              case hs13 => kernel_rfl
              case hf13 => kernel_rfl
              case hr13 => kernel_rfl
              case hQ13 => exact fun _ _ _ h => h
              case hS13 => assumption
              case hy13 =>
                refine Or.inl ⟨by kernel_rfl, ?_⟩
                intro w' hSw
                (try dsimp only at hSw)
                go_simp
                (try rfl)
              (try simp only [List.getElem_toArray, List.getElem_cons_succ, List.getElem_cons_zero, Act.put, List.setIfInBounds_toArray, List.set_cons_zero, List.set_cons_succ])
              refine wpAnyH_take (i := 16) (oi := ?o14) (v := ?v14) ?hi14 ?hs14 ?hf14 ?hr14 ?hQ14 ?hy14 ?hS14 ?rest14
              case hi14 => rfl
              case hs14 => kernel_rfl
              case hf14 => kernel_rfl
              case hr14 => kernel_rfl
              case hQ14 => exact fun _ _ _ h => h
              case hS14 => assumption
              case hy14 =>
                refine Or.inl ⟨by kernel_rfl, ?_⟩
                intro w' hSw
                (try dsimp only at hSw)
                go_simp
                (try rfl)
              (try simp only [List.getElem_toArray, List.getElem_cons_succ, List.getElem_cons_zero, Act.put, List.setIfInBounds_toArray, List.set_cons_zero, List.set_cons_succ])
              refine wpAnyH_take (i := 17) (oi := ?o15) (v := ?v15) ?hi15 ?hs15 ?hf15 ?hr15 ?hQ15 ?hy15 ?hS15 ?rest15
              case hi15 => rfl
              case hs15 => kernel_rfl
              case hf15 => kernel_rfl
              case hr15 => kernel_rfl
              case hQ15 => exact fun _ _ _ h => h
              case hS15 => assumption
              case hy15 =>
                refine Or.inl ⟨by kernel_rfl, ?_⟩
                intro w' hSw
                (try dsimp only at hSw)
                go_simp
                (try rfl)
              (try simp only [List.getElem_toArray, List.getElem_cons_succ, List.getElem_cons_zero, Act.put, List.setIfInBounds_toArray, List.set_cons_zero, List.set_cons_succ])
              refine wpAnyH_take (i := 18) (oi := ?o16) (v := ?v16) ?hi16 ?hs16 ?hf16 ?hr16 ?hQ16 ?hy16 ?hS16 ?rest16
              case hi16 => rfl
              case hs16 => kernel_rfl
              case hf16 => kernel_rfl
              case hr16 => kernel_rfl
              case hQ16 => exact fun _ _ _ h => h
              case hS16 => assumption
              case hy16 =>
                refine Or.inl ⟨by kernel_rfl, ?_⟩
                intro w' hSw
                (try dsimp only at hSw)
                go_simp
                (try rfl)
              (try simp only [List.getElem_toArray, List.getElem_cons_succ, List.getElem_cons_zero, Act.put, List.setIfInBounds_toArray, List.set_cons_zero, List.set_cons_succ])
              refine wpAnyH_take (i := 19) (oi := ?o17) (v := ?v17) ?hi17 ?hs17 ?hf17 ?hr17 ?hQ17 ?hy17 ?hS17 ?rest17
              case hi17 => rfl
              case hs17 => kernel_rfl
              case hf17 => kernel_rfl
              case hr17 => kernel_rfl
              case hQ17 => exact fun _ _ _ h => h
              case hS17 => assumption
              case hy17 =>
                refine Or.inl ⟨by kernel_rfl, ?_⟩
                intro w' hSw
                (try dsimp only at hSw)
                go_simp
                (try rfl)
              (try simp only [List.getElem_toArray, List.getElem_cons_succ, List.getElem_cons_zero, Act.put, List.setIfInBounds_toArray, List.set_cons_zero, List.set_cons_succ])
              refine wpAnyH_take (i := 20) (oi := ?o18) (v := ?v18) ?hi18 ?hs18 ?hf18 ?hr18 ?hQ18 ?hy18 ?hS18 ?rest18
              case hi18 => rfl
              case hs18 => kernel_rfl
              case hf18 => kernel_rfl
              case hr18 => kernel_rfl
              case hQ18 => exact fun _ _ _ h => h
              case hS18 => assumption
              case hy18 =>
                refine Or.inl ⟨by kernel_rfl, ?_⟩
                intro w' hSw
                (try dsimp only at hSw)
                go_simp
                (try rfl)
              (try simp only [List.getElem_toArray, List.getElem_cons_succ, List.getElem_cons_zero, Act.put, List.setIfInBounds_toArray, List.set_cons_zero, List.set_cons_succ])
              refine wpAnyH_take (i := 21) (oi := ?o19) (v := ?v19) ?hi19 ?hs19 ?hf19 ?hr19 ?hQ19 ?hy19 ?hS19 ?rest19
              case hi19 => rfl
              case hs19 => kernel_rfl
              case hf19 => kernel_rfl
              case hr19 => kernel_rfl
              case hQ19 => exact fun _ _ _ h => h
              case hS19 => assumption
              case hy19 =>
                refine Or.inl ⟨by kernel_rfl, ?_⟩
                intro w' hSw
                (try dsimp only at hSw)
                go_simp
                (try rfl)
              (try simp only [List.getElem_toArray, List.getElem_cons_succ, List.getElem_cons_zero, Act.put, List.setIfInBounds_toArray, List.set_cons_zero, List.set_cons_succ])
              refine wpAnyH_ready (rs := [5]) (by kernel_rfl) (by simp) ?_
              refine AllReadyH.cons rfl (fun K hK => ?_) AllReadyH.nil
              go_simp
              refine (HBN.out x _ (.slice ac C.length cc) (RC.out.below (bt hBw hHeld.2.2))).mono ?_
              rintro e w20 ⟨rfl, B20⟩
              refine hK.out _ _ ?_ (fun hHeld => ?_)
              · exact ⟨(B20.cell (p := ⟨bl, ofl + j, none⟩) (World.block_lt_of_cell? _ _ hHeld.1)).trans hHeld.1, (B20.cell (p := ⟨bl, ofl + k, none⟩) (World.block_lt_of_cell? _ _ hHeld.2.1)).trans hHeld.2.1, bt hHeld.2.2 B20⟩
              clear hK K
              (try simp only [List.getElem_toArray, List.getElem_cons_succ, List.getElem_cons_zero, Act.put, List.setIfInBounds_toArray, List.set_cons_zero, List.set_cons_succ])
              refine wpAnyH_ready (rs := [11]) (by kernel_rfl) (by simp) ?_
              refine AllReadyH.cons rfl (fun K hK => ?_) AllReadyH.nil
              go_simp
              refine (HBN.out y _ (.slice ac C.length cc) (RC.out.below (bt hBw hHeld.2.2))).mono ?_
              rintro e w21 ⟨rfl, B21⟩
              refine hK.out _ _ ?_ (fun hHeld => ?_)
              · exact ⟨(B21.cell (p := ⟨bl, ofl + j, none⟩) (World.block_lt_of_cell? _ _ hHeld.1)).trans hHeld.1, (B21.cell (p := ⟨bl, ofl + k, none⟩) (World.block_lt_of_cell? _ _ hHeld.2.1)).trans hHeld.2.1, bt hHeld.2.2 B21⟩
              clear hK K
              (try simp only [List.getElem_toArray, List.getElem_cons_succ, List.getElem_cons_zero, Act.put, List.setIfInBounds_toArray, List.set_cons_zero, List.set_cons_succ])
              refine wpAnyH_ready (rs := [12]) (by kernel_rfl) (by simp) ?_
              refine AllReadyH.cons rfl (fun K hK => ?_) AllReadyH.nil
              go_simp
              refine hK.out _ _ ?_ (fun hHeld => ?_)
              · exact hHeld
              clear hK K
              (try simp only [List.getElem_toArray, List.getElem_cons_succ, List.getElem_cons_zero, Act.put, List.setIfInBounds_toArray, List.set_cons_zero, List.set_cons_succ])
              refine wpAnyH_ready (rs := [22]) (by kernel_rfl) (by simp) ?_
              refine AllReadyH.cons rfl (fun K hK => ?_) AllReadyH.nil
              go_simp
              refine hK.out _ _ ?_ (fun hHeld => ?_)
              · exact hHeld
              clear hK K
              (try simp only [List.getElem_toArray, List.getElem_cons_succ, List.getElem_cons_zero, Act.put, List.setIfInBounds_toArray, List.set_cons_zero, List.set_cons_succ])
              refine wpAnyH_done (by kernel_rfl) ?_ _
              refine NoPanic.normal ?_
              go_wp2_with fail
              go_roundg (n9 - (k + 1))
              case measure => omega
              case rel => exact ⟨k + 1, rfl, by go_num, by omega, bt hBi hHeld.2.2⟩
            · have hk1 : ¬ (k : Int) < n9 := by omega
              go_wp2_with fail
              go_roundg (n9 - (j + 1))
              case measure => omega
              case rel => exact ⟨j + 1, rfl, by go_num, by omega, hBw⟩
        · have hj1 : ¬ (j : Int) < n9 := by omega
          have RLr := RL2.out.below hB
          have RCr := Lib.hid (RC.out.below hB)
          have HBr := Lib.hid (bt HB2.out hB)
          clear hB
          go_wp2_with fail
          refine (HSP.out _ _ RLr).mono ?_
          rintro e w5 ⟨⟨ve, rfl, hoe⟩, B5⟩
          go_wp2_with fail
          refine (smI_B w5 _ _ C (RCr.out.below B5) (intRow_of_owns hoe (by omega))).mono ?_
          rintro e w6 ⟨rfl, B6⟩
          go_wp2_with fail
          go_ret
          exact ⟨rfl, bt (bt HBr.out B5) B6⟩
end Go.Proofs.Ytgknkjiifcnkpaa
