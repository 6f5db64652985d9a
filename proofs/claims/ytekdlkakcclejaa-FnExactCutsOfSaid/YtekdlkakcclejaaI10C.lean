/-
  Whether cuts are right, the program's way.
-/
import Derived.Test.YtekdlkakcclejaaI9D
import Derived.Test.YtekdlkakcclejaaSrtU
namespace Go.Proofs.Ytekdlkakcclejaa
open Go.RowKit

/-- Each but the first is greater than the one ahead of it. -/
def ascB (zs : List Int) : Bool := (List.range zs.length).all fun k => k == 0 || decide (zs.getD (k - 1) 0 < zs.getD k 0)
theorem ascB_iff {zs : List Int} : ascB zs = true ↔ ∀ k, k < zs.length → k = 0 ∨ zs.getD (k - 1) 0 < zs.getD k 0 := by
  simp [ascB, List.all_eq_true]
theorem asc_cuts (zs : List Int) : (decide (zs.length < 8) && (zs.all valB && ascB zs)) = cutsB zs := by
  have hv : zs.all valB = (List.range zs.length).all fun k => valB (zs.getD k 0) := by
    rw [Bool.eq_iff_iff, List.all_eq_true, List.all_eq_true]
    refine ⟨fun h k hk => h _ (getD_mem (List.mem_range.1 hk)), fun h x hx => ?_⟩
    obtain ⟨k, hk, rfl⟩ := List.getElem_of_mem hx
    have := h k (List.mem_range.2 hk)
    rwa [getD_eq hk] at this
  have hb : (zs.all valB && ascB zs) = (List.range zs.length).all (okCuts zs) := by
    rw [hv, ascB, Bool.eq_iff_iff, Bool.and_eq_true, List.all_eq_true, List.all_eq_true, List.all_eq_true]
    refine ⟨fun h k hk => ?_, fun h => ⟨fun k hk => ?_, fun k hk => ?_⟩⟩
    · rw [okCuts, Bool.and_eq_true]
      exact ⟨h.1 k hk, h.2 k hk⟩
    · have := h k hk
      rw [okCuts, Bool.and_eq_true] at this
      exact this.1
    · have := h k hk
      rw [okCuts, Bool.and_eq_true] at this
      exact this.2
  rw [hb, cutsB, Bool.and_comm, show decide (zs.length < 8) = decide (zs.length ≤ 7) from decide_eq_decide.2 (by omega)]

set_option maxRecDepth 100000 in
set_option maxHeartbeats 1000000 in
theorem ascends9 (zs : List Int) (u : Value) (w : World) (h : IntRow w u zs) (hle : zs.length ≤ 1048576) :
    Calls Try.prog 37 #[u] w fun e w' => e = .returned (.bool (ascB zs)) ∧ ∃ q, w' = w.drewN q := by
  obtain ⟨a, c, rfl, hl9, hc⟩ := intRow_form h
  have HC := Lib.hid hc
  clear h hc
  obtain ⟨n, hn⟩ : ∃ n : Nat, zs.length = n := ⟨_, rfl⟩
  rw [hn] at hl9 hle ⊢
  have HE := Lib.hid hn
  clear hn
  go_enter Try.func37, Try.ntmps37
  go_wp2_with fail
  go_loopg [3] n (fun g_ i_ wr => ∃ j z : Nat, j ≤ n ∧ g_ = n - j ∧ i_ = .int .i64 ((j + 1 : Nat) : Int) ∧ wr = w.drewN z ∧ ∀ k, k ≤ j → k = 0 ∨ zs.getD (k - 1) 0 < zs.getD k 0)
  case atStart => exact ⟨0, 0, Nat.zero_le _, rfl, rfl, rfl, fun k hk => Or.inl (by omega)⟩
  case round =>
    obtain ⟨j, z, hj, rfl, rfl, rfl, ht⟩ := hrel
    have HT := Lib.hid ht
    clear ht
    by_cases hlt : j + 1 < n
    · have hj1 : ((j + 1 : Nat) : Int) < n := by omega
      have hj0 : (0 : Int) ≤ ((j + 1 : Nat) : Int) := by omega
      have hj2 : (j : Int) < n := by omega
      have hj3 : (0 : Int) ≤ j := by omega
      have hwp : IntKind.i64.wrap (((j + 1 : Nat) : Int) - 1) = (j : Int) := by rw [IntKind.wrap_i64]; omega
      obtain ⟨x, hx⟩ : ∃ x, zs[j]? = some x := ⟨_, List.getElem?_eq_getElem (by rw [HE.out]; omega)⟩
      obtain ⟨y, hy⟩ : ∃ y, zs[j + 1]? = some y := ⟨_, List.getElem?_eq_getElem (by rw [HE.out]; exact hlt)⟩
      have hdx : zs.getD j 0 = x := by rw [List.getD_eq_getElem?_getD, hx]; rfl
      have hdy : zs.getD (j + 1) 0 = y := by rw [List.getD_eq_getElem?_getD, hy]; rfl
      have HXY := Lib.hid (And.intro hdx hdy)
      obtain ⟨b, off, rfl, hcx⟩ := HC.out j x hx
      obtain ⟨b2, off2, he2, hcy⟩ := HC.out (j + 1) y hy
      injection he2 with he2
      injection he2 with e1 e2 _
      subst e1
      subst e2
      have hcellx : (w.drewN z).cell? ⟨b, off + j, none⟩ = some (.int .i64 x) := hcx
      have hcelly : (w.drewN z).cell? ⟨b, off + (j + 1), none⟩ = some (.int .i64 y) := hcy
      clear hx hy hcx hcy hdx hdy
      obtain ⟨wq, hwq⟩ : ∃ wq, w.drewN z = wq := ⟨_, rfl⟩
      rw [hwq] at hcellx hcelly ⊢
      have HW := Lib.hid hwq
      clear hwq
      by_cases hyx : y ≤ x
      · go_wp2_with fail
        go_quiet (fail)
        go_wp2_with fail
        go_ret
        refine ⟨congrArg Ending.returned (congrArg Value.bool ?_), _, by rw [← HW.out, World.drewN_drewN]⟩
        cases hs : ascB zs with
        | false => rfl
        | true =>
          have := ascB_iff.1 hs (j + 1) (by rw [HE.out]; exact hlt)
          rw [show j + 1 - 1 = j by omega, HXY.out.1, HXY.out.2] at this
          omega
      · go_wp2_with fail
        go_quiet (fail)
        go_wp2_with fail
        go_roundg (n - (j + 1))
        case measure => omega
        case rel =>
          refine ⟨j + 1, _, by omega, rfl, by go_num, by rw [← HW.out, World.drewN_drewN], fun k hk => ?_⟩
          by_cases hkj : k ≤ j
          · exact HT.out k hkj
          · obtain rfl : k = j + 1 := by omega
            right
            rw [show j + 1 - 1 = j by omega, HXY.out.1, HXY.out.2]
            omega
    · have hj1 : ¬ ((j + 1 : Nat) : Int) < n := by omega
      have HA : Hid (ascB zs = true) := Lib.hid (ascB_iff.2 fun k hk => HT.out k (by rw [HE.out] at hk; omega))
      go_wp2_with fail
      go_ret
      exact ⟨congrArg Ending.returned (congrArg Value.bool HA.out.symm), z, rfl⟩

set_option maxRecDepth 100000 in
/-- WHETHER CUTS ARE RIGHT. -/
theorem implCutsOk9 (zs : List Int) (u : Value) (w : World) (h : IntRow w u zs) (hle : zs.length ≤ 1048576) :
    Calls Try.prog 27 #[u] w fun e w' => e = .returned (.bool (cutsB zs)) ∧ Below w.heap.size w w' := by
  have h0 := Lib.hid h
  obtain ⟨a, c, rfl, hl9, hc⟩ := intRow_form h
  have HB := Lib.hid (asc_cuts zs)
  clear h hc
  by_cases h8 : zs.length < 8
  · have h81 : (zs.length : Int) < 8 := by omega
    have HD := Lib.hid (decide_eq_true h8)
    go_enter Try.func27, Try.ntmps27
    go_wp2_with fail
    refine (areDec9 _ _ zs zs.length h0.out).mono ?_
    rintro e w1 ⟨rfl, q1, rfl⟩
    rw [decide_eq_true rfl, Bool.true_and]
    cases hv : zs.all valB with
    | false =>
      have HV := Lib.hid hv
      clear hv
      go_wp2_with fail
      go_ret
      exact ⟨congrArg Ending.returned (congrArg Value.bool (by rw [← HB.out, HV.out, HD.out]; rfl)), below_drewN2 (Below.refl _ _) _⟩
    | true =>
      have HV := Lib.hid hv
      clear hv
      go_wp2_with fail
      refine (ascends9 zs _ _ (h0.out.below (below_drewN2 (Below.refl _ _) _)) hle).mono ?_
      rintro e w2 ⟨rfl, q2, rfl⟩
      go_wp2_with fail
      go_ret
      exact ⟨congrArg Ending.returned (congrArg Value.bool (by rw [← HB.out, HV.out, HD.out]; rfl)), below_drewN2 (Below.refl _ _) _⟩
  · have h81 : ¬ (zs.length : Int) < 8 := by omega
    have HD := Lib.hid (decide_eq_false h8)
    go_enter Try.func27, Try.ntmps27
    go_wp2_with fail
    go_ret
    exact ⟨congrArg Ending.returned (congrArg Value.bool (by rw [← HB.out, HD.out]; rfl)), Below.refl _ _⟩
end Go.Proofs.Ytekdlkakcclejaa
