/-
  Whether a table is right, by the reference.
-/
import Derived.Test.YtgknkjiifcnkpaaPk4
namespace Go.Proofs.Ytgknkjiifcnkpaa
open Go.RowKit

/-- Whether a number may stand in a table. -/
def valB (n : Int) : Bool := inZ n (-2147483647) 2147483647
def nameAt (T : Tab) (i : Nat) : Bool := nameB (T.ns.getD i []) && !hasB (T.ns.take i) (T.ns.getD i [])
def rowAt (T : Tab) (i : Nat) : Bool := decide ((T.rs.getD i []).length = T.ns.length) && valB (T.ys.getD i 0) && (T.rs.getD i []).all valB
def headB (T : Tab) : Bool := inZ (T.ns.length : Int) 1 4 && nameB T.y && !hasB T.ns T.y && inZ (T.rs.length : Int) 1 40 && decide (T.ys.length = T.rs.length)
/-- Whether a table is right. -/
def okT (T : Tab) : Bool := headB T && (List.range T.ns.length).all (nameAt T) && (List.range T.rs.length).all (rowAt T)
theorem range_not {n i : Nat} {p : Nat → Bool} (hi : i < n) (h : p i = false) : (List.range n).all p = false := by
  rw [List.all_eq_false]
  exact ⟨i, List.mem_range.2 hi, by rw [h]; simp⟩
theorem range_all {n : Nat} {p : Nat → Bool} (h : ∀ i, i < n → p i = true) : (List.range n).all p = true := by
  rw [List.all_eq_true]
  exact fun i hi => h i (List.mem_range.1 hi)
theorem getD_at {α : Type} {L : List α} {i : Nat} {x d : α} (h : L[i]? = some x) : L.getD i d = x := by
  rw [List.getD_eq_getElem?_getD, h]
  rfl
theorem zall_succ {L : List Int} {k : Nat} {z : Int} {p : Int → Bool} (hz : L[k]? = some z) : (L.take (k + 1)).all p = ((L.take k).all p && p z) := by
  rw [List.take_add_one, hz, List.all_append]
  simp
theorem zall_not {L : List Int} {k : Nat} {z : Int} {p : Int → Bool} (hz : L[k]? = some z) (h : p z = false) : L.all p = false := by
  rw [List.all_eq_false]
  exact ⟨z, List.mem_of_getElem? hz, by rw [h]; simp⟩
theorem sRow_cap {w : World} {a : Option Addr} {n c : Nat} {L : List (List UInt8)} (h : StrRow w (.slice a n c) L) (hn : 0 < n) : n ≤ c := by
  rcases h with ⟨_, a', c1, e⟩ | ⟨b, off, c1, e, h1, h2, h3⟩
  · injection e with e1 e2 e3
    omega
  · injection e with e1 e2 e3
    omega
theorem lt_succ_all {p : Nat → Bool} {j : Nat} (h : ∀ i, i < j → p i = true) (hj : p j = true) : ∀ i, i < j + 1 → p i = true := by
  intro i hi
  by_cases e : i = j
  · rw [e]; exact hj
  · exact h i (by omega)
theorem sRow_take {w : World} {a : Option Addr} {n c : Nat} {L : List (List UInt8)} (h : StrRow w (.slice a n c) L) {i : Nat} (hi : i ≤ n) (hn : L.length = n) (c' : Nat) (hc : i ≤ c') : StrRow w (.slice a i c') (L.take i) := by
  have hl : (L.take i).length = i := by rw [List.length_take]; omega
  rcases h with ⟨rfl, a', c1, e⟩ | ⟨b, off, c1, e, h1, h2, h3⟩
  · injection e with e1 e2 e3
    have : i = 0 := by omega
    subst this
    exact Or.inl ⟨by simp, a, c', rfl⟩
  · injection e with e1 e2 e3
    subst e1
    refine Or.inr ⟨b, off, c', by rw [hl], by omega, by omega, fun j z hj => ?_⟩
    have hji : j < i := by
      have := (List.getElem?_eq_some_iff.1 hj).1
      omega
    rw [List.getElem?_take, if_pos hji] at hj
    exact h3 j z hj

set_option maxRecDepth 100000 in
theorem specVal9 (n : Int) (w : World) (r : Bool) (hr : valB n = r) :
    Calls Try.prog 62 #[.int .i64 n] w fun e w' => e = .returned (.bool r) ∧ w = w' := by
  have HR := Lib.hid hr
  clear hr
  go_enter Try.func62, Try.ntmps62
  go_wp2_with fail
  refine (specIn9 n (-2147483647) 2147483647 _).mono ?_
  rintro e w1 ⟨rfl, rfl⟩
  go_wp2_with fail
  go_ret
  exact ⟨ret_bool9 HR.out, rfl⟩
theorem specName9 (p : List UInt8) (hp : p.length ≤ 9223372036854775807) (w : World) (r : Bool) (hr : nameB p = r) :
    Calls Try.prog 60 #[.string ⟨p.toArray⟩] w fun e w' => e = .returned (.bool r) ∧ ∃ k, w' = w.drewN k :=
  (specName ⟨p.toArray⟩ w (by show p.toArray.size ≤ _; simpa using hp)).mono fun e w' ⟨he, hB⟩ => ⟨by rw [he, ← hr], hB⟩

set_option maxRecDepth 100000 in
set_option maxHeartbeats 8000000 in
theorem specTableOk (T : Tab) (u1 u2 u3 : Value) (w : World) (h : TabRow w T u1 u2 u3) (hyl : T.y.length ≤ 9223372036854775807) (hnl : ∀ p ∈ T.ns, p.length ≤ 9223372036854775807) (r : Bool) (hr : Hid (okT T = r)) :
    Calls Try.prog 25 #[.agg #[u1, .string ⟨T.y.toArray⟩, u2, u3]] w fun e w' => e = .returned (.bool r) ∧ Below w.heap.size w w' := by
  obtain ⟨p1, p2, p3⟩ := h
  obtain ⟨a1, c1, rfl, hl1, hf1⟩ := sRow_cells p1
  obtain ⟨a2, c2, rfl, hl2, hf2⟩ := iiRow_cells p2
  obtain ⟨a3, c3, rfl, hl3, hf3⟩ := intRow_form p3
  have HF1 := Lib.hid hf1
  have HF2 := Lib.hid hf2
  have HF3 := Lib.hid hf3
  obtain ⟨n, hn⟩ : ∃ n : Nat, T.ns.length = n := ⟨_, rfl⟩
  obtain ⟨m, hm⟩ : ∃ n : Nat, T.rs.length = n := ⟨_, rfl⟩
  obtain ⟨l, hl⟩ : ∃ n : Nat, T.ys.length = n := ⟨_, rfl⟩
  rw [hn] at hl1 p1 ⊢
  rw [hm] at hl2 p2 ⊢
  rw [hl] at hl3 p3 ⊢
  have hA := bl_al w (.cells #[.slice a1 n c1, .string ⟨T.y.toArray⟩, .slice a2 m c2, .slice a3 l c3] 34)
  have x := alloc_blk w #[.slice a1 n c1, .string ⟨T.y.toArray⟩, .slice a2 m c2, .slice a3 l c3] 34
  obtain ⟨b1, hb1⟩ : ∃ b, inZ (n : Int) 1 4 = b := ⟨_, rfl⟩
  obtain ⟨b2, hb2⟩ : ∃ b, nameB T.y = b := ⟨_, rfl⟩
  obtain ⟨b3, hb3⟩ : ∃ b, hasB T.ns T.y = b := ⟨_, rfl⟩
  obtain ⟨b4, hb4⟩ : ∃ b, inZ (m : Int) 1 40 = b := ⟨_, rfl⟩
  have HO : Hid (okT T = (b1 && b2 && !b3 && b4 && decide (l = m) && (List.range n).all (nameAt T) && (List.range m).all (rowAt T))) := Lib.hid (by
    rw [okT, headB, hn, hm, hl, hb1, hb2, hb3, hb4])
  have B1 := Lib.hid hb1
  have B2 := Lib.hid hb2
  have B3 := Lib.hid hb3
  have B4 := Lib.hid hb4
  have HN := Lib.hid hn
  have HM := Lib.hid hm
  have HL := Lib.hid hl
  have HNL := Lib.hid hnl
  have P1 := Lib.hid p1
  have P2 := Lib.hid p2
  have P3 := Lib.hid p3
  clear hb1 hb2 hb3 hb4 hn hm hl hnl hf1 hf2 hf3 p1 p2 p3
  have x0 := cell_blk x 0
  go_enter Try.func25, Try.ntmps25
  go_wp2_with fail
  refine (specIn9 _ _ _ _).mono ?_
  rintro e w1 ⟨rfl, rfl⟩
  rw [B1.out]
  cases b1 with
  | false =>
    go_wp2_with fail
    go_ret
    exact ⟨ret_bool9 (by rw [← hr.out, HO.out]; rfl), hA⟩
  | true =>
  have hn4 := inZ_iff.1 B1.out
  have x1 := cell_blk x 1
  go_wp2_with fail
  refine (specName9 T.y hyl _ b2 B2.out).mono ?_
  rintro e w1 ⟨rfl, q1, hw1⟩
  have hC1 : Below w.heap.size w w1 := hw1 ▸ below_drewN2 hA q1
  have y1 : w1.heap[w.heap.size]? = some (.cells #[.slice a1 n c1, .string ⟨T.y.toArray⟩, .slice a2 m c2, .slice a3 l c3] 34 (0, 0)) := hw1 ▸ x
  clear hw1
  cases b2 with
  | false =>
    go_wp2_with fail
    go_ret
    exact ⟨ret_bool9 (by rw [← hr.out, HO.out]; rfl), hC1⟩
  | true =>
  have x0 := cell_blk y1 0
  have x1 := cell_blk y1 1
  go_wp2_with fail
  refine (specHas _ _ T.ns T.y (P1.out.below hC1) b3 B3.out).mono ?_
  rintro e w2 ⟨rfl, q2, rfl⟩
  have hB2 := below_drewN2 (Below.refl w1.heap.size w1) q2
  have hC2 := bt hC1 hB2
  have y2 := blk_next y1 hB2
  obtain ⟨w3, hw3⟩ : ∃ w3, w1.drewN q2 = w3 := ⟨_, rfl⟩
  rw [hw3] at hB2 hC2 y2 ⊢
  clear hw3
  cases b3 with
  | true =>
    go_wp2_with fail
    go_ret
    exact ⟨ret_bool9 (by rw [← hr.out, HO.out]; rfl), hC2⟩
  | false =>
  have x2 := cell_blk y2 2
  go_wp2_with fail
  refine (specIn9 _ _ _ _).mono ?_
  rintro e w4 ⟨rfl, rfl⟩
  rw [B4.out]
  cases b4 with
  | false =>
    go_wp2_with fail
    go_ret
    exact ⟨ret_bool9 (by rw [← hr.out, HO.out]; rfl), hC2⟩
  | true =>
  have hm4 := inZ_iff.1 B4.out
  have x3 := cell_blk y2 3
  by_cases hlm : l = m
  · have HLM := Lib.hid hlm
    subst hlm
    clear x0 x1 x2 x3 y1 x hC1 hA hB2
    have x0 := cell_blk y2 0
    have x2 := cell_blk y2 2
    have x3 := cell_blk y2 3
    have HOK : Hid (okT T = ((List.range n).all (nameAt T) && (List.range l).all (rowAt T))) := Lib.hid (by rw [HO.out, decide_eq_true rfl]; simp)
    go_wp2_with fail
    go_loopw [4] (fun i wr => ∃ j : Nat, j ≤ n ∧ i = .int .i64 j ∧ (∀ i, i < j → nameAt T i = true) ∧ Below w3.heap.size w3 wr) (fun i _ => n - (intOf i).toNat)
    case atStart => exact ⟨0, Nat.zero_le _, rfl, fun i hi => by omega, Below.refl _ _⟩
    case round =>
      clear x0 x2 x3
      obtain ⟨j, hj, rfl, hnm, hB⟩ := hrel
      have HNM := Lib.hid hnm
      clear hnm
      have yr := blk_next y2 hB
      have hCr := bt hC2 hB
      by_cases hlt : j < n
      · have hj1 : (j : Int) < n := by omega
        have hj0 : (0 : Int) ≤ j := by omega
        obtain ⟨p, hp⟩ : ∃ r, T.ns[j]? = some r := ⟨_, List.getElem?_eq_getElem (by rw [HN.out]; exact hlt)⟩
        have hpl := HNL.out p (List.mem_of_getElem? hp)
        have hcap := sRow_cap P1.out (by omega)
        obtain ⟨b, off, rfl, hcp⟩ := HF1.out j p hp
        have hbl := World.block_lt_of_cell? w _ hcp
        have hc1 := (hCr.cell (p := ⟨b, off + j, none⟩) hbl).trans hcp
        obtain ⟨b5, hb5⟩ : ∃ b, nameB p = b := ⟨_, rfl⟩
        obtain ⟨b6, hb6⟩ : ∃ b, hasB (T.ns.take j) p = b := ⟨_, rfl⟩
        have HA : Hid (nameAt T j = (b5 && !b6)) := Lib.hid (by rw [nameAt, getD_at hp, hb5, hb6])
        have B5 := Lib.hid hb5
        have B6 := Lib.hid hb6
        clear hp hb5 hb6
        have x0 := cell_blk yr 0
        have hjc : (j : Int) ≤ c1 := by omega
        have R1 : ∀ z, Hid (StrRow (wr.drewN z) (.slice (some ⟨b, off, none⟩) j c1) (T.ns.take j)) := fun z => (sRow_take P1.out (by omega) HN.out c1 (by omega)).below (below_drewN2 hCr z)
        have KN : ∀ z, Hid (Calls Try.prog 60 #[.string ⟨p.toArray⟩] (wr.drewN z) fun e w' => e = .returned (.bool b5) ∧ ∃ k, w' = (wr.drewN z).drewN k) := fun z => specName9 p hpl _ b5 B5.out
        have KH : ∀ z, Hid (Calls Try.prog 61 #[.slice (some ⟨b, off, none⟩) j c1, .string ⟨p.toArray⟩] (wr.drewN z) fun e w' => e = .returned (.bool b6) ∧ ∃ k, w' = (wr.drewN z).drewN k) := fun z => specHas _ _ (T.ns.take j) p (R1 z).out b6 B6.out
        clear R1 y2 hC2
        cases b5 with
        | false =>
          go_wp2_with fail
          go_quiet (first | (go_at_call 60; exact Calls.quiet_of (KN _).out) | (go_at_call 61; exact Calls.quiet_of (KH _).out))
          go_wp2_with fail
          go_ret
          exact ⟨ret_bool9 (by rw [← hr.out, HOK.out, range_not hlt HA.out]; rfl), below_drewN2 hCr _⟩
        | true =>
        cases b6 with
        | true =>
          go_wp2_with fail
          go_quiet (first | (go_at_call 60; exact Calls.quiet_of (KN _).out) | (go_at_call 61; exact Calls.quiet_of (KH _).out))
          go_wp2_with fail
          go_ret
          exact ⟨ret_bool9 (by rw [← hr.out, HOK.out, range_not hlt HA.out]; rfl), below_drewN2 hCr _⟩
        | false =>
          go_wp2_with fail
          go_quiet (first | (go_at_call 60; exact Calls.quiet_of (KN _).out) | (go_at_call 61; exact Calls.quiet_of (KH _).out))
          go_wp2_with fail
          go_roundw
          case rel => exact ⟨j + 1, by omega, by go_num, lt_succ_all HNM.out HA.out, below_drewN2 hB _⟩
          case measure => simp [intOf]; omega
      · have HOK2 : Hid (okT T = (List.range l).all (rowAt T)) := Lib.hid (by
          have e : (List.range n).all (nameAt T) = true := range_all (fun i hi => HNM.out i (by omega))
          rw [HOK.out, e]
          rfl)
        have hj1 : ¬ (j : Int) < n := by omega
        have hje : j = n := by omega
        clear HOK HNM y2 hC2 hB hj hje
        obtain ⟨wA, hwA⟩ : ∃ x, x = wr := ⟨_, rfl⟩
        subst hwA
        have x2 := cell_blk yr 2
        go_wp2_with fail
        go_loopg [5, 6] l (fun g i _ wr => ∃ k : Nat, k ≤ l ∧ g = l - k ∧ i = .int .i64 k ∧ (∀ i, i < k → rowAt T i = true) ∧ Below wA.heap.size wA wr)
        case atStart => exact ⟨0, Nat.zero_le _, rfl, rfl, fun i hi => by omega, Below.refl _ _⟩
        case round =>
          clear x2
          obtain ⟨k, hk, rfl, rfl, hrm, hB6⟩ := hrel
          have HRM := Lib.hid hrm
          clear hrm
          have y6 := blk_next yr hB6
          have hC6 := bt hCr hB6
          have x2 := cell_blk y6 2
          have x3 := cell_blk y6 3
          by_cases hkl : k < l
          · have hk1 : (k : Int) < l := by omega
            have hk0 : (0 : Int) ≤ k := by omega
            obtain ⟨rw', hrw⟩ : ∃ r, T.rs[k]? = some r := ⟨_, List.getElem?_eq_getElem (by rw [HM.out]; exact hkl)⟩
            obtain ⟨yv, hyv⟩ : ∃ r, T.ys[k]? = some r := ⟨_, List.getElem?_eq_getElem (by rw [HL.out]; exact hkl)⟩
            obtain ⟨b2, o2, u, rfl, hcu, hru⟩ := HF2.out k rw' hrw
            obtain ⟨b3, o3, rfl, hcy⟩ := HF3.out k yv hyv
            obtain ⟨a, c, rfl, hml, hf⟩ := intRow_form hru
            have hcr := (hC6.cell (p := ⟨b2, o2 + k, none⟩) (World.block_lt_of_cell? w _ hcu)).trans hcu
            have hcz := (hC6.cell (p := ⟨b3, o3 + k, none⟩) (World.block_lt_of_cell? w _ hcy)).trans hcy
            obtain ⟨m2, hm2⟩ : ∃ m2 : Nat, rw'.length = m2 := ⟨_, rfl⟩
            obtain ⟨b7, hb7⟩ : ∃ b, valB yv = b := ⟨_, rfl⟩
            have HRA : Hid (rowAt T k = (decide (m2 = n) && b7 && rw'.all valB)) := Lib.hid (by rw [rowAt, getD_at hrw, getD_at hyv, hm2, hb7, HN.out])
            have HM2 := Lib.hid hm2
            have HF := Lib.hid hf
            rw [hm2] at hcr hml
            have KV := Lib.hid (specVal9 yv wr b7 hb7)
            have HC6 := Lib.hid hC6
            have HB6 := Lib.hid hB6
            have Y6 := Lib.hid y6
            have HCR := Lib.hid hcr
            clear hrw hyv hcu hru hcy hf hm2 hb7 hCr yr hC6 hB6 y6
            by_cases hmn : m2 = n
            · subst hmn
              cases b7 with
              | false =>
                go_wp2_with fail
                refine KV.out.mono ?_
                rintro e w7 ⟨rfl, rfl⟩
                go_wp2_with fail
                go_ret
                exact ⟨ret_bool9 (by rw [← hr.out, HOK2.out, range_not hkl (by rw [HRA.out]; simp)]), HC6.out⟩
              | true =>
                go_wp2_with fail
                refine KV.out.mono ?_
                rintro e w7 ⟨rfl, rfl⟩
                go_wp2_with fail
                go_loopg [6] m2 (fun g i wv => ∃ q z : Nat, q ≤ m2 ∧ g = m2 - q ∧ i = .int .i64 q ∧ (rw'.take q).all valB = true ∧ wv = wr.drewN z)
                case atStart => exact ⟨0, 0, Nat.zero_le _, rfl, rfl, rfl, rfl⟩
                case round =>
                  clear x2 x3 hcr hcz
                  obtain ⟨q, z, hq, rfl, rfl, hav, rfl⟩ := hrel
                  have HAV := Lib.hid hav
                  clear hav
                  have x2 : (wr.drewN z).cell? ⟨w.heap.size, 2, none⟩ = _ := cell_blk Y6.out 2
                  by_cases hqm : q < m2
                  · have hq1 : (q : Int) < m2 := by omega
                    have hq0 : (0 : Int) ≤ q := by omega
                    obtain ⟨zz, hzz⟩ : ∃ zz, rw'[q]? = some zz := ⟨_, List.getElem?_eq_getElem (by rw [HM2.out]; exact hqm)⟩
                    obtain ⟨b9, o9, rfl, hc9⟩ := HF.out q zz hzz
                    have g1 : (wr.drewN z).cell? ⟨b2, o2 + k, none⟩ = _ := HCR.out
                    have g2 : (wr.drewN z).cell? ⟨b9, o9 + q, none⟩ = _ := (HC6.out.cell (p := ⟨b9, o9 + q, none⟩) (World.block_lt_of_cell? w _ hc9)).trans hc9
                    obtain ⟨b8, hb8⟩ : ∃ b, valB zz = b := ⟨_, rfl⟩
                    have HZ := Lib.hid hzz
                    have HB8 := Lib.hid hb8
                    clear hzz hc9 hb8
                    obtain ⟨wv, hwv⟩ : ∃ wv, wr.drewN z = wv := ⟨_, rfl⟩
                    rw [hwv] at x2 g1 g2 ⊢
                    have HW := Lib.hid hwv
                    clear hwv
                    go_wp2_with fail
                    refine (specVal9 zz _ b8 HB8.out).mono ?_
                    rintro e w7 ⟨rfl, rfl⟩
                    cases b8 with
                    | false =>
                      go_wp2_with fail
                      go_ret
                      exact ⟨ret_bool9 (by rw [← hr.out, HOK2.out, range_not hkl (by rw [HRA.out, zall_not HZ.out HB8.out]; simp)]), by rw [← HW.out]; exact below_drewN2 HC6.out _⟩
                    | true =>
                      go_wp2_with fail
                      go_roundg (m2 - (q + 1))
                      case measure => omega
                      case rel => exact ⟨q + 1, z, by omega, rfl, by go_num, by rw [zall_succ HZ.out, HAV.out, HB8.out]; rfl, HW.out.symm⟩
                  · have hq1 : ¬ (q : Int) < m2 := by omega
                    have HALL : Hid (rw'.all valB = true) := Lib.hid (by
                      have h := HAV.out
                      rw [List.take_of_length_le (by rw [HM2.out]; omega)] at h
                      exact h)
                    obtain ⟨wv, hwv⟩ : ∃ wv, wr.drewN z = wv := ⟨_, rfl⟩
                    rw [hwv] at x2 ⊢
                    have HW := Lib.hid hwv
                    clear hwv
                    go_wp2_with fail
                    go_roundg (l - (k + 1))
                    case measure => omega
                    case rel => exact ⟨k + 1, by omega, rfl, by go_num, lt_succ_all HRM.out (by rw [HRA.out, HALL.out]; simp), by rw [← HW.out]; exact below_drewN2 HB6.out _⟩
            · have hmn1 : ¬ (m2 : Int) = n := by omega
              have hmn2 : (m2 == n) = false := beq_eq_false_iff_ne.2 hmn
              have HMN := Lib.hid hmn
              go_wp2_with fail
              go_ret
              exact ⟨ret_bool9 (by rw [← hr.out, HOK2.out, range_not hkl (by rw [HRA.out, decide_eq_false HMN.out]; rfl)]), HC6.out⟩
          · have hk1 : ¬ (k : Int) < l := by omega
            have e : (List.range l).all (rowAt T) = true := range_all (fun i hi => HRM.out i (by omega))
            have HE := Lib.hid (HOK2.out.trans e)
            clear e
            go_wp2_with fail
            go_ret
            exact ⟨ret_bool9 (by rw [← hr.out, HE.out]), hC6⟩
  · have hlm1 : ¬ (l : Int) = m := by omega
    have hlm2 : (l == m) = false := beq_eq_false_iff_ne.2 hlm
    go_wp2_with fail
    go_ret
    exact ⟨ret_bool9 (by rw [← hr.out, HO.out, decide_eq_false hlm]; rfl), hC2⟩
end Go.Proofs.Ytgknkjiifcnkpaa
