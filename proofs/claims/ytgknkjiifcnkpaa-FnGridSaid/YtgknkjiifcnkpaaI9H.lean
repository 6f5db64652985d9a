/-
  What is wrong with the names of a table, the program's way.
-/
import Derived.Test.YtgknkjiifcnkpaaI9N
import Derived.Test.YtgknkjiifcnkpaaPk5
namespace Go.Proofs.Ytgknkjiifcnkpaa
open Go.RowKit

/-- A fault as an error; none is nil. -/
def errV9 (c a k : Nat) : Value := if c = 0 then .nilIface else .iface 98 (.agg #[.int .i64 c, .int .i64 a, .int .i64 k])
theorem errV9_nil (a k : Nat) : errV9 0 a k = .nilIface := rfl
theorem errV9_some {c : Nat} (h : ¬ c = 0) (a k : Nat) : errV9 c a k = .iface 98 (.agg #[.int .i64 c, .int .i64 a, .int .i64 k]) := by rw [errV9, if_neg h]
theorem ret_err9 {c j a b : Nat} (h : (a, b) = (c, j)) (v : Value) (hv : v = errV9 c 0 j) : Ending.returned v = .returned (errV9 a 0 b) := by
  injection h with h1 h2
  subst h1
  subst h2
  rw [hv]
set_option maxRecDepth 100000 in
set_option maxHeartbeats 2000000 in
theorem index9_some (w : World) (a : Option Addr) (c : Nat) (L : List (List UInt8)) (p : List UInt8) (hl : L.length ≤ 9223372036854775807)
    (hc : ∀ (q : Nat) r, L[q]? = some r → ∃ b off, a = some ⟨b, off, none⟩ ∧ w.cell? ⟨b, off + q, none⟩ = some (.string ⟨r.toArray⟩)) :
    Calls Try.prog 118 #[.slice a L.length c, .string ⟨p.toArray⟩] w fun e w' => (∃ z : Int, e = .returned (.int .i64 z) ∧ decide (0 ≤ z) = hasB L p) ∧ ∃ k, w' = w.drewN k := by
  have HC := Lib.hid hc
  clear hc
  obtain ⟨n, hn⟩ : ∃ n : Nat, L.length = n := ⟨_, rfl⟩
  rw [hn] at hl ⊢
  have HE := Lib.hid hn
  clear hn
  go_enter Try.func118, Try.ntmps118
  go_wp2_with fail
  go_loopg [5, 8] n (fun g _ i wr => ∃ j z : Nat, j ≤ n ∧ g = n - j ∧ i = .int .i64 j ∧ wr = w.drewN z ∧ ¬ p ∈ L.take j)
  case atStart => exact ⟨0, 0, Nat.zero_le _, rfl, rfl, rfl, by simp⟩
  case round =>
    obtain ⟨j, z, hj, rfl, rfl, rfl, ht⟩ := hrel
    have HT := Lib.hid ht
    clear ht
    by_cases hlt : j < n
    · have hj1 : (j : Int) < n := by omega
      have hj0 : (0 : Int) ≤ j := by omega
      obtain ⟨x, hx⟩ : ∃ r, L[j]? = some r := ⟨_, List.getElem?_eq_getElem (by rw [HE.out]; exact hlt)⟩
      obtain ⟨b, off, rfl, hcx⟩ := HC.out j x hx
      have HX := Lib.hid hx
      have g1 : (w.drewN z).cell? ⟨b, off + j, none⟩ = some (.string ⟨x.toArray⟩) := hcx
      obtain ⟨wq, hwq⟩ : ∃ wq, w.drewN z = wq := ⟨_, rfl⟩
      rw [hwq] at g1 ⊢
      have HW := Lib.hid hwq
      clear hwq hcx hx
      by_cases hxx : p = x
      · subst hxx
        go_wp2_with fail
        go_ret
        exact ⟨⟨_, rfl, by rw [hasB_yes HX.out, decide_eq_true hj0]⟩, _, HW.out.symm⟩
      · have HXX := Lib.hid (fun e : x = p => hxx e.symm)
        have hne : (p == x) = false := beq_eq_false_iff_ne.2 hxx
        have hne2 := str_ne hxx
        go_wp2_with fail
        go_roundg (n - (j + 1))
        case measure => omega
        case rel => exact ⟨j + 1, _, by omega, rfl, by go_num, HW.out.symm, notmem_succ HX.out HT.out HXX.out⟩
    · obtain rfl : j = n := by omega
      have hj1 : ¬ (j : Int) < j := by omega
      have HN : Hid (¬ p ∈ L) := Lib.hid (by
        have h := HT.out
        rwa [List.take_of_length_le (by rw [HE.out]; exact Nat.le_refl _)] at h)
      go_wp2_with fail
      go_ret
      exact ⟨⟨_, rfl, (hasB_no HN.out).symm⟩, _, rfl⟩
set_option maxRecDepth 100000 in
theorem contains9 (w : World) (v : Value) (L : List (List UInt8)) (p : List UInt8) (h : StrRow w v L) (r : Bool) (hr : hasB L p = r) :
    Calls Try.prog 98 #[v, .string ⟨p.toArray⟩] w fun e w' => e = .returned (.bool r) ∧ Below w.heap.size w w' := by
  obtain ⟨a, c, rfl, hl, hc⟩ := sRow_cells h
  have HC := Lib.hid (index9_some w a c L p hl hc)
  clear hc h
  go_enter Try.func98, Try.ntmps98
  go_wp2_with fail
  refine HC.out.mono ?_
  rintro e w1 ⟨⟨z, rfl, hz⟩, q, rfl⟩
  have HZ := Lib.hid (hz.trans hr)
  clear hz
  go_wp2_with fail
  go_ret
  exact ⟨ret_bool9 HZ.out, below_drewN2 (Below.refl _ _) q⟩

set_option maxRecDepth 100000 in
set_option maxHeartbeats 2000000 in
/-- WHAT IS WRONG WITH THE NAMES. -/
theorem implHead9 (v : Value) (L : List (List UInt8)) (w : World) (h : StrRow w v L) (hnl : ∀ p ∈ L, p.length ≤ 9223372036854775807) :
    Calls Try.prog 83 #[v] w fun e w' => e = .returned (errV9 (headF L).1 0 (headF L).2) ∧ Below w.heap.size w w' := by
  have P1 := Lib.hid h
  obtain ⟨a1, c1, rfl, hl1, hf1⟩ := sRow_cells h
  have HF1 := Lib.hid hf1
  obtain ⟨n, hn⟩ : ∃ n : Nat, L.length = n := ⟨_, rfl⟩
  rw [hn] at hl1 P1 ⊢
  obtain ⟨b1, hb1⟩ : ∃ b, inZ (n : Int) 2 5 = b := ⟨_, rfl⟩
  have HO : Hid (headF L = if b1 = true then headG L n 0 else (7, 0)) := Lib.hid (by rw [headF, hn, hb1])
  have B1 := Lib.hid hb1
  have HN := Lib.hid hn
  have HNL := Lib.hid hnl
  clear hb1 hn hnl hf1 h
  go_enter Try.func83, Try.ntmps83
  go_wp2_with fail
  refine (inRange9 _ _ _ _).mono ?_
  rintro e w1 ⟨rfl, rfl⟩
  rw [B1.out]
  cases b1 with
  | false =>
    go_wp2_with fail
    go_ret
    exact ⟨ret_err9 (c := 7) (j := 0) (by rw [HO.out]; rfl) _ rfl, Below.refl _ _⟩
  | true =>
    have hn4 := inZ_iff.1 B1.out
    have HOT : Hid (headF L = headG L n 0) := Lib.hid HO.out
    clear HO
    go_wp2_with fail
    go_loopg [3, 4, 14] n (fun g _ _ i wr => ∃ j : Nat, j ≤ n ∧ g = n - j ∧ i = .int .i64 j ∧ headF L = headG L (n - j) j ∧ Below w.heap.size w wr)
    case atStart => exact ⟨0, Nat.zero_le _, rfl, rfl, HOT.out, Below.refl _ _⟩
    case round =>
      obtain ⟨j, hj, rfl, rfl, hg, hB⟩ := hrel
      have HG := Lib.hid hg
      have HB := Lib.hid hB
      clear hg hB
      by_cases hlt : j < n
      · have hj1 : (j : Int) < n := by omega
        have hj0 : (0 : Int) ≤ j := by omega
        obtain ⟨p, hp⟩ : ∃ r, L[j]? = some r := ⟨_, List.getElem?_eq_getElem (by rw [HN.out]; exact hlt)⟩
        have hpl := HNL.out p (List.mem_of_getElem? hp)
        have hcap := sRow_cap P1.out (by omega)
        obtain ⟨b, off, rfl, hcp⟩ := HF1.out j p hp
        have hc1 := (HB.out.cell (p := ⟨b, off + j, none⟩) (World.block_lt_of_cell? w _ hcp)).trans hcp
        obtain ⟨b5, hb5⟩ : ∃ b, nameB p = b := ⟨_, rfl⟩
        obtain ⟨b6, hb6⟩ : ∃ b, hasB (L.take j) p = b := ⟨_, rfl⟩
        have HP := Lib.hid hp
        have B5 := Lib.hid hb5
        have B6 := Lib.hid hb6
        have KN : Hid (∀ w, Calls Try.prog 97 #[.string ⟨p.toArray⟩] w fun e w' => e = .returned (.bool b5) ∧ Below w.heap.size w w') := Lib.hid (fun w => (implName ⟨p.toArray⟩ w (by rw [Lib.size_eq]; exact hpl)).mono fun e w' ⟨he, hB⟩ => ⟨by rw [he, ← hb5], hB⟩)
        clear hp hb5 hb6 hcp
        have hjc : (j : Int) ≤ c1 := by omega
        go_wp2_with fail
        refine (KN.out _).mono ?_
        rintro e w2 ⟨rfl, hB2⟩
        have HB2 := Lib.hid (bt HB.out hB2)
        clear hB2 HB
        cases b5 with
        | false =>
          go_wp2_with fail
          go_ret
          exact ⟨ret_err9 (c := 5) (j := j) (by rw [HG.out, headG_bad1 hlt HP.out B5.out]) _ rfl, HB2.out⟩
        | true =>
          go_wp2_with fail
          refine (contains9 _ _ (L.take j) p ((sRow_take P1.out (by omega) HN.out c1 (by omega)).below HB2.out) b6 B6.out).mono ?_
          rintro e w3 ⟨rfl, hB3⟩
          have HB3 := Lib.hid (bt HB2.out hB3)
          clear hB3 HB2
          cases b6 with
          | true =>
            go_wp2_with fail
            go_ret
            exact ⟨ret_err9 (c := 6) (j := j) (by rw [HG.out, headG_bad2 hlt HP.out B5.out B6.out]) _ rfl, HB3.out⟩
          | false =>
            go_wp2_with fail
            go_roundg (n - (j + 1))
            case measure => omega
            case rel => exact ⟨j + 1, by omega, rfl, by go_num, by rw [HG.out, headG_next hlt HP.out B5.out B6.out], HB3.out⟩
      · have hj1 : ¬ (j : Int) < n := by omega
        go_wp2_with fail
        go_ret
        exact ⟨ret_err9 (c := 0) (j := 0) (by rw [HG.out, show n - j = 0 by omega]; rfl) _ rfl, HB.out⟩
end Go.Proofs.Ytgknkjiifcnkpaa
