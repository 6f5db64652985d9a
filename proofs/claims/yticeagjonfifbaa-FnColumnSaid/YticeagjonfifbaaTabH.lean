/-
  Whether a text stands in a list of texts, by the reference.
-/
import Derived.Test.YticeagjonfifbaaTabQ
namespace Go.Proofs.Yticeagjonfifbaa
open Go.RowKit

/-- Whether p stands in L. -/
def hasB (L : List (List UInt8)) (p : List UInt8) : Bool := decide (p ∈ L)
theorem hasB_yes {L : List (List UInt8)} {p : List UInt8} {j : Nat} (h : L[j]? = some p) : hasB L p = true := decide_eq_true (List.mem_of_getElem? h)
theorem hasB_no {L : List (List UInt8)} {p : List UInt8} (h : ¬ p ∈ L) : hasB L p = false := decide_eq_false h
theorem notmem_succ {L : List (List UInt8)} {p x : List UInt8} {j : Nat} (hx : L[j]? = some x) (h : ¬ p ∈ L.take j) (hn : ¬ x = p) : ¬ p ∈ L.take (j + 1) := by
  rw [List.take_add_one, hx]
  intro hm
  rcases List.mem_append.1 hm with hm | hm
  · exact h hm
  · have : p = x := by simpa using hm
    exact hn this.symm
theorem sRow_cells {w : World} {v : Value} {L : List (List UInt8)} (h : StrRow w v L) : ∃ a c, v = .slice a L.length c ∧ L.length ≤ 9223372036854775807 ∧ (∀ (q : Nat) r, L[q]? = some r → ∃ b off, a = some ⟨b, off, none⟩ ∧ w.cell? ⟨b, off + q, none⟩ = some (.string ⟨r.toArray⟩)) := by
  rcases h with ⟨rfl, a, c, rfl⟩ | ⟨b, off, c, rfl, hl, _, hc⟩
  · exact ⟨a, c, rfl, by simp, by simp⟩
  · exact ⟨_, c, rfl, hl, fun q p hp => ⟨b, off, rfl, hc q p hp⟩⟩

set_option maxRecDepth 100000 in
set_option maxHeartbeats 2000000 in
theorem specHas_some (w : World) (a : Option Addr) (c : Nat) (L : List (List UInt8)) (p : List UInt8) (hl : L.length ≤ 9223372036854775807)
    (hc : ∀ (q : Nat) r, L[q]? = some r → ∃ b off, a = some ⟨b, off, none⟩ ∧ w.cell? ⟨b, off + q, none⟩ = some (.string ⟨r.toArray⟩)) :
    Calls Try.prog 31 #[.slice a L.length c, .string ⟨p.toArray⟩] w fun e w' => e = .returned (.bool (hasB L p)) ∧ ∃ k, w' = w.drewN k := by
  have HC := Lib.hid hc
  clear hc
  obtain ⟨n, hn⟩ : ∃ n : Nat, L.length = n := ⟨_, rfl⟩
  rw [hn] at hl ⊢
  have HE := Lib.hid hn
  clear hn
  go_enter Try.func31, Try.ntmps31
  go_wp2_with fail
  go_loopw [4, 5] (fun _ i wr => ∃ j z : Nat, j ≤ n ∧ i = .int .i64 j ∧ wr = w.drewN z ∧ ¬ p ∈ L.take j) (fun _ i _ => n - (intOf i).toNat)
  case atStart => exact ⟨0, 0, Nat.zero_le _, rfl, rfl, by simp⟩
  case round =>
    obtain ⟨j, z, hj, rfl, rfl, ht⟩ := hrel
    have HT := Lib.hid ht
    clear ht
    by_cases hlt : j < n
    · have hj1 : (j : Int) < n := by omega
      have hj0 : (0 : Int) ≤ j := by omega
      obtain ⟨x, hx⟩ : ∃ r, L[j]? = some r := ⟨_, List.getElem?_eq_getElem (by rw [HE.out]; exact hlt)⟩
      obtain ⟨b, off, rfl, hcx⟩ := HC.out j x hx
      have HX := Lib.hid hx
      have g1 : (w.drewN z).cell? ⟨b, off + j, none⟩ = some (.string ⟨x.toArray⟩) := hcx
      obtain ⟨wq, hwq⟩ : ∃ wq, w.drewN z = wq := ⟨_, rfl⟩
      rw [hwq] at g1 ⊢
      have HW := Lib.hid hwq
      clear hwq hcx hx
      by_cases hxx : x = p
      · have HXX := Lib.hid hxx
        subst hxx
        go_wp2_with fail
        go_ret
        exact ⟨ret_bool9 (hasB_yes HX.out).symm, _, HW.out.symm⟩
      · have HXX := Lib.hid hxx
        have hne : (x == p) = false := beq_eq_false_iff_ne.2 hxx
        have hne2 := str_ne hxx
        go_wp2_with fail
        go_roundw
        case rel => exact ⟨j + 1, _, by omega, by go_num, HW.out.symm, notmem_succ HX.out HT.out HXX.out⟩
        case measure => simp [intOf]; omega
    · obtain rfl : j = n := by omega
      have hj1 : ¬ (j : Int) < j := by omega
      have HN : Hid (¬ p ∈ L) := Lib.hid (by
        have h := HT.out
        rw [List.take_of_length_le (by rw [HE.out]; exact Nat.le_refl _)] at h
        exact h)
      go_wp2_with fail
      go_ret
      exact ⟨ret_bool9 (hasB_no HN.out).symm, z, rfl⟩

/-- WHETHER A TEXT STANDS IN A LIST. -/
theorem specHas (w : World) (v : Value) (L : List (List UInt8)) (p : List UInt8) (h : StrRow w v L) (r : Bool) (hr : hasB L p = r) :
    Calls Try.prog 31 #[v, .string ⟨p.toArray⟩] w fun e w' => e = .returned (.bool r) ∧ ∃ k, w' = w.drewN k := by
  obtain ⟨a, c, rfl, hl, hc⟩ := sRow_cells h
  rw [← hr]
  exact specHas_some w a c L p hl hc
end Go.Proofs.Yticeagjonfifbaa
