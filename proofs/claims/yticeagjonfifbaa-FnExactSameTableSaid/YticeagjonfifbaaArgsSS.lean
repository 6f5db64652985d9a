/-
  What an argument of rows of texts gives the walks.
-/
import Derived.Test.YticeagjonfifbaaBas
import Derived.Test.YticeagjonfifbaaRowSS
import Derived.OpenShut
import Derived.SliceStrings
import Derived.Deep.Slices
import Derived.Carry
import Derived.SizedLaws
namespace Go.Proofs.Yticeagjonfifbaa
open Go.ChangeShapes Go.WideShapes Go.ChangeAt Go.RowKit

theorem cellsSlS : Try.prog.cellsOf 24 = 1 := by kernel_rfl

theorem addr_add {b off j : Nat} : (⟨b, off, none⟩ : Addr).add j = ⟨b, off + j, none⟩ := by unfold Addr.add; split <;> simp_all

theorem strs_trod {H : Type} {enc : TypeId × Value → H} {W : World} {sp : Nat → Bool} {base fuel : Nat} {held : Bool} {v : Value} {x : DataW H × List MemPlace}
    (h : DataW.trod enc Try.prog W base sp held fuel 24 [v] = some x) (hsp : ∀ b, sp b = true) :
    ∃ ps : List (List UInt8), StrRow W v ps ∧ ∀ p ∈ ps, p.length ≤ 9223372036854775807 := by
  rcases open_strings Try.underlying24 Try.underlying9 cellsStr h with ⟨hcs, hx⟩ | ⟨a', len', cap', ss, hcs, _, hl, hm, hz, hx, hcell, hwz⟩
  · obtain rfl : v = .slice none 0 0 := by simpa using hcs
    exact ⟨[], Or.inl ⟨rfl, _, _, rfl⟩, by simp⟩
  · obtain rfl : v = .slice (some a') len' cap' := by simpa using hcs
    simp only [hsp, if_true] at hz
    unfold maxLen at hm
    by_cases h0 : len' = 0
    · subst h0
      exact ⟨[], Or.inl ⟨rfl, _, _, rfl⟩, by simp⟩
    · obtain ⟨b, off, spot⟩ := a'
      have hspot : spot = none := by simpa [Addr.add] using World.cell?_spot (hcell 0 (by omega))
      subst hspot
      have hlen : ((ss.take len').map fun s => s.data.toList).length = len' := by simp; omega
      refine ⟨(ss.take len').map fun s => s.data.toList, Or.inr ⟨b, off, cap', by rw [hlen], by omega, by omega, fun j p hj => ?_⟩, ?_⟩
      · have hjn : j < len' := by
          have := (List.getElem?_eq_some_iff.1 hj).1
          omega
        have hc := hcell j (by omega)
        rw [addr_add] at hc
        rw [hc]
        rw [List.getElem?_map, List.getElem?_take, if_pos hjn, List.getElem?_eq_getElem (by omega)] at hj
        obtain rfl := Option.some.inj hj
        rw [List.getD_eq_getElem?_getD, List.getElem?_eq_getElem (by omega)]
        simp
      · intro p hp
        obtain ⟨s, hs, rfl⟩ := List.mem_map.1 hp
        have h1 := hwz s (List.mem_of_mem_take hs)
        unfold maxLen at h1
        have h2 := Lib.size_eq s
        omega

theorem rows_read {H : Type} {enc : TypeId × Value → H} {W : World} {sp : Nat → Bool} {a : Option Addr} {n c : Nat} {d : DataW H} {p : List MemPlace}
    (h : DataW.Trod enc Try.prog W 0 sp true 82 (.slice a n c) d p) (hsp : ∀ b, sp b = true := by intro _; rfl) :
    ∃ L : List (List (List UInt8)), SSRow W (.slice a n c) L ∧ ∀ r ∈ L, ∀ p ∈ r, p.length ≤ 9223372036854775807 := by
  obtain ⟨fuel, hf⟩ := h
  rcases Go.Deep.open_slice1 Try.underlying82 cellsSlS hf with ⟨hcs, hx⟩ | ⟨a', len', cap', m, n', V, D, Pl, hcs, _, hl, hm, hmm, hx, hcell⟩
  · simp [Value.cells] at hcs
    obtain ⟨rfl, rfl, rfl⟩ := hcs
    exact ⟨[], Or.inl ⟨rfl, _, _, rfl⟩, by simp⟩
  · simp [Value.cells] at hcs
    obtain ⟨rfl, rfl, rfl⟩ := hcs
    simp only [hsp, if_true] at hmm
    have hmc : m = c := hmm
    unfold maxLen at hm
    by_cases h0 : n = 0
    · subst h0
      exact ⟨[], Or.inl ⟨rfl, _, _, rfl⟩, by simp⟩
    · obtain ⟨b, off, spot⟩ := a'
      have hspot : spot = none := by simpa [Addr.add] using World.cell?_spot (hcell 0 (by omega)).1
      subst hspot
      obtain ⟨R, hR⟩ := Go.Deep.choose_lt (n := n) (p := fun i (ps : List (List UInt8)) => StrRow W (V i) ps ∧ ∀ p ∈ ps, p.length ≤ 9223372036854775807) (fun i hi => strs_trod (hcell i (by omega)).2 hsp)
      have hlen : ((List.range n).map R).length = n := by simp
      refine ⟨(List.range n).map R, Or.inr ⟨b, off, c, by rw [hlen], by omega, by omega, fun j row hj => ?_⟩, fun r hr => ?_⟩
      · have hjn : j < n := by
          have := (List.getElem?_eq_some_iff.1 hj).1
          omega
        have hc := (hcell j (by omega)).1
        rw [addr_add] at hc
        rw [List.getElem?_map, List.getElem?_range hjn] at hj
        obtain rfl := Option.some.inj hj
        exact ⟨V j, hc, (hR j hjn).1⟩
      · obtain ⟨i, hi, rfl⟩ := List.mem_map.1 hr
        exact (hR i (List.mem_range.1 hi)).2
end Go.Proofs.Yticeagjonfifbaa
