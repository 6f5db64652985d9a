/-
  What an argument of bytes gives the walks; the law's own look at its size.
-/
import Derived.Test.YtgknkjiifcnkpaaPk1
import Derived.OpenShut
import Derived.Lib.ItoaMem
import Derived.Carry
import Derived.SizedLaws
namespace Go.Proofs.Ytgknkjiifcnkpaa
open Go.ChangeShapes Go.WideShapes Go.ChangeAt Go.RowKit

theorem Bytes.mono {w w' : World} {v : Value} {n : Nat} (h : Bytes w v n) (hB : Below w.heap.size w w') : Bytes w' v n := by
  rcases h with ⟨c, rfl, rfl⟩ | ⟨a, c, rfl, rfl⟩ | ⟨b, off, c, rfl, hn, hcell⟩
  · exact Or.inl ⟨c, rfl, rfl⟩
  · exact Or.inr (Or.inl ⟨a, c, rfl, rfl⟩)
  · refine Or.inr (Or.inr ⟨b, off, c, rfl, hn, fun j hj => ?_⟩)
    obtain ⟨hb, z, z0, z1, hz⟩ := hcell j hj
    exact ⟨Nat.lt_of_lt_of_le hb hB.size, z, z0, z1, (hB.cell (p := ⟨b, off + j, none⟩) hb).trans hz⟩

theorem Bytes.shape {w : World} {v : Value} {n : Nat} (h : Bytes w v n) : ∃ a c, v = .slice a n c := by
  rcases h with ⟨c, rfl, rfl⟩ | ⟨a, c, rfl, rfl⟩ | ⟨b, off, c, rfl, _, _⟩
  · exact ⟨_, _, rfl⟩
  · exact ⟨_, _, rfl⟩
  · exact ⟨_, _, rfl⟩

theorem big_yes (w : World) (v : Value) (n : Nat) (hb : Bytes w v n) (h : 1048576 < n) :
    Calls Try.prog 11 #[v] w fun e w' => e = .returned (.bool true) ∧ w = w' := by
  have hn : (1048576 : Int) < n := by omega
  obtain ⟨a, c, rfl⟩ := hb.shape
  clear hb
  go_enter Try.func11, Try.ntmps11
  go_wp2
  go_ret
  exact ⟨by first | (simp; done) | (simp; omega), rfl⟩
theorem big_no (w : World) (v : Value) (n : Nat) (hb : Bytes w v n) (h : ¬ 1048576 < n) :
    Calls Try.prog 11 #[v] w fun e w' => e = .returned (.bool false) ∧ w = w' := by
  have hn : ¬ (1048576 : Int) < n := by omega
  obtain ⟨a, c, rfl⟩ := hb.shape
  clear hb
  go_enter Try.func11, Try.ntmps11
  go_wp2
  go_ret
  exact ⟨by first | (simp; done) | (simp; omega), rfl⟩

theorem bt {a b c : World} (h : Below a.heap.size a b) (k : Below b.heap.size b c) : Below a.heap.size a c := h.trans (k.mono h.size)

theorem laidOut : laidOutB Try.prog = true := by kernel_rfl
theorem cellsU8 : Try.prog.cellsOf 5 = 1 := by kernel_rfl
theorem bytesU8 : Try.prog.bytesOf 5 = 1 := by kernel_rfl

theorem bytes_read {H : Type} {enc : TypeId × Value → H} {W : World} {sp : Nat → Bool} {a : Option Addr} {n c : Nat} {d : DataW H} {p : List MemPlace}
    (h : DataW.Trod enc Try.prog W 0 sp true 22 (.slice a n c) d p) (hr : ∀ l s, d = .slice l s → l.length ≤ 140737488355328) (hsp : ∀ b, sp b = true := by intro _; rfl) : Bytes W (.slice a n c) n := by
  obtain ⟨fuel, hf⟩ := h
  rcases open_ints Try.underlying22 Try.underlying5 cellsU8 hf with ⟨hcs, hx⟩ | ⟨a', len', cap', zs, hcs, _, hl, hm, hz, hx, hcell, hwz⟩
  · simp [Value.cells] at hcs
    obtain ⟨rfl, rfl, rfl⟩ := hcs
    exact Or.inl ⟨0, rfl, rfl⟩
  · simp [Value.cells] at hcs
    obtain ⟨rfl, rfl, rfl⟩ := hcs
    simp only [Prod.mk.injEq] at hx
    obtain ⟨rfl, rfl⟩ := hx
    simp only [hsp, if_true] at hz
    have hn := hr _ _ rfl
    simp only [lits, List.length_map, List.length_take] at hn
    by_cases h0 : n = 0
    · subst h0
      exact Or.inr (Or.inl ⟨a', c, rfl, rfl⟩)
    · obtain ⟨b, off, spot⟩ := a'
      have hspot : spot = none := by simpa [Addr.add] using World.cell?_spot (hcell 0 (by omega))
      subst hspot
      refine Or.inr (Or.inr ⟨b, off, c, rfl, by omega, fun j hj => ?_⟩)
      have hc := hcell j (by omega)
      rw [Lib.add_plain] at hc
      have hw := bounds_u8 (hwz (zs.getD j 0) (by
        rw [List.getD_eq_getElem?_getD, List.getElem?_eq_getElem (by omega)]
        simp))
      exact ⟨World.block_lt_of_cell? W _ hc, zs.getD j 0, hw.1, hw.2, hc⟩
end Go.Proofs.Ytgknkjiifcnkpaa
