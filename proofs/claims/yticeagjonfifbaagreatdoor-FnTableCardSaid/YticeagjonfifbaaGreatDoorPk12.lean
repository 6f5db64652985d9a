/-
  What an argument of bytes gives the walks; the law's own look at its size.
  A text that is turned a little, as the draws do it.
-/
import Derived.Test.YticeagjonfifbaaGreatDoorPk3
import Derived.OpenShut
import Derived.Lib.ItoaMem
import Derived.Carry
import Derived.SizedLaws
import Derived.Test.YticeagjonfifbaaGreatDoorPk2
import Derived.Deep.RegionHeld3
import Derived.Deep.RegionWith
namespace Go.Proofs.YticeagjonfifbaaGreatDoor
open Go.ChangeShapes Go.WideShapes Go.ChangeAt Go.RowKit

theorem Bytes.mono {w w' : World} {v : Value} {n : Nat} (h : Bytes w v n) (hB : Below w.heap.size w w') : Bytes w' v n := by
  rcases h with ⟨c, rfl, rfl⟩ | ⟨a, c, rfl, rfl⟩ | ⟨b, off, c, rfl, hn, hcell⟩
  · exact Or.inl ⟨c, rfl, rfl⟩
  · exact Or.inr (Or.inl ⟨a, c, rfl, rfl⟩)
  · refine Or.inr (Or.inr ⟨b, off, c, rfl, hn, fun j hj => ?_⟩)
    obtain ⟨hb, z, z0, z1, hz⟩ := hcell j hj
    exact ⟨Nat.lt_of_lt_of_le hb hB.size, z, z0, z1, (hB.cell (p := ⟨b, off + j, none⟩) hb).trans hz⟩

theorem Bytes.shape {w : World} {v : Value} {n : Nat} (h : Bytes w v n) : ∃ a c, v = .slice a n c := by
  rcases h with ⟨c, rfl, rfl⟩ | ⟨a, c, rfl, rfl⟩ | ⟨b, off, c, rfl, _, _⟩
  · exact ⟨_, _, rfl⟩
  · exact ⟨_, _, rfl⟩
  · exact ⟨_, _, rfl⟩

theorem big_yes (w : World) (v : Value) (n : Nat) (hb : Bytes w v n) (h : 1048576 < n) :
    Calls Tryz.prog 6 #[v] w fun e w' => e = .returned (.bool true) ∧ w = w' := by
  have hn : (1048576 : Int) < n := by omega
  obtain ⟨a, c, rfl⟩ := hb.shape
  clear hb
  go_enter Tryz.func6, Tryz.ntmps6
  go_wp2
  go_ret
  exact ⟨by first | (simp; done) | (simp; omega), rfl⟩
theorem big_no (w : World) (v : Value) (n : Nat) (hb : Bytes w v n) (h : ¬ 1048576 < n) :
    Calls Tryz.prog 6 #[v] w fun e w' => e = .returned (.bool false) ∧ w = w' := by
  have hn : ¬ (1048576 : Int) < n := by omega
  obtain ⟨a, c, rfl⟩ := hb.shape
  clear hb
  go_enter Tryz.func6, Tryz.ntmps6
  go_wp2
  go_ret
  exact ⟨by first | (simp; done) | (simp; omega), rfl⟩

theorem bt {a b c : World} (h : Below a.heap.size a b) (k : Below b.heap.size b c) : Below a.heap.size a c := h.trans (k.mono h.size)

theorem laidOut : laidOutB Tryz.prog = true := by kernel_rfl
theorem cellsU8 : Tryz.prog.cellsOf 5 = 1 := by kernel_rfl
theorem bytesU8 : Tryz.prog.bytesOf 5 = 1 := by kernel_rfl

theorem bytes_read {H : Type} {enc : TypeId × Value → H} {W : World} {sp : Nat → Bool} {a : Option Addr} {n c : Nat} {d : DataW H} {p : List MemPlace}
    (h : DataW.Trod enc Tryz.prog W 0 sp true 22 (.slice a n c) d p) (hr : ∀ l s, d = .slice l s → l.length ≤ 140737488355328) (hsp : ∀ b, sp b = true := by intro _; rfl) : Bytes W (.slice a n c) n := by
  obtain ⟨fuel, hf⟩ := h
  rcases open_ints Tryz.underlying22 Tryz.underlying5 cellsU8 hf with ⟨hcs, hx⟩ | ⟨a', len', cap', zs, hcs, _, hl, hm, hz, hx, hcell, hwz⟩
  · simp [Value.cells] at hcs
    obtain ⟨rfl, rfl, rfl⟩ := hcs
    exact Or.inl ⟨0, rfl, rfl⟩
  · simp [Value.cells] at hcs
    obtain ⟨rfl, rfl, rfl⟩ := hcs
    simp only [Prod.mk.injEq] at hx
    obtain ⟨rfl, rfl⟩ := hx
    simp only [hsp, if_true] at hz
    have hn := hr _ _ rfl
    simp only [lits, List.length_map, List.length_take] at hn
    by_cases h0 : n = 0
    · subst h0
      exact Or.inr (Or.inl ⟨a', c, rfl, rfl⟩)
    · obtain ⟨b, off, spot⟩ := a'
      have hspot : spot = none := by simpa [Addr.add] using World.cell?_spot (hcell 0 (by omega))
      subst hspot
      refine Or.inr (Or.inr ⟨b, off, c, rfl, by omega, fun j hj => ?_⟩)
      have hc := hcell j (by omega)
      rw [Lib.add_plain] at hc
      have hw := bounds_u8 (hwz (zs.getD j 0) (by
        rw [List.getD_eq_getElem?_getD, List.getElem?_eq_getElem (by omega)]
        simp))
      exact ⟨World.block_lt_of_cell? W _ hc, zs.getD j 0, hw.1, hw.2, hc⟩
end Go.Proofs.YticeagjonfifbaaGreatDoor
namespace Go.Proofs.YticeagjonfifbaaGreatDoor
open Go.RowKit

theorem Cur.drew {W w : World} {p : Nat} (h : Cur W w p) : Cur W w.drew p := ⟨h.1, h.2.1.drew, h.2.2⟩
theorem Cur.drewN {W w : World} {p : Nat} (h : Cur W w p) (n : Nat) : Cur W (w.drewN n) p := ⟨h.1, ⟨h.2.1.os, h.2.1.tape, h.2.1.output, h.2.1.size, h.2.1.block⟩, h.2.2⟩
theorem grownBy_drew {a w : World} {r : Option Nat} (h : a.grownBy w r) : a.grownBy w.drew r := ⟨h.os, h.tape, h.output, h.size, h.block⟩
theorem strOut_sub {s t : ByteArray} {M : Nat} (h : t.size ≤ s.size) (hM : s.size ≤ M) : StrOut M (.returned (.string t)) := ⟨t, by omega, rfl⟩

set_option maxRecDepth 100000 in
set_option maxHeartbeats 4000000 in
theorem l7Turned (W w : World) (p : Nat) (s : ByteArray) (hs : s.size ≤ 4000000) (hc : Cur W w p) :
    Calls Tryz.prog 49 #[.pointer (some ⟨p, 0, none⟩), .string s] w fun e w' => StrOut (s.size + 2) e ∧ Cur W w' p ∧ w.grownBy w' (some p) := by
  go_enter Tryz.func49, Tryz.ntmps49
  go_wp2_with fail
  refine (l1Below W _ p (s.size + 1) (by omega) (by omega) hc).mono ?_
  rintro e w1 ⟨⟨m, hm, rfl⟩, hc1, hg1⟩
  have hm1 : (m : Int) ≤ s.size := by omega
  have hm0 : (0 : Int) ≤ m := by omega
  have hmn : m ≤ s.size := by omega
  go_wp2_with fail
  refine (l1Below W _ p 6 (by omega) (by omega) hc1).mono ?_
  rintro e w2 ⟨⟨x, hx, rfl⟩, hc2, hg2⟩
  have hG := grownBy_trans hg1 hg2
  clear hg1 hg2 hc1
  by_cases hx0 : x = 0
  · obtain rfl := hx0
    have hne : w2.heap.size ≠ p := by have := hc2.lt; omega
    have HG := Lib.hid hG
    go_wp2_with fail
    go_region_with (go_at_call 47; refine (l1Pick W _ p w2.heap.size 9 2 (by omega) (by omega) hne ?_ ?_).mono ?_; (show ∀ j, j < 9 → ∃ s : ByteArray, s.size ≤ 2 ∧ (w2.alloc _).cell? ⟨w2.heap.size, j, none⟩ = some (.string s); exact strList 2 rfl (by decide)); (first | exact (hc2.alloc _).drew | exact hc2.alloc _ | exact hc2.drew.alloc _); rintro e w3 ⟨⟨t, ht, rfl⟩, hc3, hg3⟩)
    have hz : ((s.extract 0 m ++ t) ++ s.extract m s.size).size ≤ s.size + 2 := by
      rw [ByteArray.size_append, ByteArray.size_append, ByteArray.size_extract, ByteArray.size_extract]
      omega
    go_wp2_with fail
    go_ret
    exact ⟨⟨_, hz, rfl⟩, hc3, grownBy_trans (grownBy_trans HG.out (grownBy_drew (grownBy_alloc _ _ _))) hg3⟩
  · have hxa : ¬ (x : Int) = 0 := by omega
    by_cases hx1 : x = 1
    · obtain rfl := hx1
      have hz : (s.extract 0 m).size ≤ s.size := by rw [ByteArray.size_extract]; omega
      go_wp2_with fail
      go_ret
      exact ⟨strOut_sub hz (by omega), hc2, hG⟩
    · have hxb : ¬ (x : Int) = 1 := by omega
      go_wp2_with fail
      go_ret
      exact ⟨strOut_sub (Nat.le_refl _) (by omega), hc2, hG⟩

theorem Cur.next {W w w' : World} {p : Nat} (h : Cur W w p) (hB : Below w.heap.size w w') : Cur W w' p := by
  obtain ⟨h1, h2, v, n, i, x, hb, hi, hx0, hx1, hc⟩ := h
  exact ⟨h1, h2.trans (hB.mono h2.size), v, n, i, x, hb, hi, hx0, hx1, (hB.block _ (blk_lt hc)).trans hc⟩
end Go.Proofs.YticeagjonfifbaaGreatDoor
