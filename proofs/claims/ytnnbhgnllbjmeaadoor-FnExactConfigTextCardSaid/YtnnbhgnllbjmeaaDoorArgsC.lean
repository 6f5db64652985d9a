/-
  What an argument of settings (seven numbers and a row of signs) gives the walks.
-/
import Derived.Test.YtnnbhgnllbjmeaaDoorBas
import Derived.Test.YtnnbhgnllbjmeaaDoorRowI
import Derived.Test.YtnnbhgnllbjmeaaDoorCfgM
import Derived.OpenShut
import Derived.ChangeSlices
import Derived.ChangeSame
import Derived.Deep.Fields
import Derived.Carry
import Derived.SizedLaws
namespace Go.Proofs.YtnnbhgnllbjmeaaDoor
open Go.ChangeShapes Go.WideShapes Go.ChangeAt Go.RowKit Go.Deep

theorem cellsIntA : Tryd.prog.cellsOf 3 = 1 := by kernel_rfl
theorem cellsSlIA : Tryd.prog.cellsOf 22 = 1 := by kernel_rfl
theorem cellsCfgA : Tryd.prog.cellsOf 24 = 8 := by kernel_rfl
theorem addr_addC {b off j : Nat} : (⟨b, off, none⟩ : Addr).add j = ⟨b, off + j, none⟩ := by unfold Addr.add; split <;> simp_all
theorem ints_trod {H : Type} {enc : TypeId × Value → H} {W : World} {sp : Nat → Bool} {base fuel : Nat} {held : Bool} {v : Value} {x : DataW H × List MemPlace}
    (h : DataW.trod enc Tryd.prog W base sp held fuel 22 [v] = some x) (hsp : ∀ b, sp b = true) : ∃ zs : List Int, IntRow W v zs := by
  rcases open_ints Tryd.underlying22 Tryd.underlying3 cellsIntA h with ⟨hcs, hx⟩ | ⟨a', len', cap', zs, hcs, _, hl, hm, hz, hx, hcell, hwz⟩
  · obtain rfl : v = .slice none 0 0 := by simpa using hcs
    exact ⟨[], Or.inl ⟨rfl, _, _, rfl⟩⟩
  · obtain rfl : v = .slice (some a') len' cap' := by simpa using hcs
    simp only [hsp, if_true] at hz
    unfold maxLen at hm
    by_cases h0 : len' = 0
    · subst h0
      exact ⟨[], Or.inl ⟨rfl, _, _, rfl⟩⟩
    · obtain ⟨b, off, spot⟩ := a'
      have hspot : spot = none := by simpa [Addr.add] using World.cell?_spot (hcell 0 (by omega))
      subst hspot
      have hlen : (zs.take len').length = len' := by simp; omega
      refine ⟨zs.take len', Or.inr ⟨b, off, cap', by rw [hlen], by omega, by omega, fun j p hj => ?_⟩⟩
      have hjn : j < len' := by
        have := (List.getElem?_eq_some_iff.1 hj).1
        omega
      have hc := hcell j (by omega)
      rw [addr_addC] at hc
      rw [hc]
      rw [List.getElem?_take, if_pos hjn, List.getElem?_eq_getElem (by omega)] at hj
      obtain rfl := Option.some.inj hj
      rw [List.getD_eq_getElem?_getD, List.getElem?_eq_getElem (by omega)]
      rfl
set_option maxRecDepth 100000 in
theorem cfg_read {H : Type} {enc : TypeId × Value → H} {W : World} {sp : Nat → Bool} {r : Reach} {b0 : Nat} {v : Value} {d : DataW H} {p : List MemPlace}
    (hval : Value.okWide Tryd.prog W r b0 24 v) (h : DataW.Trod enc Tryd.prog W 0 sp true 24 v d p) (hsp : ∀ b, sp b = true := by intro _; rfl) :
    ∃ (C : Cfg) (u : Value), v = .agg #[.int .i64 C.r, .int .i64 C.d, .int .i64 C.b, .int .i64 C.l, .int .i64 C.m, .int .i64 C.n, .int .i64 C.e, u] ∧ IntRow W u C.s := by
  obtain ⟨cs, rfl, hsz⟩ := okWide_struct Tryd.underlying24 hval
  rw [cellsCfgA] at hsz
  obtain ⟨l⟩ := cs
  match l, hsz with
  | [c0, c1, c2, c3, c4, c5, c6, c7], _ =>
    obtain ⟨fuel, hf⟩ := h
    obtain ⟨xs, n, _, _, _, hxl, hat⟩ := DataW.trod_struct Tryd.underlying24 hf
    have hx : ∀ i, i < 8 → ∃ y, xs[i]? = some y := fun i hi => ⟨_, List.getElem?_eq_getElem (by rw [hxl]; exact hi)⟩
    obtain ⟨y0, e0⟩ := hx 0 (by omega)
    obtain ⟨y1, e1⟩ := hx 1 (by omega)
    obtain ⟨y2, e2⟩ := hx 2 (by omega)
    obtain ⟨y3, e3⟩ := hx 3 (by omega)
    obtain ⟨y4, e4⟩ := hx 4 (by omega)
    obtain ⟨y5, e5⟩ := hx 5 (by omega)
    obtain ⟨y6, e6⟩ := hx 6 (by omega)
    obtain ⟨y7, e7⟩ := hx 7 (by omega)
    have h0 := (hat 0 _ rfl).trans e0
    have h1 := (hat 1 _ rfl).trans e1
    have h2 := (hat 2 _ rfl).trans e2
    have h3 := (hat 3 _ rfl).trans e3
    have h4 := (hat 4 _ rfl).trans e4
    have h5 := (hat 5 _ rfl).trans e5
    have h6 := (hat 6 _ rfl).trans e6
    have h7 := (hat 7 _ rfl).trans e7
    have h7' : DataW.trod enc Tryd.prog W 0 sp true n 22 [c7] = some y7 := by simpa [Value.cells, cellsSlIA] using h7
    obtain ⟨z0, k0, _⟩ := DataW.trod_int Tryd.underlying3 h0
    obtain ⟨z1, k1, _⟩ := DataW.trod_int Tryd.underlying3 h1
    obtain ⟨z2, k2, _⟩ := DataW.trod_int Tryd.underlying3 h2
    obtain ⟨z3, k3, _⟩ := DataW.trod_int Tryd.underlying3 h3
    obtain ⟨z4, k4, _⟩ := DataW.trod_int Tryd.underlying3 h4
    obtain ⟨z5, k5, _⟩ := DataW.trod_int Tryd.underlying3 h5
    obtain ⟨z6, k6, _⟩ := DataW.trod_int Tryd.underlying3 h6
    obtain ⟨zs, hs⟩ := ints_trod h7' hsp
    simp [Value.cells, cellsIntA] at k0 k1 k2 k3 k4 k5 k6
    subst k0 k1 k2 k3 k4 k5 k6
    exact ⟨⟨z0, z1, z2, z3, z4, z5, z6, zs⟩, c7, rfl, hs⟩
end Go.Proofs.YtnnbhgnllbjmeaaDoor
