/-
  What an argument of a table gives the walks.
-/
import Derived.Test.YticeagjonfifbaaTabS
import Derived.Test.YticeagjonfifbaaArgsSS
import Derived.ChangeSlices
import Derived.ChangeSame
import Derived.Deep.Fields
namespace Go.Proofs.Yticeagjonfifbaa
open Go.ChangeShapes Go.WideShapes Go.ChangeAt Go.RowKit Go.Deep

theorem cellsIntT : Try.prog.cellsOf 3 = 1 := by kernel_rfl
theorem cellsSlIT : Try.prog.cellsOf 26 = 1 := by kernel_rfl
theorem cellsSlST : Try.prog.cellsOf 24 = 1 := by kernel_rfl
theorem cellsStrT : Try.prog.cellsOf 9 = 1 := by kernel_rfl
theorem cellsSlIIT : Try.prog.cellsOf 25 = 1 := by kernel_rfl
theorem cellsTabT : Try.prog.cellsOf 35 = 4 := by kernel_rfl
theorem ints_trod9 {H : Type} {enc : TypeId × Value → H} {W : World} {sp : Nat → Bool} {base fuel : Nat} {held : Bool} {v : Value} {x : DataW H × List MemPlace}
    (h : DataW.trod enc Try.prog W base sp held fuel 26 [v] = some x) (hsp : ∀ b, sp b = true) : ∃ zs : List Int, IntRow W v zs := by
  rcases open_ints Try.underlying26 Try.underlying3 cellsIntT h with ⟨hcs, hx⟩ | ⟨a', len', cap', zs, hcs, _, hl, hm, hz, hx, hcell, hwz⟩
  · obtain rfl : v = .slice none 0 0 := by simpa using hcs
    exact ⟨[], Or.inl ⟨rfl, _, _, rfl⟩⟩
  · obtain rfl : v = .slice (some a') len' cap' := by simpa using hcs
    simp only [hsp, if_true] at hz
    unfold maxLen at hm
    by_cases h0 : len' = 0
    · subst h0
      exact ⟨[], Or.inl ⟨rfl, _, _, rfl⟩⟩
    · obtain ⟨b, off, spot⟩ := a'
      have hspot : spot = none := by simpa [Addr.add] using World.cell?_spot (hcell 0 (by omega))
      subst hspot
      have hlen : (zs.take len').length = len' := by simp; omega
      refine ⟨zs.take len', Or.inr ⟨b, off, cap', by rw [hlen], by omega, by omega, fun j p hj => ?_⟩⟩
      have hjn : j < len' := by
        have := (List.getElem?_eq_some_iff.1 hj).1
        omega
      have hc := hcell j (by omega)
      rw [addr_add] at hc
      rw [hc]
      rw [List.getElem?_take, if_pos hjn, List.getElem?_eq_getElem (by omega)] at hj
      obtain rfl := Option.some.inj hj
      rw [List.getD_eq_getElem?_getD, List.getElem?_eq_getElem (by omega)]
      rfl
theorem grid_trod {H : Type} {enc : TypeId × Value → H} {W : World} {sp : Nat → Bool} {base fuel : Nat} {held : Bool} {v : Value} {x : DataW H × List MemPlace}
    (h : DataW.trod enc Try.prog W base sp held fuel 25 [v] = some x) (hsp : ∀ b, sp b = true) : ∃ L : List (List Int), IIRow W v L := by
  rcases Go.Deep.open_slice1 Try.underlying25 cellsSlIT h with ⟨hcs, hx⟩ | ⟨a', len', cap', m, n', V, D, Pl, hcs, _, hl, hm, hmm, hx, hcell⟩
  · obtain rfl : v = .slice none 0 0 := by simpa using hcs
    exact ⟨[], Or.inl ⟨rfl, _, _, rfl⟩⟩
  · obtain rfl : v = .slice (some a') len' cap' := by simpa using hcs
    simp only [hsp, if_true] at hmm
    unfold maxLen at hm
    by_cases h0 : len' = 0
    · subst h0
      exact ⟨[], Or.inl ⟨rfl, _, _, rfl⟩⟩
    · obtain ⟨b, off, spot⟩ := a'
      have hspot : spot = none := by simpa [Addr.add] using World.cell?_spot (hcell 0 (by omega)).1
      subst hspot
      obtain ⟨R, hR⟩ := Go.Deep.choose_lt (n := len') (p := fun i (zs : List Int) => IntRow W (V i) zs) (fun i hi => ints_trod9 (hcell i (by omega)).2 hsp)
      have hlen : ((List.range len').map R).length = len' := by simp
      refine ⟨(List.range len').map R, Or.inr ⟨b, off, cap', by rw [hlen], by omega, by omega, fun j row hj => ?_⟩⟩
      have hjn : j < len' := by
        have := (List.getElem?_eq_some_iff.1 hj).1
        omega
      have hc := (hcell j (by omega)).1
      rw [addr_add] at hc
      rw [List.getElem?_map, List.getElem?_range hjn] at hj
      obtain rfl := Option.some.inj hj
      exact ⟨V j, hc, hR j hjn⟩
set_option maxRecDepth 100000 in
theorem tab_read {H : Type} {enc : TypeId × Value → H} {W : World} {sp : Nat → Bool} {r : Reach} {b0 : Nat} {v : Value} {d : DataW H} {p : List MemPlace}
    (hval : Value.okWide Try.prog W r b0 35 v) (h : DataW.Trod enc Try.prog W 0 sp true 35 v d p) (hsp : ∀ b, sp b = true := by intro _; rfl) :
    ∃ (T : Tab) (u1 u2 u3 : Value), v = .agg #[u1, .string ⟨T.y.toArray⟩, u2, u3] ∧ TabRow W T u1 u2 u3 ∧ (∀ p ∈ T.ns, p.length ≤ 9223372036854775807) ∧ T.y.length ≤ 9223372036854775807 := by
  obtain ⟨cs, rfl, hsz⟩ := okWide_struct Try.underlying35 hval
  rw [cellsTabT] at hsz
  obtain ⟨l⟩ := cs
  match l, hsz with
  | [c0, c1, c2, c3], _ =>
    obtain ⟨fuel, hf⟩ := h
    obtain ⟨xs, n, _, _, _, hxl, hat⟩ := DataW.trod_struct Try.underlying35 hf
    have hx : ∀ i, i < 4 → ∃ y, xs[i]? = some y := fun i hi => ⟨_, List.getElem?_eq_getElem (by rw [hxl]; exact hi)⟩
    obtain ⟨y0, e0⟩ := hx 0 (by omega)
    obtain ⟨y1, e1⟩ := hx 1 (by omega)
    obtain ⟨y2, e2⟩ := hx 2 (by omega)
    obtain ⟨y3, e3⟩ := hx 3 (by omega)
    have h0 := (hat 0 _ rfl).trans e0
    have h1 := (hat 1 _ rfl).trans e1
    have h2 := (hat 2 _ rfl).trans e2
    have h3 := (hat 3 _ rfl).trans e3
    have h0' : DataW.trod enc Try.prog W 0 sp true n 24 [c0] = some y0 := by simpa [Value.cells, cellsSlST] using h0
    have h1' : DataW.trod enc Try.prog W 0 sp true n 9 [c1] = some y1 := by simpa [Value.cells, cellsSlST, cellsStrT] using h1
    have h2' : DataW.trod enc Try.prog W 0 sp true n 25 [c2] = some y2 := by simpa [Value.cells, cellsSlST, cellsStrT, cellsSlIIT] using h2
    have h3' : DataW.trod enc Try.prog W 0 sp true n 26 [c3] = some y3 := by simpa [Value.cells, cellsSlST, cellsStrT, cellsSlIIT, cellsSlIT] using h3
    obtain ⟨ps, hps, hpl⟩ := strs_trod h0' hsp
    obtain ⟨s, k1, _, hs⟩ := DataW.trod_string Try.underlying9 h1'
    obtain ⟨L, hL⟩ := grid_trod h2' hsp
    obtain ⟨zs, hz⟩ := ints_trod9 h3' hsp
    simp at k1
    subst k1
    unfold maxLen at hs
    refine ⟨⟨ps, s.data.toList, L, zs⟩, c0, c2, c3, rfl, ⟨hps, hL, hz⟩, hpl, ?_⟩
    have := Lib.size_eq s
    show s.data.toList.length ≤ _
    omega
end Go.Proofs.Yticeagjonfifbaa
