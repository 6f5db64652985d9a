/-
  What an argument of a grid gives the walks.
  Whether a text stands in a list of texts, by the reference.
  What the reference answers for two tables: whether they are the same; and for a column.
-/
import Derived.Test.YtgknkjiifcnkpaaGrdV
import Derived.Test.YtgknkjiifcnkpaaPk3
import Derived.Test.YtgknkjiifcnkpaaTabQ
namespace Go.Proofs.Ytgknkjiifcnkpaa
open Go.ChangeShapes Go.WideShapes Go.ChangeAt Go.RowKit Go.Deep

theorem cellsGrdT : Try.prog.cellsOf 52 = 2 := by kernel_rfl
set_option maxRecDepth 100000 in
theorem grd_read {H : Type} {enc : TypeId × Value → H} {W : World} {sp : Nat → Bool} {r : Reach} {b0 : Nat} {v : Value} {d : DataW H} {p : List MemPlace}
    (hval : Value.okWide Try.prog W r b0 52 v) (h : DataW.Trod enc Try.prog W 0 sp true 52 v d p) (hsp : ∀ b, sp b = true := by intro _; rfl) :
    ∃ (G : Grd) (u1 u2 : Value), v = .agg #[u1, u2] ∧ GrdRow W G u1 u2 := by
  obtain ⟨cs, rfl, hsz⟩ := okWide_struct Try.underlying52 hval
  rw [cellsGrdT] at hsz
  obtain ⟨l⟩ := cs
  match l, hsz with
  | [c0, c1], _ =>
    obtain ⟨fuel, hf⟩ := h
    obtain ⟨xs, n, _, _, _, hxl, hat⟩ := DataW.trod_struct Try.underlying52 hf
    have hx : ∀ i, i < 2 → ∃ y, xs[i]? = some y := fun i hi => ⟨_, List.getElem?_eq_getElem (by rw [hxl]; exact hi)⟩
    obtain ⟨y0, e0⟩ := hx 0 (by omega)
    obtain ⟨y1, e1⟩ := hx 1 (by omega)
    have h0 := (hat 0 _ rfl).trans e0
    have h1 := (hat 1 _ rfl).trans e1
    have h0' : DataW.trod enc Try.prog W 0 sp true n 32 [c0] = some y0 := by simpa [Value.cells, cellsSlIIT] using h0
    have h1' : DataW.trod enc Try.prog W 0 sp true n 32 [c1] = some y1 := by simpa [Value.cells, cellsSlIIT] using h1
    obtain ⟨L, hL⟩ := grid_trod h0' hsp
    obtain ⟨M, hM⟩ := grid_trod h1' hsp
    exact ⟨⟨L, M⟩, c0, c1, rfl, ⟨hL, hM⟩⟩
end Go.Proofs.Ytgknkjiifcnkpaa
namespace Go.Proofs.Ytgknkjiifcnkpaa
open Go.RowKit

/-- Whether p stands in L. -/
def hasB (L : List (List UInt8)) (p : List UInt8) : Bool := decide (p ∈ L)
theorem hasB_yes {L : List (List UInt8)} {p : List UInt8} {j : Nat} (h : L[j]? = some p) : hasB L p = true := decide_eq_true (List.mem_of_getElem? h)
theorem hasB_no {L : List (List UInt8)} {p : List UInt8} (h : ¬ p ∈ L) : hasB L p = false := decide_eq_false h
theorem notmem_succ {L : List (List UInt8)} {p x : List UInt8} {j : Nat} (hx : L[j]? = some x) (h : ¬ p ∈ L.take j) (hn : ¬ x = p) : ¬ p ∈ L.take (j + 1) := by
  rw [List.take_add_one, hx]
  intro hm
  rcases List.mem_append.1 hm with hm | hm
  · exact h hm
  · have : p = x := by simpa using hm
    exact hn this.symm
theorem sRow_cells {w : World} {v : Value} {L : List (List UInt8)} (h : StrRow w v L) : ∃ a c, v = .slice a L.length c ∧ L.length ≤ 9223372036854775807 ∧ (∀ (q : Nat) r, L[q]? = some r → ∃ b off, a = some ⟨b, off, none⟩ ∧ w.cell? ⟨b, off + q, none⟩ = some (.string ⟨r.toArray⟩)) := by
  rcases h with ⟨rfl, a, c, rfl⟩ | ⟨b, off, c, rfl, hl, _, hc⟩
  · exact ⟨a, c, rfl, by simp, by simp⟩
  · exact ⟨_, c, rfl, hl, fun q p hp => ⟨b, off, rfl, hc q p hp⟩⟩

set_option maxRecDepth 100000 in
set_option maxHeartbeats 2000000 in
theorem specHas_some (w : World) (a : Option Addr) (c : Nat) (L : List (List UInt8)) (p : List UInt8) (hl : L.length ≤ 9223372036854775807)
    (hc : ∀ (q : Nat) r, L[q]? = some r → ∃ b off, a = some ⟨b, off, none⟩ ∧ w.cell? ⟨b, off + q, none⟩ = some (.string ⟨r.toArray⟩)) :
    Calls Try.prog 61 #[.slice a L.length c, .string ⟨p.toArray⟩] w fun e w' => e = .returned (.bool (hasB L p)) ∧ ∃ k, w' = w.drewN k := by
  have HC := Lib.hid hc
  clear hc
  obtain ⟨n, hn⟩ : ∃ n : Nat, L.length = n := ⟨_, rfl⟩
  rw [hn] at hl ⊢
  have HE := Lib.hid hn
  clear hn
  go_enter Try.func61, Try.ntmps61
  go_wp2_with fail
  go_loopw [4, 5] (fun _ i wr => ∃ j z : Nat, j ≤ n ∧ i = .int .i64 j ∧ wr = w.drewN z ∧ ¬ p ∈ L.take j) (fun _ i _ => n - (intOf i).toNat)
  case atStart => exact ⟨0, 0, Nat.zero_le _, rfl, rfl, by simp⟩
  case round =>
    obtain ⟨j, z, hj, rfl, rfl, ht⟩ := hrel
    have HT := Lib.hid ht
    clear ht
    by_cases hlt : j < n
    · have hj1 : (j : Int) < n := by omega
      have hj0 : (0 : Int) ≤ j := by omega
      obtain ⟨x, hx⟩ : ∃ r, L[j]? = some r := ⟨_, List.getElem?_eq_getElem (by rw [HE.out]; exact hlt)⟩
      obtain ⟨b, off, rfl, hcx⟩ := HC.out j x hx
      have HX := Lib.hid hx
      have g1 : (w.drewN z).cell? ⟨b, off + j, none⟩ = some (.string ⟨x.toArray⟩) := hcx
      obtain ⟨wq, hwq⟩ : ∃ wq, w.drewN z = wq := ⟨_, rfl⟩
      rw [hwq] at g1 ⊢
      have HW := Lib.hid hwq
      clear hwq hcx hx
      by_cases hxx : x = p
      · have HXX := Lib.hid hxx
        subst hxx
        go_wp2_with fail
        go_ret
        exact ⟨ret_bool9 (hasB_yes HX.out).symm, _, HW.out.symm⟩
      · have HXX := Lib.hid hxx
        have hne : (x == p) = false := beq_eq_false_iff_ne.2 hxx
        have hne2 := str_ne hxx
        go_wp2_with fail
        go_roundw
        case rel => exact ⟨j + 1, _, by omega, by go_num, HW.out.symm, notmem_succ HX.out HT.out HXX.out⟩
        case measure => simp [intOf]; omega
    · obtain rfl : j = n := by omega
      have hj1 : ¬ (j : Int) < j := by omega
      have HN : Hid (¬ p ∈ L) := Lib.hid (by
        have h := HT.out
        rw [List.take_of_length_le (by rw [HE.out]; exact Nat.le_refl _)] at h
        exact h)
      go_wp2_with fail
      go_ret
      exact ⟨ret_bool9 (hasB_no HN.out).symm, z, rfl⟩

/-- WHETHER A TEXT STANDS IN A LIST. -/
theorem specHas (w : World) (v : Value) (L : List (List UInt8)) (p : List UInt8) (h : StrRow w v L) (r : Bool) (hr : hasB L p = r) :
    Calls Try.prog 61 #[v, .string ⟨p.toArray⟩] w fun e w' => e = .returned (.bool r) ∧ ∃ k, w' = w.drewN k := by
  obtain ⟨a, c, rfl, hl, hc⟩ := sRow_cells h
  rw [← hr]
  exact specHas_some w a c L p hl hc
end Go.Proofs.Ytgknkjiifcnkpaa
namespace Go.Proofs.Ytgknkjiifcnkpaa
open Go.RowKit

theorem ssRow_one {w : World} {v : Value} {L : List (List UInt8)} (h : StrRow w v L) (n : Nat) (hc : w.cell? ⟨n, 0, none⟩ = some v) : SSRow w (.slice (some ⟨n, 0, none⟩) 1 1) [L] := by
  refine Or.inr ⟨n, 0, 1, rfl, by simp, by simp, fun j row hj => ?_⟩
  have hj0 : j = 0 := by
    have := (List.getElem?_eq_some_iff.1 hj).1
    simpa using this
  subst hj0
  obtain rfl : L = row := by simpa using hj
  exact ⟨v, hc, h⟩

/-- Whether two tables are the same. -/
def sameT (A B : Tab) : Bool := sameB [A.ns] [B.ns] && decide (A.y = B.y) && sameG9 A.rs B.rs && sameI9 A.ys B.ys
theorem sameT_iff {A B : Tab} : sameT A B = true ↔ A = B := by
  constructor
  · intro h
    simp only [sameT, sameB, sameG9, sameI9, Bool.and_eq_true, decide_eq_true_eq, List.cons.injEq, and_true] at h
    cases A
    cases B
    simp_all
  · rintro rfl
    simp [sameT, sameB, sameG9, sameI9]

end Go.Proofs.Ytgknkjiifcnkpaa
