/-
  The library's handle of the type 'error', out of the rows' lists.
  The reading of a table: what the reference answers.
-/
import Derived.Test.YticeagjonfifbaaGreatDoorPk11
import Derived.Test.YticeagjonfifbaaGreatDoorPk16
import Derived.LaidHandle
import Derived.Test.YticeagjonfifbaaGreatDoorTabV
import Derived.Test.YticeagjonfifbaaGreatDoorPk5
namespace Go.Proofs.YticeagjonfifbaaGreatDoor
open Go.RowKit

theorem gET : Tryz.prog.globalNamed "errors.errorType" = some 0 := by kernel_rfl
theorem rtRow : (Tryz.prog.cutTypes.find? (·.1 == "internal/reflectlite.rtype")).map (·.2) = some 153 := by kernel_rfl
theorem oneRow9 : ((List.range 238).filter fun t => Tryz.prog.rowNamed t [101, 114, 114, 111, 114]) = [53] := by kernel_rfl
theorem tySize9 : Tryz.prog.types.size = 238 := by kernel_rfl
/-- The listed variables but the handle. -/
abbrev laid9 : List (String × DataW Unit) := [("math/bits.deBruijn32tab", Rows.laid_math_bits_deBruijn32tab), ("math/bits.deBruijn64tab", Rows.laid_math_bits_deBruijn64tab), ("internal/strconv.uint64pow10", Rows.laid_internal_strconv_uint64pow10), ("unicode/utf8.acceptRanges", Rows.laid_unicode_utf8_acceptRanges), ("strconv.ErrRange", Rows.laid_strconv_ErrRange), ("strconv.ErrSyntax", Rows.laid_strconv_ErrSyntax), ("unicode/utf8.first", Rows.laid_unicode_utf8_first)]
theorem laid_parts9 {W : World} (h : laidMetH Tryz.prog Rows.fnExactReadTableRow.laid W) : laidMet Tryz.prog laid9 W ∧ HandleAt W := by
  have h' : laidMet Tryz.prog laid9 W ∧ handlesMet Tryz.prog [("errors.errorType", Rows.laid_errors_errorType)] W := h
  refine ⟨h'.1, ?_⟩
  obtain ⟨name, u, ty, e1, e2, e3, e4, e5⟩ := h'.2 _ (List.mem_singleton.2 rfl)
  have en : name = [101, 114, 114, 111, 114] := (Option.some.inj e1).symm
  subst en
  obtain rfl := Option.some.inj (rtRow.symm.trans e2)
  have hm : ty ∈ (List.range 238).filter fun t => Tryz.prog.rowNamed t [101, 114, 114, 111, 114] := List.mem_filter.2 ⟨List.mem_range.2 (by rw [← tySize9]; exact e3), e4⟩
  rw [oneRow9] at hm
  obtain rfl := List.mem_singleton.1 hm
  have hh : typeHandle Tryz.prog 53 = .pointer (some ⟨9, 53, none⟩) := by kernel_rfl
  rw [hh] at e5
  have hz := World.var?_cell gET e5 0
  unfold HandleAt
  simpa using hz
end Go.Proofs.YticeagjonfifbaaGreatDoor
namespace Go.Proofs.YticeagjonfifbaaGreatDoor
open Go.RowKit

theorem csvF_ge9 (l : List UInt8) : l.length ≤ (csvF l).length := by
  have : ∀ l : List UInt8, l.length ≤ (dblL l).length := by
    intro l
    induction l with
    | nil => simp [dblL]
    | cons c r ih =>
      rw [dblL]
      split <;> simp only [List.length_cons] <;> omega
  have := this l
  unfold csvF
  split
  · simp only [List.length_cons, List.length_append, List.length_nil]; omega
  · omega
theorem rowT_mem9 : ∀ (r : List (List UInt8)) (p : List UInt8), p ∈ r → p.length ≤ (rowT r).length
  | [], _, h => by cases h
  | [a], p, h => by
    obtain rfl : p = a := by simpa using h
    rw [rowT]
    exact csvF_ge9 p
  | a :: b :: u, p, h => by
    have h1 := csvF_ge9 a
    rw [rowT]
    simp only [List.length_append, List.length_cons]
    rcases List.mem_cons.1 h with rfl | h
    · omega
    · have := rowT_mem9 (b :: u) p h
      omega
theorem csvT_mem9 {L : List (List (List UInt8))} {r : List (List UInt8)} (h : r ∈ L) : (rowT r).length + 1 ≤ (csvT L).length := by
  induction L with
  | nil => cases h
  | cons a t ih =>
    rw [csvT]
    simp only [List.length_append, List.length_cons]
    rcases List.mem_cons.1 h with rfl | h
    · omega
    · have := ih h
      omega
theorem text_mem9 {L : List (List (List UInt8))} (h : (csvT L).length ≤ 36000) : ∀ r ∈ L, ∀ p ∈ r, p.length ≤ 36000 := fun r hr p hp => by
  have h1 := csvT_mem9 hr
  have h2 := rowT_mem9 r p hp
  omega
/-- WHAT THE REFERENCE ANSWERS. -/
theorem specReadTable : SpecReadT := fun s w T c2 i2 k2 hr => by
  obtain ⟨L, c, i, k, hq⟩ : ∃ L c i k, csvQ s.data.toList = (L, c, i, k) := ⟨_, _, _, _, rfl⟩
  by_cases hc : c = 0
  · subst hc
    cases L with
    | nil => exact specReadTable_empty s w T c2 i2 k2 hr hq
    | cons N t =>
      have hb := csvQ_bound hq
      have hnl : ∀ r ∈ N :: t, ∀ p ∈ r, p.length ≤ 9223372036854775807 := fun r hr p hp => by
        have := text_mem9 hb.2.1 r hr p hp
        omega
      by_cases hh : (headF N).1 = 0
      · cases hi : inZ (t.length : Int) 1 40 with
        | true => exact specReadTable_main s w T c2 i2 k2 hr hq hnl hh hi
        | false => exact specReadTable_many s w T c2 i2 k2 hr hq hnl hh hi
      · exact specReadTable_head s w T c2 i2 k2 hr hq hnl hh
  · exact specReadTable_csv s w T c2 i2 k2 hr hq hc
end Go.Proofs.YticeagjonfifbaaGreatDoor
