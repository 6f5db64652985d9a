/-
  The walks of the laws on Number and IntText.
-/
import Derived.Test.YtnnbhgnllbjmeaaDoorNumI
namespace Go.Proofs.YtnnbhgnllbjmeaaDoor
open Go.RowKit

theorem powTable5 {r : List (String × DataW Unit)} {d1 d2 : String × DataW Unit} {W : World} (h : laidMet Tryd.prog (d1 :: d2 :: ("internal/strconv.uint64pow10", Rows.laid_internal_strconv_uint64pow10) :: r) W) : Lib.TabIs Tryd.prog W "internal/strconv.uint64pow10" .u64 Lib.pow10Tab := by
  have h2 : laidMet Tryd.prog (("internal/strconv.uint64pow10", Lib.tabData .u64 Lib.pow10Tab) :: r) W := by rw [← powData]; exact h.tail.tail
  exact Lib.tabIs_of_head gPow gPowType Tryd.underlying133 Tryd.underlying108 cellsU64 cellsPow h2

theorem implNumber (s : ByteArray) (hsz : s.size ≤ 1048576) (tp tq : TypeId) (p q : Value) (w : World)
    (htab : Lib.TabIs Tryd.prog w "internal/strconv.uint64pow10" .u64 Lib.pow10Tab) (hg : 1 < w.heap.size)
    (hv1 : w.var? Tryd.prog "strconv.ErrSyntax" = some #[.iface tp p]) (hv2 : w.var? Tryd.prog "strconv.ErrRange" = some #[.iface tq q]) :
    Calls Tryd.prog 70 #[.string s] w fun e w' => NrPost s.data.toList e ∧ Below w.heap.size w w' := by
  by_cases hx : ∃ n, IsNum s.data.toList n
  · obtain ⟨n, hn⟩ := hx
    by_cases hr : 0 ≤ n ∧ n ≤ 999999999
    · exact (implNumber_yes s n hn hr.1 hr.2 w htab hg).mono fun e w' ⟨he, hb⟩ => ⟨Or.inl ⟨n, hn, hr.1, hr.2, he⟩, hb⟩
    · have ho : n < 0 ∨ 999999999 < n := by omega
      exact (implNumber_out s n hn ho w htab hg).mono fun e w' ⟨he, hb⟩ => ⟨Or.inr ⟨fun m hm => isNum_one hn hm ▸ ho, he⟩, hb⟩
  · have hno : ∀ n, ¬ IsNum s.data.toList n := fun n hn => hx ⟨n, hn⟩
    exact (implNumber_no s hsz hno tp tq p q w htab hg hv1 hv2).mono fun e w' ⟨he, hb⟩ => ⟨Or.inr ⟨fun n hn => absurd hn (hno n), he⟩, hb⟩

/-- What IntText answers is one value. -/
theorem itPost_val {l : List UInt8} : ∃ (n : Int) (b : Bool), ∀ e, ItPost l e → e = .returned (.tuple #[.int .i64 n, .bool b]) := by
  by_cases hx : ∃ n, IsNum l n
  · obtain ⟨n, hn⟩ := hx
    refine ⟨n, true, fun e he => ?_⟩
    rcases he with ⟨m, hm, he⟩ | ⟨hno, _⟩
    · rw [he, isNum_one hn hm]
    · exact absurd hn (hno n)
  · refine ⟨0, false, fun e he => ?_⟩
    rcases he with ⟨m, hm, _⟩ | ⟨_, he⟩
    · exact absurd ⟨m, hm⟩ hx
    · exact he
theorem nrPost_val {l : List UInt8} : ∃ (n : Int) (b : Bool), ∀ e, NrPost l e → e = .returned (.tuple #[.int .i64 n, .bool b]) := by
  by_cases hx : ∃ n, IsNum l n ∧ 0 ≤ n ∧ n ≤ 999999999
  · obtain ⟨n, hn, h0, h1⟩ := hx
    refine ⟨n, true, fun e he => ?_⟩
    rcases he with ⟨m, hm, _, _, he⟩ | ⟨hno, _⟩
    · rw [he, isNum_one hn hm]
    · have := hno n hn; omega
  · refine ⟨0, false, fun e he => ?_⟩
    rcases he with ⟨m, hm, a, b, _⟩ | ⟨_, he⟩
    · exact absurd ⟨m, hm, a, b⟩ hx
    · exact he

end Go.Proofs.YtnnbhgnllbjmeaaDoor
