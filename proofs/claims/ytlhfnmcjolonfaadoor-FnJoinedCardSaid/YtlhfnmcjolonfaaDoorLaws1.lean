/-
  The walks of the laws on Number and IntText.
-/
import Derived.Test.YtlhfnmcjolonfaaDoorNumI
namespace Go.Proofs.YtlhfnmcjolonfaaDoor
open Go.RowKit

theorem powTable5 {r : List (String × DataW Unit)} {d1 d2 : String × DataW Unit} {W : World} (h : laidMet Tryd.prog (d1 :: d2 :: ("internal/strconv.uint64pow10", Rows.laid_internal_strconv_uint64pow10) :: r) W) : Lib.TabIs Tryd.prog W "internal/strconv.uint64pow10" .u64 Lib.pow10Tab := by
  have h2 : laidMet Tryd.prog (("internal/strconv.uint64pow10", Lib.tabData .u64 Lib.pow10Tab) :: r) W := by rw [← powData]; exact h.tail.tail
  exact Lib.tabIs_of_head gPow gPowType Tryd.underlying95 Tryd.underlying76 cellsU64 cellsPow h2

theorem implIntText (s : ByteArray) (hsz : s.size ≤ 1048576) (tp tq : TypeId) (p q : Value) (w : World)
    (htab : Lib.TabIs Tryd.prog w "internal/strconv.uint64pow10" .u64 Lib.pow10Tab) (hg : 2 < w.heap.size)
    (hv1 : w.var? Tryd.prog "strconv.ErrSyntax" = some #[.iface tp p]) (hv2 : w.var? Tryd.prog "strconv.ErrRange" = some #[.iface tq q]) :
    Calls Tryd.prog 11 #[.string s] w fun e w' => ItPost s.data.toList e ∧ Below w.heap.size w w' := by
  by_cases hx : ∃ n, IsNum s.data.toList n
  · obtain ⟨n, hn⟩ := hx
    exact (implIntText_yes s n hn w htab hg).mono fun e w' ⟨he, hb⟩ => ⟨Or.inl ⟨n, hn, he⟩, hb⟩
  · have hno : ∀ n, ¬ IsNum s.data.toList n := fun n hn => hx ⟨n, hn⟩
    exact (implIntText_no s hsz hno tp tq p q w htab hg hv1 hv2).mono fun e w' ⟨he, hb⟩ => ⟨Or.inr ⟨hno, he⟩, hb⟩

theorem implNumber (s : ByteArray) (hsz : s.size ≤ 1048576) (tp tq : TypeId) (p q : Value) (w : World)
    (htab : Lib.TabIs Tryd.prog w "internal/strconv.uint64pow10" .u64 Lib.pow10Tab) (hg : 2 < w.heap.size)
    (hv1 : w.var? Tryd.prog "strconv.ErrSyntax" = some #[.iface tp p]) (hv2 : w.var? Tryd.prog "strconv.ErrRange" = some #[.iface tq q]) :
    Calls Tryd.prog 15 #[.string s] w fun e w' => NrPost s.data.toList e ∧ Below w.heap.size w w' := by
  by_cases hx : ∃ n, IsNum s.data.toList n
  · obtain ⟨n, hn⟩ := hx
    by_cases hr : 0 ≤ n ∧ n ≤ 999999999
    · exact (implNumber_yes s n hn hr.1 hr.2 w htab hg).mono fun e w' ⟨he, hb⟩ => ⟨Or.inl ⟨n, hn, hr.1, hr.2, he⟩, hb⟩
    · have ho : n < 0 ∨ 999999999 < n := by omega
      exact (implNumber_out s n hn ho w htab hg).mono fun e w' ⟨he, hb⟩ => ⟨Or.inr ⟨fun m hm => isNum_one hn hm ▸ ho, he⟩, hb⟩
  · have hno : ∀ n, ¬ IsNum s.data.toList n := fun n hn => hx ⟨n, hn⟩
    exact (implNumber_no s hsz hno tp tq p q w htab hg hv1 hv2).mono fun e w' ⟨he, hb⟩ => ⟨Or.inr ⟨fun n hn => absurd hn (hno n), he⟩, hb⟩

/-- What IntText answers is one value. -/
theorem itPost_val {l : List UInt8} : ∃ (n : Int) (b : Bool), ∀ e, ItPost l e → e = .returned (.tuple #[.int .i64 n, .bool b]) := by
  by_cases hx : ∃ n, IsNum l n
  · obtain ⟨n, hn⟩ := hx
    refine ⟨n, true, fun e he => ?_⟩
    rcases he with ⟨m, hm, he⟩ | ⟨hno, _⟩
    · rw [he, isNum_one hn hm]
    · exact absurd hn (hno n)
  · refine ⟨0, false, fun e he => ?_⟩
    rcases he with ⟨m, hm, _⟩ | ⟨_, he⟩
    · exact absurd ⟨m, hm⟩ hx
    · exact he
theorem nrPost_val {l : List UInt8} : ∃ (n : Int) (b : Bool), ∀ e, NrPost l e → e = .returned (.tuple #[.int .i64 n, .bool b]) := by
  by_cases hx : ∃ n, IsNum l n ∧ 0 ≤ n ∧ n ≤ 999999999
  · obtain ⟨n, hn, h0, h1⟩ := hx
    refine ⟨n, true, fun e he => ?_⟩
    rcases he with ⟨m, hm, _, _, he⟩ | ⟨hno, _⟩
    · rw [he, isNum_one hn hm]
    · have := hno n hn; omega
  · refine ⟨0, false, fun e he => ?_⟩
    rcases he with ⟨m, hm, a, b, _⟩ | ⟨_, he⟩
    · exact absurd ⟨m, hm, a, b⟩ hx
    · exact he

set_option maxRecDepth 100000 in
theorem lawIntText (s : ByteArray) (tp tq : TypeId) (p q : Value) (w : World)
    (htab : Lib.TabIs Tryd.prog w "internal/strconv.uint64pow10" .u64 Lib.pow10Tab) (hg : 2 < w.heap.size)
    (hv1 : w.var? Tryd.prog "strconv.ErrSyntax" = some #[.iface tp p]) (hv2 : w.var? Tryd.prog "strconv.ErrRange" = some #[.iface tq q]) :
    Calls Tryd.prog 7 #[.string s] w fun e w' => e = .returned (.bool true) ∧ Below w.heap.size w w' := by
  have V1 := Lib.hid hv1
  have V2 := Lib.hid hv2
  have hgS : 0 < w.heap.size := var_lt gES hv1
  have hgR : 1 < w.heap.size := var_lt gER hv2
  clear hv1 hv2
  obtain ⟨n, b, hval⟩ := itPost_val (l := s.data.toList)
  have HV := Lib.hid hval
  clear hval
  by_cases hsz : s.size ≤ 1048576
  · go_enter Tryd.func7, Tryd.ntmps7
    go_wp2_with fail
    refine (specIntText s _).mono ?_
    rintro e w1 ⟨hp, hB⟩
    obtain rfl := HV.out e hp
    clear hp
    go_wp2_with fail
    refine (implIntText s hsz tp tq p q _ (tabIs_below htab hB gPow hg) (Nat.lt_of_lt_of_le hg hB.size) (var?_below hB gES hgS V1.out) (var?_below hB gER hgR V2.out)).mono ?_
    rintro e w2 ⟨hp, hB2⟩
    obtain rfl := HV.out e hp
    clear hp
    go_wp2_with fail
    go_ret
    exact ⟨rfl, hB.trans (hB2.mono hB.size)⟩
  · go_enter Tryd.func7, Tryd.ntmps7
    go_wp2_with fail
    go_ret
    exact ⟨rfl, Below.refl _ _⟩

set_option maxRecDepth 100000 in
theorem lawNumber (s : ByteArray) (tp tq : TypeId) (p q : Value) (w : World)
    (htab : Lib.TabIs Tryd.prog w "internal/strconv.uint64pow10" .u64 Lib.pow10Tab) (hg : 2 < w.heap.size)
    (hv1 : w.var? Tryd.prog "strconv.ErrSyntax" = some #[.iface tp p]) (hv2 : w.var? Tryd.prog "strconv.ErrRange" = some #[.iface tq q]) :
    Calls Tryd.prog 6 #[.string s] w fun e w' => e = .returned (.bool true) ∧ Below w.heap.size w w' := by
  have V1 := Lib.hid hv1
  have V2 := Lib.hid hv2
  have hgS : 0 < w.heap.size := var_lt gES hv1
  have hgR : 1 < w.heap.size := var_lt gER hv2
  clear hv1 hv2
  obtain ⟨n, b, hval⟩ := nrPost_val (l := s.data.toList)
  have HV := Lib.hid hval
  clear hval
  by_cases hsz : s.size ≤ 1048576
  · go_enter Tryd.func6, Tryd.ntmps6
    go_wp2_with fail
    refine (specNumber s _).mono ?_
    rintro e w1 ⟨hp, hB⟩
    obtain rfl := HV.out e hp
    clear hp
    go_wp2_with fail
    refine (implNumber s hsz tp tq p q _ (tabIs_below htab hB gPow hg) (Nat.lt_of_lt_of_le hg hB.size) (var?_below hB gES hgS V1.out) (var?_below hB gER hgR V2.out)).mono ?_
    rintro e w2 ⟨hp, hB2⟩
    obtain rfl := HV.out e hp
    clear hp
    go_wp2_with fail
    go_ret
    exact ⟨rfl, hB.trans (hB2.mono hB.size)⟩
  · go_enter Tryd.func6, Tryd.ntmps6
    go_wp2_with fail
    go_ret
    exact ⟨rfl, Below.refl _ _⟩
end Go.Proofs.YtlhfnmcjolonfaaDoor
