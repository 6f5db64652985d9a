/-
  What impl's parser of integers does: it hands the integer back, or it panics.
-/
import Derived.Test.YtnnbhgnllbjmeaaDoorIntW
import Derived.Test.YtnnbhgnllbjmeaaDoorShAtoi
import Derived.Defers
import Derived.Test.YtnnbhgnllbjmeaaDoorLaid
import Derived.Recover
import Derived.WalkLawsBesides
import Derived.Lib.AtoiAllCases
namespace Go.Proofs.YtnnbhgnllbjmeaaDoor
open Go.RowKit

theorem bytesWorld_or {w w' : World} {t : TypeId} (h : w' = w ∨ ∃ n, w' = Lib.bytesWorld w t n) : Below w.heap.size w w' := by
  rcases h with rfl | ⟨n, rfl⟩
  · exact Below.refl _ _
  · exact Lib.bytesWorld_below _ _ _

set_option maxRecDepth 100000 in
set_option maxHeartbeats 1000000 in
theorem mustInt_yes (s : ByteArray) (n : Int) (hn : IsNum s.data.toList n) (w : World) (htab : Lib.TabIs Tryd.prog w "internal/strconv.uint64pow10" .u64 Lib.pow10Tab) (hg : 1 < w.heap.size) :
    Calls Tryd.prog 89 #[.string s] w fun e w' => e = .returned (.int .i64 n) ∧ Below w.heap.size w w' := by
  have hl := (isNum_parts hn).2.2.2.2.2
  have hb0 := hn.1
  have hb1 := hn.2.1
  have hsz : s.size ≤ 20 := by simpa using hl
  have hat := atoi_isNum hn
  have hne := strEq hn.2.2
  have HAT := Lib.hid hat
  clear hat hl hn
  go_enter Tryd.func89, Tryd.ntmps89
  go_wp2_with fail
  refine (Tryd.strconv_Atoi_ok s (by omega) n HAT.out _).mono ?_
  rintro e w1 ⟨rfl, hw1⟩
  have hB := bytesWorld_or hw1
  clear hw1
  go_wp2_with fail
  refine (implDigits n hb0 hb1 _ (tabIs_below htab hB gPow hg)).mono ?_
  rintro e w2 ⟨rfl, hB2⟩
  go_wp2_with fail
  go_ret
  exact ⟨rfl, hB.trans (hB2.mono hB.size)⟩

/-- strconv.Atoi at a string that it refuses. -/
theorem atoi_err (s : ByteArray) (hlim : s.size ≤ 281474976710656) (h : ∀ v, Lib.atoiAll s.data.toList ≠ .ok v) (tp tq : TypeId) (p q : Value) (w : World)
    (hv1 : w.var? Tryd.prog "strconv.ErrSyntax" = some #[.iface tp p]) (hv2 : w.var? Tryd.prog "strconv.ErrRange" = some #[.iface tq q]) :
    Calls Tryd.prog 104 #[.string s] w fun e w' => ∃ (n : Int) (N : Nat), e = .returned (.tuple #[.int .i64 n, .iface 143 (.pointer (some ⟨N, 0, none⟩))]) ∧ Below w.heap.size w w' := by
  cases hx : Lib.atoiAll s.data.toList with
  | ok v => exact absurd hx (h v)
  | range => exact (Tryd.strconv_Atoi_range_var s hlim hx tq q w hv2).mono fun e w' ⟨N, he, _, _, hb⟩ => ⟨_, N, he, hb⟩
  | _ => exact (Any.strconv_Atoi_syntax_var Tryd.laysC172 s hlim hx tp p w hv1).mono fun e w' ⟨N, he, _, _, hb⟩ => ⟨_, N, he, hb⟩

def notDigits : PanicEntry := { v := .iface 9 (.string ⟨#[110, 111, 116, 32, 116, 104, 101, 32, 100, 105, 103, 105, 116, 115, 32, 111, 102, 32, 97, 110, 32, 105, 110, 116, 101, 103, 101, 114]⟩), recovered := false }

set_option maxRecDepth 100000 in
set_option maxHeartbeats 1000000 in
theorem mustInt_no_err (s : ByteArray) (hsz : s.size ≤ 1048576) (h : ∀ v, Lib.atoiAll s.data.toList ≠ .ok v) (tp tq : TypeId) (p q : Value) (w : World)
    (hv1 : w.var? Tryd.prog "strconv.ErrSyntax" = some #[.iface tp p]) (hv2 : w.var? Tryd.prog "strconv.ErrRange" = some #[.iface tq q]) :
    Calls Tryd.prog 89 #[.string s] w fun e w' => e = .panicked [notDigits] ∧ Below w.heap.size w w' := by
  have H := Lib.hid h
  have V1 := Lib.hid hv1
  have V2 := Lib.hid hv2
  clear h hv1 hv2
  go_enter Tryd.func89, Tryd.ntmps89
  go_wp2_with fail
  refine (atoi_err s (by omega) H.out tp tq p q _ V1.out V2.out).mono ?_
  rintro e w1 ⟨n, N, rfl, hB⟩
  go_wp2_with fail
  exact ⟨rfl, rfl, hB⟩

set_option maxRecDepth 100000 in
set_option maxHeartbeats 1000000 in
theorem mustInt_no_text (s : ByteArray) (hsz : s.size ≤ 1048576) (n : Int) (h : Lib.atoiAll s.data.toList = .ok n) (hne : Lib.itoa n ≠ s.data.toList) (hb0 : -9223372036854775808 ≤ n) (hb1 : n ≤ 9223372036854775807) (w : World)
    (htab : Lib.TabIs Tryd.prog w "internal/strconv.uint64pow10" .u64 Lib.pow10Tab) (hg : 1 < w.heap.size) :
    Calls Tryd.prog 89 #[.string s] w fun e w' => e = .panicked [notDigits] ∧ Below w.heap.size w w' := by
  have H := Lib.hid h
  have hn := strNe hne
  clear h hne
  go_enter Tryd.func89, Tryd.ntmps89
  go_wp2_with fail
  refine (Tryd.strconv_Atoi_ok s (by omega) n H.out _).mono ?_
  rintro e w1 ⟨rfl, hw1⟩
  have hB := bytesWorld_or hw1
  clear hw1
  go_wp2_with fail
  refine (implDigits n hb0 hb1 _ (tabIs_below htab hB gPow hg)).mono ?_
  rintro e w2 ⟨rfl, hB2⟩
  go_wp2_with fail
  exact ⟨rfl, rfl, hB.trans (hB2.mono hB.size)⟩

theorem mustInt_no (s : ByteArray) (hsz : s.size ≤ 1048576) (h : ∀ n, ¬ IsNum s.data.toList n) (tp tq : TypeId) (p q : Value) (w : World)
    (htab : Lib.TabIs Tryd.prog w "internal/strconv.uint64pow10" .u64 Lib.pow10Tab) (hg : 1 < w.heap.size)
    (hv1 : w.var? Tryd.prog "strconv.ErrSyntax" = some #[.iface tp p]) (hv2 : w.var? Tryd.prog "strconv.ErrRange" = some #[.iface tq q]) :
    Calls Tryd.prog 89 #[.string s] w fun e w' => e = .panicked [notDigits] ∧ Below w.heap.size w w' := by
  by_cases hx : ∀ v, Lib.atoiAll s.data.toList ≠ .ok v
  · exact mustInt_no_err s hsz hx tp tq p q w hv1 hv2
  · obtain ⟨n, hn⟩ : ∃ n, Lib.atoiAll s.data.toList = .ok n := by
      cases hy : Lib.atoiAll s.data.toList with
      | ok v => exact ⟨v, rfl⟩
      | _ => exact absurd (fun v hv => by rw [hy] at hv; cases hv) hx
    have hb := Lib.atoiAll_bounds hn
    exact mustInt_no_text s hsz n hn (fun he => h n ⟨hb.1, hb.2, he⟩) hb.1 hb.2 w htab hg
end Go.Proofs.YtnnbhgnllbjmeaaDoor
