/-
  What impl.Number and spec.Number answer, at every string.
-/
import Derived.Test.YtnnbhgnllbjmeaaDoorIntI
namespace Go.Proofs.YtnnbhgnllbjmeaaDoor
open Go.RowKit

theorem recNumber_panicking (u : TypeId) (pv : Value) (older : List PanicEntry) (w : World) :
    CallsD Tryd.prog 87 #[] (.panicking ({ v := .iface u pv, recovered := false } :: older)) w fun e u' w' =>
      e = .returned (.tuple #[]) ∧ u' = .panicking ({ v := .iface u pv, recovered := true } :: older) ∧ w' = w := by
  refine callsD_of_wpS Tryd.func87 rfl fun c₀ cs hu => ?_
  apply wpS_region
  simp [wpOpsS, go_sem, recoverD, hu, Tryd.ntmps87, bodyPostS, results, Tryd.results87]

theorem recNumber_idle (w : World) :
    CallsD Tryd.prog 87 #[] .returning w fun e u' w' => e = .returned (.tuple #[]) ∧ u' = .returning ∧ w' = w := by
  refine callsD_of_wpS Tryd.func87 rfl fun c₀ cs hu => ?_
  apply wpS_region
  simp [wpOpsS, go_sem, recoverD, hu, Tryd.ntmps87, bodyPostS, results, Tryd.results87]
  cases c₀
  simp_all

def outOfRange : PanicEntry := { v := .iface 9 (.string ⟨#[110, 117, 109, 98, 101, 114, 32, 111, 117, 116, 32, 111, 102, 32, 114, 97, 110, 103, 101]⟩), recovered := false }

theorem mustRange_yes (n lo hi : Int) (h0 : lo ≤ n) (h1 : n ≤ hi) (w : World) :
    Calls Tryd.prog 88 #[.int .i64 n, .int .i64 lo, .int .i64 hi] w fun e w' => e = .returned (.int .i64 n) ∧ w = w' := by
  have a0 : ¬ n < lo := by omega
  have a1 : ¬ hi < n := by omega
  go_enter Tryd.func88, Tryd.ntmps88
  go_wp2
  go_ret
  exact ⟨rfl, rfl⟩
theorem mustRange_no (n lo hi : Int) (h : n < lo ∨ hi < n) (w : World) :
    Calls Tryd.prog 88 #[.int .i64 n, .int .i64 lo, .int .i64 hi] w fun e w' => e = .panicked [outOfRange] ∧ w = w' := by
  by_cases a0 : n < lo
  · clear h
    go_enter Tryd.func88, Tryd.ntmps88
    go_wp2
    exact ⟨rfl, rfl, rfl⟩
  · have a1 : hi < n := by omega
    clear h
    go_enter Tryd.func88, Tryd.ntmps88
    go_wp2
    exact ⟨rfl, rfl, rfl⟩

set_option maxRecDepth 100000 in
theorem implNumber_yes (s : ByteArray) (n : Int) (hn : IsNum s.data.toList n) (h0 : 0 ≤ n) (h1 : n ≤ 999999999) (w : World) (htab : Lib.TabIs Tryd.prog w "internal/strconv.uint64pow10" .u64 Lib.pow10Tab) (hg : 1 < w.heap.size) :
    Calls Tryd.prog 70 #[.string s] w fun e w' => e = .returned (.tuple #[.int .i64 n, .bool true]) ∧ Below w.heap.size w w' := by
  go_enter_defers Tryd.func70, Tryd.ntmps70
  go_wp2_with fail
  refine (mustInt_yes s n hn _ htab hg).mono ?_
  rintro e w1 ⟨rfl, hB⟩
  go_wp2_with fail
  refine (mustRange_yes n 0 999999999 h0 h1 _).mono ?_
  rintro e w2 ⟨rfl, rfl⟩
  go_wp2_with fail
  refine leaves_cons (f := 87) (args := #[]) (by simp) (by simp [go_sem]) ?_
  refine (recNumber_idle _).mono ?_
  rintro e u' w2 ⟨rfl, rfl, rfl⟩
  simp [Leaves, settle, results, Tryd.results70, go_sem, hB]

set_option maxRecDepth 100000 in
theorem implNumber_out (s : ByteArray) (n : Int) (hn : IsNum s.data.toList n) (h : n < 0 ∨ 999999999 < n) (w : World) (htab : Lib.TabIs Tryd.prog w "internal/strconv.uint64pow10" .u64 Lib.pow10Tab) (hg : 1 < w.heap.size) :
    Calls Tryd.prog 70 #[.string s] w fun e w' => e = .returned (.tuple #[.int .i64 0, .bool false]) ∧ Below w.heap.size w w' := by
  go_enter_defers Tryd.func70, Tryd.ntmps70
  go_wp2_with fail
  refine (mustInt_yes s n hn _ htab hg).mono ?_
  rintro e w1 ⟨rfl, hB⟩
  go_wp2_with fail
  refine (mustRange_no n 0 999999999 h _).mono ?_
  rintro e w2 ⟨rfl, rfl⟩
  go_wp2_with fail
  refine leaves_cons (f := 87) (args := #[]) (by simp) (by simp [go_sem]) ?_
  refine (recNumber_panicking _ _ [] _).mono ?_
  rintro e u' w2 ⟨rfl, rfl, rfl⟩
  simp [Leaves, settle, results, Tryd.results70, go_sem, hB]

set_option maxRecDepth 100000 in
theorem implNumber_no (s : ByteArray) (hsz : s.size ≤ 1048576) (h : ∀ n, ¬ IsNum s.data.toList n) (tp tq : TypeId) (p q : Value) (w : World)
    (htab : Lib.TabIs Tryd.prog w "internal/strconv.uint64pow10" .u64 Lib.pow10Tab) (hg : 1 < w.heap.size)
    (hv1 : w.var? Tryd.prog "strconv.ErrSyntax" = some #[.iface tp p]) (hv2 : w.var? Tryd.prog "strconv.ErrRange" = some #[.iface tq q]) :
    Calls Tryd.prog 70 #[.string s] w fun e w' => e = .returned (.tuple #[.int .i64 0, .bool false]) ∧ Below w.heap.size w w' := by
  go_enter_defers Tryd.func70, Tryd.ntmps70
  go_wp2_with fail
  refine (mustInt_no s hsz h tp tq p q _ htab hg hv1 hv2).mono ?_
  rintro e w1 ⟨rfl, hB⟩
  go_wp2_with fail
  refine leaves_cons (f := 87) (args := #[]) (by simp) (by simp [go_sem]) ?_
  refine (recNumber_panicking _ _ [] _).mono ?_
  rintro e u' w2 ⟨rfl, rfl, rfl⟩
  simp [Leaves, settle, results, Tryd.results70, go_sem, hB]

/-- What Number answers. -/
def NrPost (l : List UInt8) (e : Ending) : Prop :=
  (∃ n, IsNum l n ∧ 0 ≤ n ∧ n ≤ 999999999 ∧ e = .returned (.tuple #[.int .i64 n, .bool true])) ∨ ((∀ n, IsNum l n → n < 0 ∨ 999999999 < n) ∧ e = .returned (.tuple #[.int .i64 0, .bool false]))

theorem isNum_one {l : List UInt8} {n m : Int} (h : IsNum l n) (k : IsNum l m) : n = m := by
  have a := atoi_isNum h
  have b := atoi_isNum k
  rw [a] at b
  injection b

theorem specIn_yes (x lo hi : Int) (a0 : lo ≤ x) (a1 : x ≤ hi) (w : World) :
    Calls Tryd.prog 38 #[.int .i64 x, .int .i64 lo, .int .i64 hi] w fun e w' => e = .returned (.bool true) ∧ w = w' := by
  go_enter Tryd.func38, Tryd.ntmps38
  go_wp2
  go_ret
  exact ⟨by first | (simp; done) | (simp; omega), rfl⟩
theorem specIn_no (x lo hi : Int) (h : x < lo ∨ hi < x) (w : World) :
    Calls Tryd.prog 38 #[.int .i64 x, .int .i64 lo, .int .i64 hi] w fun e w' => e = .returned (.bool false) ∧ w = w' := by
  have H := Lib.hid h
  clear h
  go_enter Tryd.func38, Tryd.ntmps38
  go_wp2
  all_goals
    go_ret
    have h := H.out
    exact ⟨by first | (simp; done) | (simp; omega), rfl⟩

set_option maxRecDepth 100000 in
theorem specNumber (s : ByteArray) (w : World) :
    Calls Tryd.prog 53 #[.string s] w fun e w' => NrPost s.data.toList e ∧ Below w.heap.size w w' := by
  by_cases hx : ∃ n, IsNum s.data.toList n
  · obtain ⟨n, hn⟩ := hx
    have hit : Calls Tryd.prog 65 #[.string s] w fun e w' => e = .returned (.tuple #[.int .i64 n, .bool true]) ∧ Below w.heap.size w w' :=
      (specIntText s w).mono fun e w' ⟨hp, hb⟩ => ⟨by
        rcases hp with ⟨m, hm, he⟩ | ⟨hno, _⟩
        · rw [he, isNum_one hm hn]
        · exact absurd hn (hno n), hb⟩
    have HN := Lib.hid hn
    have HIT := Lib.hid hit
    clear hn hit
    by_cases hr : 0 ≤ n ∧ n ≤ 999999999
    · obtain ⟨h0, h1⟩ := hr
      go_enter Tryd.func53, Tryd.ntmps53
      go_wp2_with fail
      refine HIT.out.mono ?_
      rintro e w1 ⟨rfl, hB⟩
      go_wp2_with fail
      refine (specIn_yes n 0 999999999 h0 h1 _).mono ?_
      rintro e w2 ⟨rfl, rfl⟩
      go_wp2_with fail
      go_ret2
      exact ⟨Or.inl ⟨n, HN.out, h0, h1, rfl⟩, hB⟩
    · have ho : Hid (n < 0 ∨ 999999999 < n) := by show n < 0 ∨ 999999999 < n; omega
      clear hr
      go_enter Tryd.func53, Tryd.ntmps53
      go_wp2_with fail
      refine HIT.out.mono ?_
      rintro e w1 ⟨rfl, hB⟩
      go_wp2_with fail
      refine (specIn_no n 0 999999999 ho.out _).mono ?_
      rintro e w2 ⟨rfl, rfl⟩
      go_wp2_with fail
      go_ret2
      exact ⟨Or.inr ⟨fun m hm => isNum_one HN.out hm ▸ ho.out, rfl⟩, hB⟩
  · have hno : ∀ n, ¬ IsNum s.data.toList n := fun n hn => hx ⟨n, hn⟩
    have hit : Calls Tryd.prog 65 #[.string s] w fun e w' => e = .returned (.tuple #[.int .i64 0, .bool false]) ∧ Below w.heap.size w w' :=
      (specIntText s w).mono fun e w' ⟨hp, hb⟩ => ⟨by
        rcases hp with ⟨m, hm, he⟩ | ⟨_, he⟩
        · exact absurd hm (hno m)
        · exact he, hb⟩
    have HN := Lib.hid hno
    have HIT := Lib.hid hit
    clear hno hit hx
    go_enter Tryd.func53, Tryd.ntmps53
    go_wp2_with fail
    refine HIT.out.mono ?_
    rintro e w1 ⟨rfl, hB⟩
    go_wp2_with fail
    go_ret2
    exact ⟨Or.inr ⟨fun m hm => absurd hm (HN.out m), rfl⟩, hB⟩
end Go.Proofs.YtnnbhgnllbjmeaaDoor
