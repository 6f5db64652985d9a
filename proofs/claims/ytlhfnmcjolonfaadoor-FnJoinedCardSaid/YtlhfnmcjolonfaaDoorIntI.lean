/-
  What impl.IntText answers, at every string: it recovers what the parser panics with.
-/
import Derived.Test.YtlhfnmcjolonfaaDoorMust
namespace Go.Proofs.YtlhfnmcjolonfaaDoor
open Go.RowKit

theorem recIntText_panicking (u : TypeId) (pv : Value) (older : List PanicEntry) (w : World) :
    CallsD Tryd.prog 27 #[] (.panicking ({ v := .iface u pv, recovered := false } :: older)) w fun e u' w' =>
      e = .returned (.tuple #[]) ∧ u' = .panicking ({ v := .iface u pv, recovered := true } :: older) ∧ w' = w := by
  refine callsD_of_wpS Tryd.func27 rfl fun c₀ cs hu => ?_
  apply wpS_region
  simp [wpOpsS, go_sem, recoverD, hu, Tryd.ntmps27, bodyPostS, results, Tryd.results27]

theorem recIntText_idle (w : World) :
    CallsD Tryd.prog 27 #[] .returning w fun e u' w' => e = .returned (.tuple #[]) ∧ u' = .returning ∧ w' = w := by
  refine callsD_of_wpS Tryd.func27 rfl fun c₀ cs hu => ?_
  apply wpS_region
  simp [wpOpsS, go_sem, recoverD, hu, Tryd.ntmps27, bodyPostS, results, Tryd.results27]
  cases c₀
  simp_all

set_option maxRecDepth 100000 in
theorem implIntText_yes (s : ByteArray) (n : Int) (hn : IsNum s.data.toList n) (w : World) (htab : Lib.TabIs Tryd.prog w "internal/strconv.uint64pow10" .u64 Lib.pow10Tab) (hg : 2 < w.heap.size) :
    Calls Tryd.prog 11 #[.string s] w fun e w' => e = .returned (.tuple #[.int .i64 n, .bool true]) ∧ Below w.heap.size w w' := by
  go_enter_defers Tryd.func11, Tryd.ntmps11
  go_wp2_with fail
  refine (mustInt_yes s n hn _ htab hg).mono ?_
  rintro e w1 ⟨rfl, hB⟩
  go_wp2_with fail
  refine leaves_cons (f := 27) (args := #[]) (by simp) (by simp [go_sem]) ?_
  refine (recIntText_idle _).mono ?_
  rintro e u' w2 ⟨rfl, rfl, rfl⟩
  simp [Leaves, settle, results, Tryd.results11, go_sem, hB]

set_option maxRecDepth 100000 in
theorem implIntText_no (s : ByteArray) (hsz : s.size ≤ 1048576) (h : ∀ n, ¬ IsNum s.data.toList n) (tp tq : TypeId) (p q : Value) (w : World)
    (htab : Lib.TabIs Tryd.prog w "internal/strconv.uint64pow10" .u64 Lib.pow10Tab) (hg : 2 < w.heap.size)
    (hv1 : w.var? Tryd.prog "strconv.ErrSyntax" = some #[.iface tp p]) (hv2 : w.var? Tryd.prog "strconv.ErrRange" = some #[.iface tq q]) :
    Calls Tryd.prog 11 #[.string s] w fun e w' => e = .returned (.tuple #[.int .i64 0, .bool false]) ∧ Below w.heap.size w w' := by
  go_enter_defers Tryd.func11, Tryd.ntmps11
  go_wp2_with fail
  refine (mustInt_no s hsz h tp tq p q _ htab hg hv1 hv2).mono ?_
  rintro e w1 ⟨rfl, hB⟩
  go_wp2_with fail
  refine leaves_cons (f := 27) (args := #[]) (by simp) (by simp [go_sem]) ?_
  refine (recIntText_panicking _ _ [] _).mono ?_
  rintro e u' w2 ⟨rfl, rfl, rfl⟩
  simp [Leaves, settle, results, Tryd.results11, go_sem, hB]
end Go.Proofs.YtlhfnmcjolonfaaDoor
