/-
  Whether a table is right, by the reference.
-/
import Derived.Test.YtekdlkakcclejaaTabH
namespace Go.Proofs.Ytekdlkakcclejaa
open Go.RowKit

/-- Whether a number may stand in a table. -/
def valB (n : Int) : Bool := inZ n (-2147483647) 2147483647
def nameAt (T : Tab) (i : Nat) : Bool := nameB (T.ns.getD i []) && !hasB (T.ns.take i) (T.ns.getD i [])
def rowAt (T : Tab) (i : Nat) : Bool := decide ((T.rs.getD i []).length = T.ns.length) && valB (T.ys.getD i 0) && (T.rs.getD i []).all valB
def headB (T : Tab) : Bool := inZ (T.ns.length : Int) 1 4 && nameB T.y && !hasB T.ns T.y && inZ (T.rs.length : Int) 1 40 && decide (T.ys.length = T.rs.length)
/-- Whether a table is right. -/
def okT (T : Tab) : Bool := headB T && (List.range T.ns.length).all (nameAt T) && (List.range T.rs.length).all (rowAt T)
theorem range_not {n i : Nat} {p : Nat → Bool} (hi : i < n) (h : p i = false) : (List.range n).all p = false := by
  rw [List.all_eq_false]
  exact ⟨i, List.mem_range.2 hi, by rw [h]; simp⟩
theorem range_all {n : Nat} {p : Nat → Bool} (h : ∀ i, i < n → p i = true) : (List.range n).all p = true := by
  rw [List.all_eq_true]
  exact fun i hi => h i (List.mem_range.1 hi)
theorem getD_at {α : Type} {L : List α} {i : Nat} {x d : α} (h : L[i]? = some x) : L.getD i d = x := by
  rw [List.getD_eq_getElem?_getD, h]
  rfl
theorem zall_succ {L : List Int} {k : Nat} {z : Int} {p : Int → Bool} (hz : L[k]? = some z) : (L.take (k + 1)).all p = ((L.take k).all p && p z) := by
  rw [List.take_add_one, hz, List.all_append]
  simp
theorem zall_not {L : List Int} {k : Nat} {z : Int} {p : Int → Bool} (hz : L[k]? = some z) (h : p z = false) : L.all p = false := by
  rw [List.all_eq_false]
  exact ⟨z, List.mem_of_getElem? hz, by rw [h]; simp⟩
theorem sRow_cap {w : World} {a : Option Addr} {n c : Nat} {L : List (List UInt8)} (h : StrRow w (.slice a n c) L) (hn : 0 < n) : n ≤ c := by
  rcases h with ⟨_, a', c1, e⟩ | ⟨b, off, c1, e, h1, h2, h3⟩
  · injection e with e1 e2 e3
    omega
  · injection e with e1 e2 e3
    omega
theorem lt_succ_all {p : Nat → Bool} {j : Nat} (h : ∀ i, i < j → p i = true) (hj : p j = true) : ∀ i, i < j + 1 → p i = true := by
  intro i hi
  by_cases e : i = j
  · rw [e]; exact hj
  · exact h i (by omega)
theorem sRow_take {w : World} {a : Option Addr} {n c : Nat} {L : List (List UInt8)} (h : StrRow w (.slice a n c) L) {i : Nat} (hi : i ≤ n) (hn : L.length = n) (c' : Nat) (hc : i ≤ c') : StrRow w (.slice a i c') (L.take i) := by
  have hl : (L.take i).length = i := by rw [List.length_take]; omega
  rcases h with ⟨rfl, a', c1, e⟩ | ⟨b, off, c1, e, h1, h2, h3⟩
  · injection e with e1 e2 e3
    have : i = 0 := by omega
    subst this
    exact Or.inl ⟨by simp, a, c', rfl⟩
  · injection e with e1 e2 e3
    subst e1
    refine Or.inr ⟨b, off, c', by rw [hl], by omega, by omega, fun j z hj => ?_⟩
    have hji : j < i := by
      have := (List.getElem?_eq_some_iff.1 hj).1
      omega
    rw [List.getElem?_take, if_pos hji] at hj
    exact h3 j z hj

set_option maxRecDepth 100000 in
theorem specVal9 (n : Int) (w : World) (r : Bool) (hr : valB n = r) :
    Calls Try.prog 35 #[.int .i64 n] w fun e w' => e = .returned (.bool r) ∧ w = w' := by
  have HR := Lib.hid hr
  clear hr
  go_enter Try.func35, Try.ntmps35
  go_wp2_with fail
  refine (specIn9 n (-2147483647) 2147483647 _).mono ?_
  rintro e w1 ⟨rfl, rfl⟩
  go_wp2_with fail
  go_ret
  exact ⟨ret_bool9 HR.out, rfl⟩
end Go.Proofs.Ytekdlkakcclejaa
