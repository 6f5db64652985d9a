/-
  What the reference answers for two settings: whether they are the same.
-/
import Derived.Test.YtnnbhgnllbjmeaaDoorCfgR
namespace Go.Proofs.YtnnbhgnllbjmeaaDoor
open Go.RowKit

/-- Whether two lists of numbers are equal. -/
def sameI (a b : List Int) : Bool := decide (a = b)
theorem sameI_yes {a b : List Int} (h : a = b) : sameI a b = true := decide_eq_true h
theorem sameI_no {a b : List Int} (h : ¬ a = b) : sameI a b = false := decide_eq_false h
def numsC (C : Cfg) : List Int := [C.r, C.d, C.b, C.l, C.m]
/-- Whether two settings are the same. -/
def sameC (A B : Cfg) : Bool := sameI (numsC A) (numsC B) && (A.n == B.n) && (A.e == B.e) && sameI A.s B.s
theorem sameC_self (C : Cfg) : sameC C C = true := by simp [sameC, sameI]
theorem sameC_iff {A B : Cfg} : sameC A B = true ↔ A = B := by
  constructor
  · intro h
    simp only [sameC, sameI, numsC, Bool.and_eq_true, decide_eq_true_eq, beq_iff_eq, List.cons.injEq] at h
    cases A
    cases B
    simp_all
  · rintro rfl
    exact sameC_self A
theorem take_bothI {a b : List Int} {j : Nat} {x y : Int} (ha : a[j]? = some x) (hb : b[j]? = some y) (h : a.take j = b.take j) (e : x = y) : a.take (j + 1) = b.take (j + 1) := by
  rw [List.take_add_one, List.take_add_one, ha, hb, h, e]
theorem at_neI {a b : List Int} {j : Nat} {x y : Int} (ha : a[j]? = some x) (hb : b[j]? = some y) (e : ¬ x = y) : ¬ a = b := by
  intro h
  rw [h, hb] at ha
  exact e (Option.some.inj ha).symm

theorem specNumbersR (C : Cfg) (u : Value) (w : World) (a : Option Addr) (n c : Nat) (hu : u = .slice a n c) :
    Calls Tryd.prog 17 #[.agg #[.int .i64 C.r, .int .i64 C.d, .int .i64 C.b, .int .i64 C.l, .int .i64 C.m, .int .i64 C.n, .int .i64 C.e, u]] w fun e w' => (∃ v, e = .returned v ∧ IntRow w' v (numsC C)) ∧ Below w.heap.size w w' := by
  refine (specNumbers C u w a n c hu).mono fun e w' ⟨he, hw⟩ => ⟨⟨_, he, ?_⟩, by rw [← hw]; exact bt (below_al w _) (below_al _ _)⟩
  rw [← hw]
  refine Or.inr ⟨w.heap.size + 1, 0, 5, rfl, by simp [numsC], by simp [numsC], fun j z hj => ?_⟩
  have hb := alloc_blk (w.alloc (.cells #[.int .i64 C.r, .int .i64 C.d, .int .i64 C.b, .int .i64 C.l, .int .i64 C.m, .int .i64 C.n, .int .i64 C.e, u] 27)) #[.int .i64 C.r, .int .i64 C.d, .int .i64 C.b, .int .i64 C.l, .int .i64 C.m] 3
  rw [size_alloc] at hb
  have hjl := (List.getElem?_eq_some_iff.1 hj).1
  rw [Nat.zero_add, cell_blk hb]
  have h5 : j < 5 := hjl
  rcases (by omega : j = 0 ∨ j = 1 ∨ j = 2 ∨ j = 3 ∨ j = 4) with rfl | rfl | rfl | rfl | rfl <;> (simp [numsC] at hj; subst hj; rfl)

/-- What the comparison keeps: the two boxes. -/
abbrev SmS (W : World) (P Q : Nat) (A B : Cfg) (u v : Value) (w' : World) : Prop := w'.cell? ⟨P, 0, none⟩ = some (.int .i64 A.r) ∧ w'.cell? ⟨P, 1, none⟩ = some (.int .i64 A.d) ∧ w'.cell? ⟨P, 2, none⟩ = some (.int .i64 A.b) ∧ w'.cell? ⟨P, 3, none⟩ = some (.int .i64 A.l) ∧ w'.cell? ⟨P, 4, none⟩ = some (.int .i64 A.m) ∧ w'.cell? ⟨P, 5, none⟩ = some (.int .i64 A.n) ∧ w'.cell? ⟨P, 6, none⟩ = some (.int .i64 A.e) ∧ w'.cell? ⟨P, 7, none⟩ = some (u) ∧ w'.cell? ⟨Q, 0, none⟩ = some (.int .i64 B.r) ∧ w'.cell? ⟨Q, 1, none⟩ = some (.int .i64 B.d) ∧ w'.cell? ⟨Q, 2, none⟩ = some (.int .i64 B.b) ∧ w'.cell? ⟨Q, 3, none⟩ = some (.int .i64 B.l) ∧ w'.cell? ⟨Q, 4, none⟩ = some (.int .i64 B.m) ∧ w'.cell? ⟨Q, 5, none⟩ = some (.int .i64 B.n) ∧ w'.cell? ⟨Q, 6, none⟩ = some (.int .i64 B.e) ∧ w'.cell? ⟨Q, 7, none⟩ = some (v) ∧ Below W.heap.size W w'
theorem SmS.next {W w w' : World} {P Q : Nat} {A B : Cfg} {u v : Value} (h : SmS W P Q A B u v w) (hB : Below w.heap.size w w') : SmS W P Q A B u v w' := by
  have k : ∀ {a : Addr} {x : Value}, w.cell? a = some x → w'.cell? a = some x := fun h => (hB.cell (World.block_lt_of_cell? w _ h)).trans h
  obtain ⟨h0, h1, h2, h3, h4, h5, h6, h7, h8, h9, h10, h11, h12, h13, h14, h15, h16⟩ := h
  exact ⟨k h0, k h1, k h2, k h3, k h4, k h5, k h6, k h7, k h8, k h9, k h10, k h11, k h12, k h13, k h14, k h15, h16.trans (hB.mono h16.size)⟩
theorem SmS.drew {W w : World} {P Q : Nat} {A B : Cfg} {u v : Value} (h : SmS W P Q A B u v w) : SmS W P Q A B u v w.drew := by
  obtain ⟨h0, h1, h2, h3, h4, h5, h6, h7, h8, h9, h10, h11, h12, h13, h14, h15, h16⟩ := h
  exact ⟨h0, h1, h2, h3, h4, h5, h6, h7, h8, h9, h10, h11, h12, h13, h14, h15, h16.drew⟩
theorem SmS.made (w : World) (A B : Cfg) (u v : Value) : SmS w w.heap.size (w.heap.size + 1) A B u v ((w.alloc (.cells #[.int .i64 A.r, .int .i64 A.d, .int .i64 A.b, .int .i64 A.l, .int .i64 A.m, .int .i64 A.n, .int .i64 A.e, u] 27)).alloc (.cells #[.int .i64 B.r, .int .i64 B.d, .int .i64 B.b, .int .i64 B.l, .int .i64 B.m, .int .i64 B.n, .int .i64 B.e, v] 27)) := by
  have x0 := blk_alloc (alloc_blk w #[.int .i64 A.r, .int .i64 A.d, .int .i64 A.b, .int .i64 A.l, .int .i64 A.m, .int .i64 A.n, .int .i64 A.e, u] 27) (.cells #[.int .i64 B.r, .int .i64 B.d, .int .i64 B.b, .int .i64 B.l, .int .i64 B.m, .int .i64 B.n, .int .i64 B.e, v] 27)
  have x1 := alloc_blk (w.alloc (.cells #[.int .i64 A.r, .int .i64 A.d, .int .i64 A.b, .int .i64 A.l, .int .i64 A.m, .int .i64 A.n, .int .i64 A.e, u] 27)) #[.int .i64 B.r, .int .i64 B.d, .int .i64 B.b, .int .i64 B.l, .int .i64 B.m, .int .i64 B.n, .int .i64 B.e, v] 27
  rw [size_alloc] at x1
  exact ⟨cell_blk x0 0, cell_blk x0 1, cell_blk x0 2, cell_blk x0 3, cell_blk x0 4, cell_blk x0 5, cell_blk x0 6, cell_blk x0 7, cell_blk x1 0, cell_blk x1 1, cell_blk x1 2, cell_blk x1 3, cell_blk x1 4, cell_blk x1 5, cell_blk x1 6, cell_blk x1 7, bt (below_al w _) (below_al _ _)⟩

end Go.Proofs.YtnnbhgnllbjmeaaDoor
