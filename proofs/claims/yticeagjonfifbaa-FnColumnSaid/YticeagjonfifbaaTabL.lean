/-
  What the laws on tables share.
-/
import Derived.Test.YticeagjonfifbaaTabS
namespace Go.Proofs.Yticeagjonfifbaa
open Go.RowKit

theorem szTab_ok (T : Tab) (u1 u2 u3 : Value) (w : World) (h : TabRow w T u1 u2 u3) (hsz : ∀ p ∈ T.ns, p.length ≤ 9223372036854775807) (left : Nat) (hleft : left ≤ 1048576) (m : Nat) (hm : left = szTab T + m) :
    Calls Try.prog 16 #[.agg #[u1, .string ⟨T.y.toArray⟩, u2, u3], .int .i64 left] w fun e w' => e = .returned (.int .i64 (m : Int)) ∧ Below w.heap.size w w' := by
  unfold szTab at hm
  exact szTab_5 T u1 u2 u3 w h hsz left hleft (left - (T.ns.length + lensum T.ns)) (by omega) (left - (T.ns.length + lensum T.ns) - T.y.length) (by omega) (left - (T.ns.length + lensum T.ns) - T.y.length - (T.rs.length + szLI T.rs)) (by omega) m (by omega)
theorem szTab_no (T : Tab) (u1 u2 u3 : Value) (w : World) (h : TabRow w T u1 u2 u3) (hsz : ∀ p ∈ T.ns, p.length ≤ 9223372036854775807) (hyl : T.y.length ≤ 9223372036854775807) (left : Nat) (hleft : left ≤ 1048576) (hf : left < szTab T) :
    Calls Try.prog 16 #[.agg #[u1, .string ⟨T.y.toArray⟩, u2, u3], .int .i64 left] w fun e w' => e = .returned (.int .i64 (-1)) ∧ Below w.heap.size w w' := by
  unfold szTab at hf
  by_cases h1 : left < T.ns.length + lensum T.ns
  · exact szTab_1 T u1 u2 u3 w h hsz left hleft h1
  · obtain ⟨l1, e1⟩ : ∃ l1, left = T.ns.length + lensum T.ns + l1 := ⟨left - (T.ns.length + lensum T.ns), by omega⟩
    by_cases h2 : l1 < T.y.length
    · exact szTab_2 T u1 u2 u3 w h hsz left hleft l1 e1 h2 hyl
    · obtain ⟨l2, e2⟩ : ∃ l2, l1 = T.y.length + l2 := ⟨l1 - T.y.length, by omega⟩
      by_cases h3 : l2 < T.rs.length + szLI T.rs
      · exact szTab_3 T u1 u2 u3 w h hsz left hleft l1 e1 l2 e2 h3
      · obtain ⟨l3, e3⟩ : ∃ l3, l2 = T.rs.length + szLI T.rs + l3 := ⟨l2 - (T.rs.length + szLI T.rs), by omega⟩
        exact szTab_4 T u1 u2 u3 w h hsz left hleft l1 e1 l2 e2 l3 e3 (by omega)
/-- What a table that fits keeps to. -/
theorem szTab_le {T : Tab} (h : szTab T ≤ 1048576) : T.ns.length ≤ 1048576 ∧ T.rs.length ≤ 1048576 ∧ (∀ r ∈ T.rs, r.length ≤ 1048576) ∧ T.ys.length ≤ 1048576 ∧ T.ns.length + szLI T.rs + T.ys.length ≤ 1048576 := by
  unfold szTab at h
  exact ⟨by omega, by omega, fun r hr => by have := szLI_mem hr; omega, by omega, by omega⟩
/-- What the last comparison keeps: two boxes. -/
abbrev TwT (W : World) (P Q : Nat) (p1 p2 p3 p4 q1 q2 q3 q4 : Value) (w' : World) : Prop := w'.cell? ⟨P, 0, none⟩ = some p1 ∧ w'.cell? ⟨P, 1, none⟩ = some p2 ∧ w'.cell? ⟨P, 2, none⟩ = some p3 ∧ w'.cell? ⟨P, 3, none⟩ = some p4 ∧ w'.cell? ⟨Q, 0, none⟩ = some q1 ∧ w'.cell? ⟨Q, 1, none⟩ = some q2 ∧ w'.cell? ⟨Q, 2, none⟩ = some q3 ∧ w'.cell? ⟨Q, 3, none⟩ = some q4 ∧ Below W.heap.size W w'
theorem TwT.mk {W w : World} {P Q : Nat} {T1 T2 : TypeId} {p1 p2 p3 p4 q1 q2 q3 q4 : Value} (h1 : w.heap[P]? = some (.cells #[p1, p2, p3, p4] T1 (0, 0))) (h2 : w.heap[Q]? = some (.cells #[q1, q2, q3, q4] T2 (0, 0))) (hB : Below W.heap.size W w) : TwT W P Q p1 p2 p3 p4 q1 q2 q3 q4 w :=
  ⟨cell_blk h1 0, cell_blk h1 1, cell_blk h1 2, cell_blk h1 3, cell_blk h2 0, cell_blk h2 1, cell_blk h2 2, cell_blk h2 3, hB⟩
theorem TwT.next {W w w' : World} {P Q : Nat} {p1 p2 p3 p4 q1 q2 q3 q4 : Value} (h : TwT W P Q p1 p2 p3 p4 q1 q2 q3 q4 w) (hB : Below w.heap.size w w') : TwT W P Q p1 p2 p3 p4 q1 q2 q3 q4 w' := by
  obtain ⟨a1, a2, a3, a4, b1, b2, b3, b4, h9⟩ := h
  have k : ∀ {p : Addr} {v : Value}, w.cell? p = some v → w'.cell? p = some v := fun h => (hB.cell (World.block_lt_of_cell? w _ h)).trans h
  exact ⟨k a1, k a2, k a3, k a4, k b1, k b2, k b3, k b4, bt h9 hB⟩
theorem below_dr9 {w w' : World} (h : Below w.drew.heap.size w.drew w') : Below w.heap.size w w' := ⟨h.os, h.tape, h.output, h.size, h.block⟩
theorem TabRow.drew {w : World} {T : Tab} {u1 u2 u3 : Value} (h : TabRow w T u1 u2 u3) : TabRow w.drew T u1 u2 u3 := h
/-- The three forms. -/
theorem TabRow.form {w : World} {T : Tab} {u1 u2 u3 : Value} (h : TabRow w T u1 u2 u3) : ∃ a1 c1 a2 c2 a3 c3, u1 = .slice a1 T.ns.length c1 ∧ u2 = .slice a2 T.rs.length c2 ∧ u3 = .slice a3 T.ys.length c3 := by
  obtain ⟨h1, h2, h3⟩ := h
  obtain ⟨a1, c1, rfl, _⟩ := sRow_form h1
  obtain ⟨a2, c2, rfl, _⟩ := iiRow_form h2
  obtain ⟨a3, c3, rfl, _⟩ := intRow_form h3
  exact ⟨a1, c1, a2, c2, a3, c3, rfl, rfl, rfl⟩
end Go.Proofs.Yticeagjonfifbaa
