/-
  What is drawn for the laws on texts of settings.
  What the laws on settings share.
-/
import Derived.Test.YtnnbhgnllbjmeaaGreatDoorCfgB
import Derived.Test.YtnnbhgnllbjmeaaGreatDoorPk3
import Derived.Test.YtnnbhgnllbjmeaaGreatDoorCfgQ
namespace Go.Proofs.YtnnbhgnllbjmeaaGreatDoor
open Go.RowKit

theorem Bytes.next {W W' : World} {v : Value} {n : Nat} (h : Bytes W v n) (hB : Below W.heap.size W W') : Bytes W' v n := by
  rcases h with h | h | ⟨b, off, c, rfl, hn, hc⟩
  · exact Or.inl h
  · exact Or.inr (Or.inl h)
  · refine Or.inr (Or.inr ⟨b, off, c, rfl, hn, fun j hj => ?_⟩)
    obtain ⟨hb, z, h0, h1, hz⟩ := hc j hj
    exact ⟨Nat.lt_of_lt_of_le hb hB.size, z, h0, h1, (hB.cell (p := ⟨b, off + j, none⟩) hb).trans hz⟩
theorem below_set8 {B b k : Nat} {a w : World} {x : Value} (h : Below B a w) (hb : B ≤ b) : Below B a (w.setCell ⟨b, k, none⟩ x) := h.setCell (p := ⟨b, k, none⟩) hb x
/-- What is drawn: settings whose signs can be read. -/
def DtOut (e : Ending) (w' : World) : Prop := ∃ C u, e = .returned (cfgV C u) ∧ IntRow w' u C.s ∧ C.s.length ≤ 6
set_option maxRecDepth 100000 in
theorem drawConfigText (w : World) (v : Value) (n : Nat) (hb : Bytes w v n) :
    Calls Tryz.prog 6 #[v] w fun e w' => DtOut e w' ∧ Below w.heap.size w w' := by
  have XR := Lib.hid (alloc_blk w #[.int .i64 0, .int .i64 0, .int .i64 0, .int .i64 0, .int .i64 0, .int .i64 0, .int .i64 0, .slice none 0 0] 26)
  have HB := Lib.hid (hb.next (below_al w (.cells #[.int .i64 0, .int .i64 0, .int .i64 0, .int .i64 0, .int .i64 0, .int .i64 0, .int .i64 0, .slice none 0 0] 26)))
  have BA := Lib.hid (below_al w (.cells #[.int .i64 0, .int .i64 0, .int .i64 0, .int .i64 0, .int .i64 0, .int .i64 0, .int .i64 0, .slice none 0 0] 26))
  go_enter Tryz.func6, Tryz.ntmps6
  go_wp2_with fail
  generalize w.alloc (.cells #[.int .i64 0, .int .i64 0, .int .i64 0, .int .i64 0, .int .i64 0, .int .i64 0, .int .i64 0, .slice none 0 0] 26) = wa at XR HB BA ⊢
  refine (l1New wa v n HB.out).mono ?_
  rintro e w1 ⟨rfl, hc1, _⟩
  go_wp2_with fail
  refine (l8Bent wa w1 _ hc1).mono ?_
  rintro e w2 ⟨⟨C, u, rfl, ho, hl⟩, hc2, _⟩
  obtain ⟨a, c, rfl⟩ := ownsI_form ho
  have hB2 := cur_below hc2
  have XR2 := Lib.hid ((hB2.block _ (blk_lt XR.out)).trans XR.out)
  have HBB := Lib.hid (BA.out.trans (hB2.mono BA.out.size))
  have HO := Lib.hid ho
  clear hc1 hc2 hB2 ho XR HB BA
  simp only [cfgV]
  have r0 := cell_blk XR2.out 0
  have rf0 := free_blk XR2.out 0
  have r1 := cell_blk XR2.out 1
  have rf1 := free_blk XR2.out 1
  have r2 := cell_blk XR2.out 2
  have rf2 := free_blk XR2.out 2
  have r3 := cell_blk XR2.out 3
  have rf3 := free_blk XR2.out 3
  have r4 := cell_blk XR2.out 4
  have rf4 := free_blk XR2.out 4
  have r5 := cell_blk XR2.out 5
  have rf5 := free_blk XR2.out 5
  have r6 := cell_blk XR2.out 6
  have rf6 := free_blk XR2.out 6
  have r7 := cell_blk XR2.out 7
  have rf7 := free_blk XR2.out 7
  have rl := blk_lt XR2.out
  go_wp2_with fail
  refine bodyPost_ret (v := cfgV C (.slice a C.s.length c)) ?_ rfl ⟨⟨C, _, rfl, intRow_of_owns (base := w1.heap.size) (T := 3) ?_ (by omega), hl⟩, ?_⟩
  · rw [results_one rfl]
    simp only [cfgV]
    go_simp
  · iterate 8 refine ownsRow_setCell_other ?_ (owns_ne_blk HO.out XR2.out (by decide)) _
    exact HO.out
  · iterate 8 refine below_set8 ?_ (Nat.le_refl _)
    exact HBB.out
end Go.Proofs.YtnnbhgnllbjmeaaGreatDoor
namespace Go.Proofs.YtnnbhgnllbjmeaaGreatDoor
open Go.RowKit

/-- A box of settings. -/
abbrev BoxC (w : World) (B : Nat) (T : TypeId) (C : Cfg) (u : Value) : Prop := w.heap[B]? = some (.cells #[.int .i64 C.r, .int .i64 C.d, .int .i64 C.b, .int .i64 C.l, .int .i64 C.m, .int .i64 C.n, .int .i64 C.e, u] T (0, 0))
/-- What the last comparison keeps: two boxes. -/
abbrev TwS (W : World) (P Q : Nat) (A B : Cfg) (u v : Value) (w' : World) : Prop := w'.cell? ⟨P, 0, none⟩ = some (.int .i64 A.r) ∧ w'.cell? ⟨P, 1, none⟩ = some (.int .i64 A.d) ∧ w'.cell? ⟨P, 2, none⟩ = some (.int .i64 A.b) ∧ w'.cell? ⟨P, 3, none⟩ = some (.int .i64 A.l) ∧ w'.cell? ⟨P, 4, none⟩ = some (.int .i64 A.m) ∧ w'.cell? ⟨P, 5, none⟩ = some (.int .i64 A.n) ∧ w'.cell? ⟨P, 6, none⟩ = some (.int .i64 A.e) ∧ w'.cell? ⟨P, 7, none⟩ = some (u) ∧ w'.cell? ⟨Q, 0, none⟩ = some (.int .i64 B.r) ∧ w'.cell? ⟨Q, 1, none⟩ = some (.int .i64 B.d) ∧ w'.cell? ⟨Q, 2, none⟩ = some (.int .i64 B.b) ∧ w'.cell? ⟨Q, 3, none⟩ = some (.int .i64 B.l) ∧ w'.cell? ⟨Q, 4, none⟩ = some (.int .i64 B.m) ∧ w'.cell? ⟨Q, 5, none⟩ = some (.int .i64 B.n) ∧ w'.cell? ⟨Q, 6, none⟩ = some (.int .i64 B.e) ∧ w'.cell? ⟨Q, 7, none⟩ = some (v) ∧ Below W.heap.size W w'
theorem TwS.mk {W w : World} {P Q : Nat} {T1 T2 : TypeId} {A B : Cfg} {u v : Value} (h1 : BoxC w P T1 A u) (h2 : BoxC w Q T2 B v) (hB : Below W.heap.size W w) : TwS W P Q A B u v w :=
  ⟨cell_blk h1 0, cell_blk h1 1, cell_blk h1 2, cell_blk h1 3, cell_blk h1 4, cell_blk h1 5, cell_blk h1 6, cell_blk h1 7, cell_blk h2 0, cell_blk h2 1, cell_blk h2 2, cell_blk h2 3, cell_blk h2 4, cell_blk h2 5, cell_blk h2 6, cell_blk h2 7, hB⟩

theorem below_dr {w w' : World} (h : Below w.drew.heap.size w.drew w') : Below w.heap.size w w' := ⟨h.os, h.tape, h.output, h.size, h.block⟩
theorem IntRow.drew {w : World} {v : Value} {zs : List Int} (h : IntRow w v zs) : IntRow w.drew v zs := h

end Go.Proofs.YtnnbhgnllbjmeaaGreatDoor
