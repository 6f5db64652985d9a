/-
  A strings.Builder that a call makes, and what its writing leaves alone: every block that is neither the builder nor bytes.
-/
import Derived.Test.YtnnbhgnllbjmeaaDoorCfgT
import Derived.Test.YtnnbhgnllbjmeaaDoorCfgS
import Derived.Test.YtnnbhgnllbjmeaaDoorShB8
import Derived.Test.YtnnbhgnllbjmeaaDoorShBd
namespace Go.Proofs.YtnnbhgnllbjmeaaDoor
open Go.RowKit

/-- A builder at block b that holds the bytes l. -/
def Bld (w : World) (b : Nat) (l : List UInt8) : Prop := Lib.IsBuilder 51 5 b b (Lib.byteCells l) w
theorem Bld.below {w w' : World} {b : Nat} {l : List UInt8} (h : Bld w b l) (hB : Below w.heap.size w w') : Bld w' b l := by
  have key : ∀ p, Lib.BuilderAt 51 5 b b p (Lib.byteCells l) w → Lib.BuilderAt 51 5 b b p (Lib.byteCells l) w' := by
    rintro p ⟨h1, v, hb, ho, hne⟩
    exact ⟨h1, v, (hB.block _ (blk_lt hb)).trans hb, ownsI_below ho hB, hne⟩
  exact h.elim (fun x => .inl (key _ x)) (fun x => .inr (key _ x))
theorem Bld.lt {w : World} {b : Nat} {l : List UInt8} (h : Bld w b l) : b < w.heap.size := h.elim (fun x => x.lt) (fun x => x.lt)
theorem bld_new (w : World) : Bld (w.alloc (.cells #[.pointer none, .slice none 0 0] 51)) w.heap.size [] := Lib.fresh_isBuilder _ _ w
theorem bldDone {w : World} {b : Nat} {l : List UInt8} (h : Bld w b l) :
    Calls Tryd.prog 27 #[.pointer (some ⟨b, 0, none⟩)] w fun e w' => e = .returned (.string ⟨l.toArray⟩) ∧ Below b w w' :=
  Tryd.Builder_String_any b b l w h (Nat.le_of_lt h.lt)

/-- Whatever lies in a block that is neither b nor bytes lies there still. -/
def Others (b : Nat) (w w' : World) : Prop := ∀ k cs T, w.heap[k]? = some (.cells cs T (0, 0)) → T ≠ 5 → k ≠ b → w'.heap[k]? = some (.cells cs T (0, 0))
theorem Others.trans {b : Nat} {w w1 w2 : World} (h : Others b w w1) (k : Others b w1 w2) : Others b w w2 := fun i cs T hi hT hb => k i cs T (h i cs T hi hT hb) hT hb
theorem Others.refl (b : Nat) (w : World) : Others b w w := fun _ _ _ h _ _ => h
theorem others_setCell (b : Nat) (w : World) (j : Nat) (v : Value) : Others b w (w.setCell ⟨b, j, none⟩ v) := fun k cs T h _ hb => by
  rw [Below.heap_setCell w ⟨b, j, none⟩ v k hb]
  exact h
theorem others_grown {w w' : World} {b base n : Nat} {v : Value} {xs : List Value} (ho : w.ownsRow base 5 1 v n xs) (hg : w.grownBy w' v.ownBlock) : Others b w w' := fun k cs T h hT _ => by
  have hne := Lib.ownBlock_ne ho h hT
  rw [hg.block k (blk_lt h) (fun e => hne e.symm)]
  exact h
theorem Others.owns {b : Nat} {w w' : World} (h : Others b w w') {base n : Nat} {T TX : TypeId} {v : Value} {xs : List Value} {cx : Array Value} (ho : w.ownsRow base T 1 v n xs) (hT : T ≠ 5) (hx : w.heap[b]? = some (.cells cx TX (0, 0))) (hTX : TX ≠ T) : w'.ownsRow base T 1 v n xs := by
  refine ⟨ho.1, ?_⟩
  rcases ho.2 with h0 | ⟨g, cap, cur, hv, hb, hc, h1, h2, h3, h4⟩
  · exact Or.inl h0
  · refine Or.inr ⟨g, cap, cur, hv, hb, h g cur T hc hT ?_, h1, h2, h3, h4⟩
    rintro rfl
    rw [hx] at hc
    simp only [Option.some.injEq, Obj.cells.injEq] at hc
    exact hTX hc.2.1
theorem Bld.blk {w : World} {b : Nat} {l : List UInt8} (h : Bld w b l) : ∃ p v, w.heap[b]? = some (.cells #[p, v] 51 (0, 0)) := by
  rcases h with ⟨_, v, hb, _⟩ | ⟨_, v, hb, _⟩
  · exact ⟨_, v, hb⟩
  · exact ⟨_, v, hb⟩

set_option maxRecDepth 100000 in
theorem checkB (b : Nat) (bs : List Value) (w : World) (h : Lib.IsBuilder 51 5 b b bs w) :
    Calls Tryd.prog 47 #[.pointer (some ⟨b, 0, none⟩)] w fun e w' => e = .returned (.tuple #[]) ∧ Lib.BuilderAt 51 5 b b (.pointer (some ⟨b, 0, none⟩)) bs w' ∧ Below b w w' ∧ Others b w w' := by
  rcases h with h | h
  · refine (Any.Builder_copyCheck_fresh { Tryd.laysB166 with } Tryd.Builder_Extra_B.toX72 b w h.cell0 h.shape h.frozen0).mono ?_
    rintro e w' ⟨rfl, rfl⟩
    exact ⟨rfl, h.used _, (Below.refl b w).setCell (p := ⟨b, 0, none⟩) (Nat.le_refl _) _, others_setCell b w 0 _⟩
  · refine (Any.Builder_copyCheck_used { Tryd.laysB166 with } Tryd.Builder_Extra_B.toX72 b w h.cell0).mono ?_
    rintro e w' ⟨rfl, rfl⟩
    exact ⟨rfl, h, Below.refl b _, Others.refl b _⟩
theorem infoByte8 : (Tryd.prog.info? 5).map (fun i => (i.zero, i.size, i.bytes)) = some (some (.int .u8 0), 1, 1) := by kernel_rfl
set_option maxRecDepth 100000 in
set_option maxHeartbeats 1000000 in
theorem bldStr {w : World} {b : Nat} {l f : List UInt8} (h : Bld w b l) (hl : l.length + f.length ≤ 140737488355328) :
    Calls Tryd.prog 25 #[.pointer (some ⟨b, 0, none⟩), .string ⟨f.toArray⟩] w fun e w' => (∃ k : Int, e = .returned (.tuple #[.int .i64 k, .nilIface])) ∧ Bld w' b (l ++ f) ∧ Below b w w' ∧ Others b w w' := by
  obtain ⟨i0, hi, hz0, hz1, hz2⟩ := info_parts infoByte8
  have HC := Lib.hid (checkB b _ w h)
  have hfs : (⟨f.toArray⟩ : ByteArray).size = f.length := by simp [ByteArray.size]
  have hll : (Lib.byteCells l).length = l.length := Lib.byteCells_length l
  go_enter Tryd.func25, Tryd.ntmps25
  go_wp2_with fail
  refine HC.out.mono ?_
  rintro e w1 ⟨rfl, ⟨hB, v, hbk, hown, hne⟩, hb1, ho1⟩
  have c0 := cell_blk hbk 0
  have c1 := cell_blk hbk 1
  have hlt := blk_lt hbk
  go_wp2_with (at_builtin; refine Lib.wpList_append_own_string _ rfl _ _ 49 9 rfl b 5 i0 Tryd.underlying49 Tryd.underlying9 hi hz0 hz1 hz2 _ _ _ rfl hown ⟨f.toArray⟩ rfl ?c3 ?c4 ?c5 ?_)
  case c3 => unfold maxLen; omega
  case c4 => omega
  case c5 => omega
  intro v' w2 hown' hgrow _
  have hb2 : w2.heap[b]? = some (.cells #[.pointer (some ⟨b, 0, none⟩), v] 51 (0, 0)) := by
    rw [hgrow.block b hlt (fun e => hne e.symm)]
    exact hbk
  have d0 := cell_blk hb2 0
  have d1 := cell_blk hb2 1
  have f1 := free_blk hb2 1
  have hlt2 := blk_lt hb2
  obtain ⟨ao, n', cap, rfl⟩ : ∃ ao n' cap, v' = .slice ao n' cap := by
    rcases hown'.2 with ⟨hv, _⟩ | ⟨g, cap, cur, hv, _⟩
    · exact ⟨_, _, _, hv⟩
    · exact ⟨_, _, _, hv⟩
  have HA := Lib.hid (And.intro hown' (And.intro hb2 (And.intro (hb1.grown hgrow (Nat.le_of_lt hlt) (fun k hk => (hown.lt k hk).1)) (ho1.trans (others_grown (b := b) hown hgrow)))))
  clear hown' hb2 hgrow hbk hown hne hb1 ho1 c0 c1
  go_wp2_with fail
  go_ret2
  obtain ⟨hown', hb2, hB2, hO2⟩ := HA.out
  refine ⟨⟨_, rfl⟩, Or.inr ?_, hB2.setCell (p := ⟨b, 1, none⟩) (Nat.le_refl _) _, hO2.trans (others_setCell b _ 1 _)⟩
  rw [Lib.byteCells_append]
  have hq : (Lib.byteCells l ++ Lib.byteCells f).length = l.length + f.length := by rw [List.length_append, Lib.byteCells_length, Lib.byteCells_length]
  exact Lib.BuilderAt.put (T := 51) (e := 5) hB hb2 (bs' := Lib.byteCells l ++ Lib.byteCells f) (by rw [hq]; exact hown') (by decide)
end Go.Proofs.YtnnbhgnllbjmeaaDoor
