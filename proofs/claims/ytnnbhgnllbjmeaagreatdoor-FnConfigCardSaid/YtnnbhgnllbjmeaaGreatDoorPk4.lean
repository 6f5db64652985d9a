/-
  Settings as a value and as cells.
  A strings.Builder that a call makes, and what its writing leaves alone: every block that is neither the builder nor bytes.
  The keys of settings, the program's way: the map that is made anew at each use, and whether a word is one of the keys.
  Where settings keep a key's number, the program's way.
  What impl's parser of integers does: it hands the integer back, or it panics.
  The keys of settings, the program's way: collected in whatever order the map gives them, and sorted by their places.
  What impl.IntText answers, at every string: it recovers what the parser panics with.
  What impl.Number and spec.Number answer, at every string.
  The walks of the laws on Number and IntText.
  What reading a number ends in, in one word.
-/
import Derived.Test.YtnnbhgnllbjmeaaGreatDoorPk1
import Derived.Test.YtnnbhgnllbjmeaaGreatDoorCfgS
import Derived.Test.YtnnbhgnllbjmeaaGreatDoorShB8
import Derived.Test.YtnnbhgnllbjmeaaGreatDoorShBd
import Derived.Maps.RangeWalk
import Derived.Test.YtnnbhgnllbjmeaaGreatDoorIntW
import Derived.Test.YtnnbhgnllbjmeaaGreatDoorShAtoi
import Derived.Defers
import Derived.Test.YtnnbhgnllbjmeaaGreatDoorPk2
import Derived.Recover
import Derived.WalkLawsBesides
import Derived.Lib.AtoiAllCases
import Derived.Test.YtnnbhgnllbjmeaaGreatDoorShSrt
import Derived.Sort.OwnSorted
import Derived.Sort.LotA
namespace Go.Proofs.YtnnbhgnllbjmeaaGreatDoor
open Go.RowKit

/-- Settings as cells. -/
def cfgA (C : Cfg) (v : Value) : Array Value := #[.int .i64 C.r, .int .i64 C.d, .int .i64 C.b, .int .i64 C.l, .int .i64 C.m, .int .i64 C.n, .int .i64 C.e, v]
theorem owns_ne_blk {w : World} {base n cb : Nat} {T T' : TypeId} {v : Value} {xs : List Value} {cs : Array Value} (h : w.ownsRow base T 1 v n xs) (hb : w.heap[cb]? = some (.cells cs T' (0, 0))) (hT : T ≠ T') : v.ownBlock ≠ some cb := by
  intro hg
  rcases h.2 with ⟨rfl, _⟩ | ⟨g1, c1, cur1, rfl, _, hc1, _⟩
  · cases hg
  · simp only [Value.ownBlock, Option.some.injEq] at hg
    subst hg
    rw [hb] at hc1
    injection hc1 with hc1
    injection hc1 with _ hc1
    exact hT hc1.symm
/-- Settings as a value. -/
def cfgV (C : Cfg) (v : Value) : Value := .agg #[.int .i64 C.r, .int .i64 C.d, .int .i64 C.b, .int .i64 C.l, .int .i64 C.m, .int .i64 C.n, .int .i64 C.e, v]
theorem intCells_snoc (s : List Int) (z : Int) : intCells (s ++ [z]) = intCells s ++ [.int .i64 z] := by unfold intCells; simp
theorem int_row {w : World} {base : Nat} {v : Value} {s : List Int} {z : Int} (h : w.ownsRow base 3 1 v (s.length + 1) (intCells s ++ [.int .i64 z])) : w.ownsRow base 3 1 v (s ++ [z]).length (intCells (s ++ [z])) := by
  rw [intCells_snoc, List.length_append]
  exact h
end Go.Proofs.YtnnbhgnllbjmeaaGreatDoor
namespace Go.Proofs.YtnnbhgnllbjmeaaGreatDoor
open Go.RowKit

/-- A builder at block b that holds the bytes l. -/
def Bld (w : World) (b : Nat) (l : List UInt8) : Prop := Lib.IsBuilder 47 5 b b (Lib.byteCells l) w
theorem Bld.below {w w' : World} {b : Nat} {l : List UInt8} (h : Bld w b l) (hB : Below w.heap.size w w') : Bld w' b l := by
  have key : ∀ p, Lib.BuilderAt 47 5 b b p (Lib.byteCells l) w → Lib.BuilderAt 47 5 b b p (Lib.byteCells l) w' := by
    rintro p ⟨h1, v, hb, ho, hne⟩
    exact ⟨h1, v, (hB.block _ (blk_lt hb)).trans hb, ownsI_below ho hB, hne⟩
  exact h.elim (fun x => .inl (key _ x)) (fun x => .inr (key _ x))
theorem Bld.lt {w : World} {b : Nat} {l : List UInt8} (h : Bld w b l) : b < w.heap.size := h.elim (fun x => x.lt) (fun x => x.lt)
theorem bld_new (w : World) : Bld (w.alloc (.cells #[.pointer none, .slice none 0 0] 47)) w.heap.size [] := Lib.fresh_isBuilder _ _ w
theorem bldDone {w : World} {b : Nat} {l : List UInt8} (h : Bld w b l) :
    Calls Tryz.prog 25 #[.pointer (some ⟨b, 0, none⟩)] w fun e w' => e = .returned (.string ⟨l.toArray⟩) ∧ Below b w w' :=
  Tryz.Builder_String_any b b l w h (Nat.le_of_lt h.lt)

/-- Whatever lies in a block that is neither b nor bytes lies there still. -/
def Others (b : Nat) (w w' : World) : Prop := ∀ k cs T, w.heap[k]? = some (.cells cs T (0, 0)) → T ≠ 5 → k ≠ b → w'.heap[k]? = some (.cells cs T (0, 0))
theorem Others.trans {b : Nat} {w w1 w2 : World} (h : Others b w w1) (k : Others b w1 w2) : Others b w w2 := fun i cs T hi hT hb => k i cs T (h i cs T hi hT hb) hT hb
theorem Others.refl (b : Nat) (w : World) : Others b w w := fun _ _ _ h _ _ => h
theorem others_setCell (b : Nat) (w : World) (j : Nat) (v : Value) : Others b w (w.setCell ⟨b, j, none⟩ v) := fun k cs T h _ hb => by
  rw [Below.heap_setCell w ⟨b, j, none⟩ v k hb]
  exact h
theorem others_grown {w w' : World} {b base n : Nat} {v : Value} {xs : List Value} (ho : w.ownsRow base 5 1 v n xs) (hg : w.grownBy w' v.ownBlock) : Others b w w' := fun k cs T h hT _ => by
  have hne := Lib.ownBlock_ne ho h hT
  rw [hg.block k (blk_lt h) (fun e => hne e.symm)]
  exact h
theorem Others.owns {b : Nat} {w w' : World} (h : Others b w w') {base n : Nat} {T TX : TypeId} {v : Value} {xs : List Value} {cx : Array Value} (ho : w.ownsRow base T 1 v n xs) (hT : T ≠ 5) (hx : w.heap[b]? = some (.cells cx TX (0, 0))) (hTX : TX ≠ T) : w'.ownsRow base T 1 v n xs := by
  refine ⟨ho.1, ?_⟩
  rcases ho.2 with h0 | ⟨g, cap, cur, hv, hb, hc, h1, h2, h3, h4⟩
  · exact Or.inl h0
  · refine Or.inr ⟨g, cap, cur, hv, hb, h g cur T hc hT ?_, h1, h2, h3, h4⟩
    rintro rfl
    rw [hx] at hc
    simp only [Option.some.injEq, Obj.cells.injEq] at hc
    exact hTX hc.2.1
theorem Bld.blk {w : World} {b : Nat} {l : List UInt8} (h : Bld w b l) : ∃ p v, w.heap[b]? = some (.cells #[p, v] 47 (0, 0)) := by
  rcases h with ⟨_, v, hb, _⟩ | ⟨_, v, hb, _⟩
  · exact ⟨_, v, hb⟩
  · exact ⟨_, v, hb⟩

set_option maxRecDepth 100000 in
theorem checkB (b : Nat) (bs : List Value) (w : World) (h : Lib.IsBuilder 47 5 b b bs w) :
    Calls Tryz.prog 52 #[.pointer (some ⟨b, 0, none⟩)] w fun e w' => e = .returned (.tuple #[]) ∧ Lib.BuilderAt 47 5 b b (.pointer (some ⟨b, 0, none⟩)) bs w' ∧ Below b w w' ∧ Others b w w' := by
  rcases h with h | h
  · refine (Any.Builder_copyCheck_fresh { Tryz.laysB166 with } Tryz.Builder_Extra_B.toX72 b w h.cell0 h.shape h.frozen0).mono ?_
    rintro e w' ⟨rfl, rfl⟩
    exact ⟨rfl, h.used _, (Below.refl b w).setCell (p := ⟨b, 0, none⟩) (Nat.le_refl _) _, others_setCell b w 0 _⟩
  · refine (Any.Builder_copyCheck_used { Tryz.laysB166 with } Tryz.Builder_Extra_B.toX72 b w h.cell0).mono ?_
    rintro e w' ⟨rfl, rfl⟩
    exact ⟨rfl, h, Below.refl b _, Others.refl b _⟩
theorem infoByte8 : (Tryz.prog.info? 5).map (fun i => (i.zero, i.size, i.bytes)) = some (some (.int .u8 0), 1, 1) := by kernel_rfl
set_option maxRecDepth 100000 in
set_option maxHeartbeats 1000000 in
theorem bldStr {w : World} {b : Nat} {l f : List UInt8} (h : Bld w b l) (hl : l.length + f.length ≤ 140737488355328) :
    Calls Tryz.prog 23 #[.pointer (some ⟨b, 0, none⟩), .string ⟨f.toArray⟩] w fun e w' => (∃ k : Int, e = .returned (.tuple #[.int .i64 k, .nilIface])) ∧ Bld w' b (l ++ f) ∧ Below b w w' ∧ Others b w w' := by
  obtain ⟨i0, hi, hz0, hz1, hz2⟩ := info_parts infoByte8
  have HC := Lib.hid (checkB b _ w h)
  have hfs : (⟨f.toArray⟩ : ByteArray).size = f.length := by simp [ByteArray.size]
  have hll : (Lib.byteCells l).length = l.length := Lib.byteCells_length l
  go_enter Tryz.func23, Tryz.ntmps23
  go_wp2_with fail
  refine HC.out.mono ?_
  rintro e w1 ⟨rfl, ⟨hB, v, hbk, hown, hne⟩, hb1, ho1⟩
  have c0 := cell_blk hbk 0
  have c1 := cell_blk hbk 1
  have hlt := blk_lt hbk
  go_wp2_with (at_builtin; refine Lib.wpList_append_own_string _ rfl _ _ 22 9 rfl b 5 i0 Tryz.underlying22 Tryz.underlying9 hi hz0 hz1 hz2 _ _ _ rfl hown ⟨f.toArray⟩ rfl ?c3 ?c4 ?c5 ?_)
  case c3 => unfold maxLen; omega
  case c4 => omega
  case c5 => omega
  intro v' w2 hown' hgrow _
  have hb2 : w2.heap[b]? = some (.cells #[.pointer (some ⟨b, 0, none⟩), v] 47 (0, 0)) := by
    rw [hgrow.block b hlt (fun e => hne e.symm)]
    exact hbk
  have d0 := cell_blk hb2 0
  have d1 := cell_blk hb2 1
  have f1 := free_blk hb2 1
  have hlt2 := blk_lt hb2
  obtain ⟨ao, n', cap, rfl⟩ : ∃ ao n' cap, v' = .slice ao n' cap := by
    rcases hown'.2 with ⟨hv, _⟩ | ⟨g, cap, cur, hv, _⟩
    · exact ⟨_, _, _, hv⟩
    · exact ⟨_, _, _, hv⟩
  have HA := Lib.hid (And.intro hown' (And.intro hb2 (And.intro (hb1.grown hgrow (Nat.le_of_lt hlt) (fun k hk => (hown.lt k hk).1)) (ho1.trans (others_grown (b := b) hown hgrow)))))
  clear hown' hb2 hgrow hbk hown hne hb1 ho1 c0 c1
  go_wp2_with fail
  go_ret2
  obtain ⟨hown', hb2, hB2, hO2⟩ := HA.out
  refine ⟨⟨_, rfl⟩, Or.inr ?_, hB2.setCell (p := ⟨b, 1, none⟩) (Nat.le_refl _) _, hO2.trans (others_setCell b _ 1 _)⟩
  rw [Lib.byteCells_append]
  have hq : (Lib.byteCells l ++ Lib.byteCells f).length = l.length + f.length := by rw [List.length_append, Lib.byteCells_length, Lib.byteCells_length]
  exact Lib.BuilderAt.put (T := 47) (e := 5) hB hb2 (bs' := Lib.byteCells l ++ Lib.byteCells f) (by rw [hq]; exact hown') (by decide)
end Go.Proofs.YtnnbhgnllbjmeaaGreatDoor
namespace Go.Proofs.YtnnbhgnllbjmeaaGreatDoor
open Go.RowKit

theorem keyedS : Maps.Keyed Tryz.prog 9 := Maps.string_keyed Tryz.underlying9
theorem zeroI (w : World) : (zeroValue 3).run Tryz.prog w = .ok (.int .i64 0) w := by kernel_rfl
/-- Block b is a map of at most n keys that reads as D. -/
abbrev MapAt (w : World) (b n : Nat) (D : DataW Unit) : Prop := w.ownsMap Tryz.prog 9 (plainElem Tryz.prog 3) b n D
theorem keyLit {s : ByteArray} (h : s.size ≤ 9223372036854775807) : keyOf Tryz.prog 9 (.string s) = some (.string s.data.toList) :=
  Go.WideMaps.keyOf_string_mk Tryz.underlying9 (by unfold maxLen; exact h)
/-- The map while it is filled: the first block behind w. -/
def KpSt (w wr : World) (n : Nat) (D : DataW Unit) : Prop := MapAt wr w.heap.size n D ∧ Below w.heap.size w wr
theorem KpSt.start (w : World) : KpSt w (w.alloc (.map #[] 0)) 0 (.map []) := ⟨World.ownsMap_made _ _ _ _, below_al w _⟩
/-- One key is laid into a map that a literal fills. -/
theorem upKey (w0 w : World) (n k : Nat) (D : DataW Unit) (h : KpSt w0 w n D) (hn : n < 100) (hk : k < 7) :
    ∃ w', (Instr.mapUpdate 43 (.map (some w0.heap.size)) (.string ⟨(wordL k).toArray⟩) (.int .i64 (k : Nat))).run Tryz.prog w = .ok () w' ∧ KpSt w0 w' (n + 1) (keyPut D k) := by
  have hl := (wordL_ok k hk).2.2
  have hw : (Lit.int .i64 (k : Nat)).wf = true := WalkArith.wf_i64 (by omega)
  obtain ⟨w', hrun, r1, r2⟩ := h.1.update keyedS Tryz.underlying43 (by unfold maxLen; omega) (keyLit (s := ⟨(wordL k).toArray⟩) (by simp only [ByteArray.size, List.size_toArray]; omega)) (plainElem_int Tryz.underlying3 hw)
  exact ⟨w', hrun, r1, h.2.grown r2 h.2.size (fun j hj => by cases hj; exact Nat.le_refl _)⟩

set_option maxRecDepth 100000 in
set_option maxHeartbeats 1000000 in
theorem keyPlacesG (w : World) :
    Calls Tryz.prog 21 #[] w fun e w' => e = .returned (.map (some w.heap.size)) ∧ KpSt w w' 7 keyD := by
  have hmm := @run_makeMap Tryz.prog
  obtain ⟨w1, r1, h1⟩ := upKey w (w.alloc (.map #[] 0)) 0 0 _ (KpSt.start w) (by omega) (by omega)
  replace r1 : (Instr.mapUpdate 43 (.map (some w.heap.size)) (.string ⟨#[114, 111, 117, 110, 100, 115]⟩) (.int .i64 0)).run Tryz.prog (w.alloc (.map #[] 0)) = .ok () w1 := r1
  obtain ⟨w2, r2, h2⟩ := upKey w w1 1 1 _ h1 (by omega) (by omega)
  replace r2 : (Instr.mapUpdate 43 (.map (some w.heap.size)) (.string ⟨#[100, 101, 112, 116, 104]⟩) (.int .i64 1)).run Tryz.prog w1 = .ok () w2 := r2
  obtain ⟨w3, r3, h3⟩ := upKey w w2 2 2 _ h2 (by omega) (by omega)
  replace r3 : (Instr.mapUpdate 43 (.map (some w.heap.size)) (.string ⟨#[98, 105, 110, 115]⟩) (.int .i64 2)).run Tryz.prog w2 = .ok () w3 := r3
  obtain ⟨w4, r4, h4⟩ := upKey w w3 3 3 _ h3 (by omega) (by omega)
  replace r4 : (Instr.mapUpdate 43 (.map (some w.heap.size)) (.string ⟨#[108, 97, 109, 98, 100, 97]⟩) (.int .i64 3)).run Tryz.prog w3 = .ok () w4 := r4
  obtain ⟨w5, r5, h5⟩ := upKey w w4 4 4 _ h4 (by omega) (by omega)
  replace r5 : (Instr.mapUpdate 43 (.map (some w.heap.size)) (.string ⟨#[114, 111, 119, 115]⟩) (.int .i64 4)).run Tryz.prog w4 = .ok () w5 := r5
  obtain ⟨w6, r6, h6⟩ := upKey w w5 5 5 _ h5 (by omega) (by omega)
  replace r6 : (Instr.mapUpdate 43 (.map (some w.heap.size)) (.string ⟨#[114, 97, 116, 101]⟩) (.int .i64 5)).run Tryz.prog w5 = .ok () w6 := r6
  obtain ⟨w7, r7, h7⟩ := upKey w w6 6 6 _ h6 (by omega) (by omega)
  replace r7 : (Instr.mapUpdate 43 (.map (some w.heap.size)) (.string ⟨#[115, 105, 103, 110, 115]⟩) (.int .i64 6)).run Tryz.prog w6 = .ok () w7 := r7
  have H := Lib.hid h7
  clear h1 h2 h3 h4 h5 h6 h7
  go_enter Tryz.func21, Tryz.ntmps21
  go_wp2_with fail
  go_ret
  exact ⟨rfl, H.out⟩

set_option maxRecDepth 100000 in
set_option maxHeartbeats 1000000 in
theorem isKeyG (s : ByteArray) (hs : s.size ≤ 1048576) (w : World) :
    Calls Tryz.prog 59 #[.string s] w fun e w' => e = .returned (.bool (wordOf s.data.toList).isSome) ∧ Below w.heap.size w w' := by
  have hkey := keyLit (s := s) (by omega)
  have HH := Lib.hid (has_keyD s.data.toList)
  go_enter Tryz.func59, Tryz.ntmps59
  go_wp2_with fail
  refine (keyPlacesG w).mono ?_
  rintro e w1 ⟨rfl, h1⟩
  have hown := h1.1
  have HB := Lib.hid h1.2
  clear h1
  go_wp2_with (at_lookup; refine wpList_lookup_own_ok_int _ rfl _ _ 43 rfl 9 3 .i64 keyedS Tryz.underlying43 Tryz.underlying3 (zeroI _) w.heap.size 7 keyD rfl hown _ _ rfl hkey ?_; intro c hat hwc)
  go_ret
  exact ⟨congrArg (fun b => Ending.returned (.bool b)) HH.out, HB.out⟩
end Go.Proofs.YtnnbhgnllbjmeaaGreatDoor
namespace Go.Proofs.YtnnbhgnllbjmeaaGreatDoor
open Go.RowKit

set_option maxRecDepth 100000 in
theorem numberAt_0 (b : Nat) (w : World) :
    Calls Tryz.prog 55 #[.pointer (some ⟨b, 0, none⟩), .string ⟨#[114, 111, 117, 110, 100, 115]⟩] w fun e w' => e = .returned (.pointer (some ⟨b, 0, none⟩)) ∧ w = w' := by
  go_enter Tryz.func55, Tryz.ntmps55
  go_wp2_with fail
  go_ret
  exact ⟨rfl, rfl⟩
set_option maxRecDepth 100000 in
theorem numberAt_1 (b : Nat) (w : World) :
    Calls Tryz.prog 55 #[.pointer (some ⟨b, 0, none⟩), .string ⟨#[100, 101, 112, 116, 104]⟩] w fun e w' => e = .returned (.pointer (some ⟨b, 1, none⟩)) ∧ w = w' := by
  go_enter Tryz.func55, Tryz.ntmps55
  go_wp2_with fail
  go_ret
  exact ⟨rfl, rfl⟩
set_option maxRecDepth 100000 in
theorem numberAt_2 (b : Nat) (w : World) :
    Calls Tryz.prog 55 #[.pointer (some ⟨b, 0, none⟩), .string ⟨#[98, 105, 110, 115]⟩] w fun e w' => e = .returned (.pointer (some ⟨b, 2, none⟩)) ∧ w = w' := by
  go_enter Tryz.func55, Tryz.ntmps55
  go_wp2_with fail
  go_ret
  exact ⟨rfl, rfl⟩
set_option maxRecDepth 100000 in
theorem numberAt_3 (b : Nat) (w : World) :
    Calls Tryz.prog 55 #[.pointer (some ⟨b, 0, none⟩), .string ⟨#[108, 97, 109, 98, 100, 97]⟩] w fun e w' => e = .returned (.pointer (some ⟨b, 3, none⟩)) ∧ w = w' := by
  go_enter Tryz.func55, Tryz.ntmps55
  go_wp2_with fail
  go_ret
  exact ⟨rfl, rfl⟩
set_option maxRecDepth 100000 in
theorem numberAt_4 (b : Nat) (w : World) :
    Calls Tryz.prog 55 #[.pointer (some ⟨b, 0, none⟩), .string ⟨#[114, 111, 119, 115]⟩] w fun e w' => e = .returned (.pointer (some ⟨b, 4, none⟩)) ∧ w = w' := by
  go_enter Tryz.func55, Tryz.ntmps55
  go_wp2_with fail
  go_ret
  exact ⟨rfl, rfl⟩
theorem numberAtG (b k : Nat) (hk : k < 5) (w : World) :
    Calls Tryz.prog 55 #[.pointer (some ⟨b, 0, none⟩), .string ⟨(wordL k).toArray⟩] w fun e w' => e = .returned (.pointer (some ⟨b, k, none⟩)) ∧ w = w' := by
  rcases (by omega : k = 0 ∨ k = 1 ∨ k = 2 ∨ k = 3 ∨ k = 4) with rfl | rfl | rfl | rfl | rfl
  · exact numberAt_0 b w
  · exact numberAt_1 b w
  · exact numberAt_2 b w
  · exact numberAt_3 b w
  · exact numberAt_4 b w
end Go.Proofs.YtnnbhgnllbjmeaaGreatDoor
namespace Go.Proofs.YtnnbhgnllbjmeaaGreatDoor
open Go.RowKit

theorem bytesWorld_or {w w' : World} {t : TypeId} (h : w' = w ∨ ∃ n, w' = Lib.bytesWorld w t n) : Below w.heap.size w w' := by
  rcases h with rfl | ⟨n, rfl⟩
  · exact Below.refl _ _
  · exact Lib.bytesWorld_below _ _ _

set_option maxRecDepth 100000 in
set_option maxHeartbeats 1000000 in
theorem mustInt_yes (s : ByteArray) (n : Int) (hn : IsNum s.data.toList n) (w : World) (htab : Lib.TabIs Tryz.prog w "internal/strconv.uint64pow10" .u64 Lib.pow10Tab) (hg : 1 < w.heap.size) :
    Calls Tryz.prog 97 #[.string s] w fun e w' => e = .returned (.int .i64 n) ∧ Below w.heap.size w w' := by
  have hl := (isNum_parts hn).2.2.2.2.2
  have hb0 := hn.1
  have hb1 := hn.2.1
  have hsz : s.size ≤ 20 := by simpa using hl
  have hat := atoi_isNum hn
  have hne := strEq hn.2.2
  have HAT := Lib.hid hat
  clear hat hl hn
  go_enter Tryz.func97, Tryz.ntmps97
  go_wp2_with fail
  refine (Tryz.strconv_Atoi_ok s (by omega) n HAT.out _).mono ?_
  rintro e w1 ⟨rfl, hw1⟩
  have hB := bytesWorld_or hw1
  clear hw1
  go_wp2_with fail
  refine (implDigits n hb0 hb1 _ (tabIs_below htab hB gPow hg)).mono ?_
  rintro e w2 ⟨rfl, hB2⟩
  go_wp2_with fail
  go_ret
  exact ⟨rfl, hB.trans (hB2.mono hB.size)⟩

/-- strconv.Atoi at a string that it refuses. -/
theorem atoi_err (s : ByteArray) (hlim : s.size ≤ 281474976710656) (h : ∀ v, Lib.atoiAll s.data.toList ≠ .ok v) (tp tq : TypeId) (p q : Value) (w : World)
    (hv1 : w.var? Tryz.prog "strconv.ErrSyntax" = some #[.iface tp p]) (hv2 : w.var? Tryz.prog "strconv.ErrRange" = some #[.iface tq q]) :
    Calls Tryz.prog 112 #[.string s] w fun e w' => ∃ (n : Int) (N : Nat), e = .returned (.tuple #[.int .i64 n, .iface 153 (.pointer (some ⟨N, 0, none⟩))]) ∧ Below w.heap.size w w' := by
  cases hx : Lib.atoiAll s.data.toList with
  | ok v => exact absurd hx (h v)
  | range => exact (Tryz.strconv_Atoi_range_var s hlim hx tq q w hv2).mono fun e w' ⟨N, he, _, _, hb⟩ => ⟨_, N, he, hb⟩
  | _ => exact (Any.strconv_Atoi_syntax_var Tryz.laysC172 s hlim hx tp p w hv1).mono fun e w' ⟨N, he, _, _, hb⟩ => ⟨_, N, he, hb⟩

def notDigits : PanicEntry := { v := .iface 9 (.string ⟨#[110, 111, 116, 32, 116, 104, 101, 32, 100, 105, 103, 105, 116, 115, 32, 111, 102, 32, 97, 110, 32, 105, 110, 116, 101, 103, 101, 114]⟩), recovered := false }

set_option maxRecDepth 100000 in
set_option maxHeartbeats 1000000 in
theorem mustInt_no_err (s : ByteArray) (hsz : s.size ≤ 1048576) (h : ∀ v, Lib.atoiAll s.data.toList ≠ .ok v) (tp tq : TypeId) (p q : Value) (w : World)
    (hv1 : w.var? Tryz.prog "strconv.ErrSyntax" = some #[.iface tp p]) (hv2 : w.var? Tryz.prog "strconv.ErrRange" = some #[.iface tq q]) :
    Calls Tryz.prog 97 #[.string s] w fun e w' => e = .panicked [notDigits] ∧ Below w.heap.size w w' := by
  have H := Lib.hid h
  have V1 := Lib.hid hv1
  have V2 := Lib.hid hv2
  clear h hv1 hv2
  go_enter Tryz.func97, Tryz.ntmps97
  go_wp2_with fail
  refine (atoi_err s (by omega) H.out tp tq p q _ V1.out V2.out).mono ?_
  rintro e w1 ⟨n, N, rfl, hB⟩
  go_wp2_with fail
  exact ⟨rfl, rfl, hB⟩

set_option maxRecDepth 100000 in
set_option maxHeartbeats 1000000 in
theorem mustInt_no_text (s : ByteArray) (hsz : s.size ≤ 1048576) (n : Int) (h : Lib.atoiAll s.data.toList = .ok n) (hne : Lib.itoa n ≠ s.data.toList) (hb0 : -9223372036854775808 ≤ n) (hb1 : n ≤ 9223372036854775807) (w : World)
    (htab : Lib.TabIs Tryz.prog w "internal/strconv.uint64pow10" .u64 Lib.pow10Tab) (hg : 1 < w.heap.size) :
    Calls Tryz.prog 97 #[.string s] w fun e w' => e = .panicked [notDigits] ∧ Below w.heap.size w w' := by
  have H := Lib.hid h
  have hn := strNe hne
  clear h hne
  go_enter Tryz.func97, Tryz.ntmps97
  go_wp2_with fail
  refine (Tryz.strconv_Atoi_ok s (by omega) n H.out _).mono ?_
  rintro e w1 ⟨rfl, hw1⟩
  have hB := bytesWorld_or hw1
  clear hw1
  go_wp2_with fail
  refine (implDigits n hb0 hb1 _ (tabIs_below htab hB gPow hg)).mono ?_
  rintro e w2 ⟨rfl, hB2⟩
  go_wp2_with fail
  exact ⟨rfl, rfl, hB.trans (hB2.mono hB.size)⟩

theorem mustInt_no (s : ByteArray) (hsz : s.size ≤ 1048576) (h : ∀ n, ¬ IsNum s.data.toList n) (tp tq : TypeId) (p q : Value) (w : World)
    (htab : Lib.TabIs Tryz.prog w "internal/strconv.uint64pow10" .u64 Lib.pow10Tab) (hg : 1 < w.heap.size)
    (hv1 : w.var? Tryz.prog "strconv.ErrSyntax" = some #[.iface tp p]) (hv2 : w.var? Tryz.prog "strconv.ErrRange" = some #[.iface tq q]) :
    Calls Tryz.prog 97 #[.string s] w fun e w' => e = .panicked [notDigits] ∧ Below w.heap.size w w' := by
  by_cases hx : ∀ v, Lib.atoiAll s.data.toList ≠ .ok v
  · exact mustInt_no_err s hsz hx tp tq p q w hv1 hv2
  · obtain ⟨n, hn⟩ : ∃ n, Lib.atoiAll s.data.toList = .ok n := by
      cases hy : Lib.atoiAll s.data.toList with
      | ok v => exact ⟨v, rfl⟩
      | _ => exact absurd (fun v hv => by rw [hy] at hv; cases hv) hx
    have hb := Lib.atoiAll_bounds hn
    exact mustInt_no_text s hsz n hn (fun he => h n ⟨hb.1, hb.2, he⟩) hb.1 hb.2 w htab hg
end Go.Proofs.YtnnbhgnllbjmeaaGreatDoor
namespace Go.Proofs.YtnnbhgnllbjmeaaGreatDoor
open Go.RowKit Go.Sort Go.Lib

/-- A key's value, and how two keys compare. -/
def keyV (m : Nat) (i : Fin m) : Value := encStr (wordL i.val)
def keyC (m : Nat) (x y : Fin m) : Int := Lib.compareInt (x.val : Int) (y.val : Int)
theorem ltK (m : Nat) (x y : Fin m) : ltOf (keyC m) x y = decide (x.val < y.val) := by
  unfold ltOf keyC Lib.compareInt
  by_cases h1 : (x.val : Int) < y.val
  · have : x.val < y.val := by omega
    simp [h1, this]
  · have h3 : ¬ x.val < y.val := by omega
    by_cases h2 : (y.val : Int) < x.val <;> simp [h1, h2, h3]
theorem swoK (m : Nat) : SWO (ltOf (keyC m)) where
  irrefl x := by rw [ltK]; simp
  trans x y z h1 h2 := by rw [ltK] at *; simp at *; omega
  ntrans x y z h1 h2 := by rw [ltK] at *; simp at *; omega
theorem totK (m : Nat) (x y : Fin m) (h1 : ltOf (keyC m) x y = false) (h2 : ltOf (keyC m) y x = false) : x = y := by
  rw [ltK] at *
  simp at h1 h2
  exact Fin.ext (by omega)
theorem leK (m : Nat) : (fun x y : Fin m => !ltOf (keyC m) y x) = leF m := by
  funext x y
  rw [ltK, leF]
  by_cases h : x.val ≤ y.val
  · have h' : ¬ y.val < x.val := by omega
    simp [h, h']
  · have h' : y.val < x.val := by omega
    simp [h, h']
theorem grownBy_row {α : Type} [Inhabited α] (enc : α → Value) {w : World} {g n : Nat} {os : Array Obj} (d : Array α) : w.grownBy (sortWorld enc w g 0 n d os) (some g) := by
  refine ⟨rfl, rfl, rfl, by simp [sortWorld], fun k hk hne => ?_⟩
  unfold sortWorld
  rw [heap_grow_old _ _ (by simpa using hk)]
  have : g ≠ k := fun e => hne (by rw [e])
  simp [putRow, mapBlock, Sort.ahead, Array.getElem?_modify, this]
theorem putRow_keys {m : Nat} [Inhabited (Fin m)] (w : World) (g : Nat) (d : Array (Fin m)) : putRow (keyV m) w g 0 d = putRow encStr w g 0 (d.map fun i => wordL i.val) := by
  unfold putRow
  congr 1
  funext c
  unfold putCells
  simp only [Array.size_map]
  congr 1
  funext k x
  split
  · rename_i h
    have hk : k - 0 < d.size := by omega
    rw [getElem!_pos d (k - 0) hk, getElem!_pos (d.map fun i => wordL i.val) (k - 0) (by simpa using hk)]
    simp [keyV]
  · rfl

/-- What a map of keys answers at one of them. -/
theorem lookKey {m : Nat} (hm : m = 6 ∨ m = 7) {W : World} {B n : Nat} (h : MapAt W B n (keyDm m)) (i : Fin m) :
    (Instr.lookup 43 (.map (some B)) (keyV m i) false).run Tryz.prog W = .ok (.int .i64 (i.val : Nat)) W := by
  have hl := (wordL_ok i.val (by have := i.2; omega)).2.2
  obtain ⟨c, hrun, hat, _⟩ := h.lookup_int keyedS Tryz.underlying43 Tryz.underlying3 (zeroI W) (keyLit (s := ⟨(wordL i.val).toArray⟩) (by simp only [ByteArray.size, List.size_toArray]; omega))
  have e : (Lit.string (ByteArray.mk (wordL i.val).toArray).data.toList) = .string (wordL i.val) := rfl
  rw [e, at_keyDm hm i] at hat
  have : c = (i.val : Nat) := by
    simp only [DataW.lit.injEq, Lit.int.injEq, true_and] at hat
    exact hat.symm
  subst this
  exact hrun
set_option maxRecDepth 100000 in
set_option maxHeartbeats 1000000 in
theorem byPlaceG {m : Nat} (hm : m = 6 ∨ m = 7) (x y : Fin m) (B n bx : Nat) (W : World) (h : MapAt W B n (keyDm m)) (hb : W.cell? ⟨bx, 0, none⟩ = some (.map (some B))) :
    Calls Tryz.prog 50 #[keyV m x, keyV m y, .pointer (some ⟨bx, 0, none⟩)] W fun e w' => e = .returned (.int .i64 (keyC m x y)) ∧ ∃ q, w' = W.drewN q := by
  have hx := lookKey hm h x
  have hy := lookKey hm h y
  have HC := Lib.hid (Tryz.cmp_Compare_int (x.val : Nat) (y.val : Nat) W)
  unfold keyC
  generalize Lib.compareInt ((x.val : Nat) : Int) ((y.val : Nat) : Int) = r at HC ⊢
  generalize keyV m x = vx at hx ⊢
  generalize keyV m y = vy at hy ⊢
  clear h
  go_enter Tryz.func50, Tryz.ntmps50
  go_wp2_with fail
  refine HC.out.mono ?_
  rintro e w1 ⟨rfl, rfl⟩
  go_wp2_with fail
  go_ret
  exact ⟨rfl, 0, rfl⟩
theorem cmpKeys {m : Nat} [Inhabited (Fin m)] (hm : m = 6 ∨ m = 7) (B n bx g size : Nat) (w : World) (h : MapAt w B n (keyDm m)) (hb : w.heap[bx]? = some (.cells #[.map (some B)] 43 (0, 0))) (h1 : B ≠ g) (h2 : bx ≠ g) :
    CmpReads Tryz.prog 50 #[.pointer (some ⟨bx, 0, none⟩)] (keyV m) (keyC m) g 0 size w := by
  intro q os dk _ x y
  have hg := grownBy_row (keyV m) (w := w) (g := g) (n := q) (os := os) dk
  have hbl : bx < w.heap.size := blk_lt hb
  have hb' := (hg.block bx hbl (by simpa using h2)).trans hb
  exact byPlaceG hm x y B n bx _ (h.kept hg (by simpa using h1)) (cell_blk hb' 0)
theorem sortedRow {m : Nat} [Inhabited (Fin m)] (d : List (Fin m)) (h : d.mergeSort (leF m) = List.finRange m) :
    Sort.insertionSort (ltOf (keyC m)) d.toArray 0 d.toArray.size = (List.finRange m).toArray := by
  have k := insertionSort_holds (lt := ltOf (keyC m)) (swoK m) d.toArray 0 d.toArray.size (Nat.zero_le _) (Nat.le_refl _)
  have e := sorted_unique_holds (swoK m) (totK m) d.toArray _ k.1 k.2
  rw [leK] at e
  have e2 : (Sort.insertionSort (ltOf (keyC m)) d.toArray 0 d.toArray.size).toList = List.finRange m := by rw [e, ← h]
  rw [← e2]

theorem own_not_nil {w : World} {base s n : Nat} {T : TypeId} {v : Value} {xs : List Value} (h : w.ownsRow base T s v n xs) (hn : 0 < n) : v ≠ .slice none 0 0 := by
  rcases h.2 with ⟨_, h0⟩ | ⟨g, cap, cur, rfl, _⟩
  · omega
  · intro e
    injection e with e
    cases e
theorem own_sortedKeys {m : Nat} [Inhabited (Fin m)] {w : World} {base g cap k : Nat} {cur : Array Value} (hk : k = m) (hbase : base ≤ g) (hb : w.heap[g]? = some (.cells cur 9 (0, 0))) (h1 : k ≤ cap) (h2 : cap ≤ maxLen) (h3 : cur.size = cap * 1) (nn : Nat) :
    ((putRow (keyV m) w g 0 (List.finRange m).toArray).drewN nn).ownsRow base 9 1 (.slice (some ⟨g, 0, none⟩) k cap) m (((List.finRange m).map fun i => wordL i.val).map encStr) := by
  have e : (putRow (keyV m) w g 0 (List.finRange m).toArray).drewN nn = grow (putRow encStr (Sort.ahead w nn) g 0 ((List.finRange m).map fun i => wordL i.val).toArray) #[] := by
    rw [putRow_keys, ← sortWorld_none]
    unfold sortWorld
    simp
  have hl : ((List.finRange m).map fun i => wordL i.val).length = m := by simp
  have h := ownsRow_sorted (n := nn) (os := #[]) (ss := (List.finRange m).map fun i => wordL i.val) (ts := (List.finRange m).map fun i => wordL i.val) rfl hbase hb (by rw [hl]; omega) h2 h3
  rw [hl] at h
  rw [e, hk]
  exact h

set_option maxRecDepth 100000 in
set_option maxHeartbeats 2000000 in
theorem keysG {m : Nat} [Inhabited (Fin m)] (hm : m = 6 ∨ m = 7) (B n : Nat) (w : World) (hown : MapAt w B n (keyDm m)) :
    Calls Tryz.prog 22 #[.map (some B)] w fun e w' => ∃ v, e = .returned v ∧ w'.ownsRow w.heap.size 9 1 v m (((List.finRange m).map fun i => wordL i.val).map encStr) ∧ Below w.heap.size w w' := by
  obtain ⟨iS, hi, hz0, hz1, hz2⟩ := info_parts infoStr
  have hbl := hown.lt
  obtain ⟨D, hD⟩ : ∃ D, keyDm m = D := ⟨_, rfl⟩
  have HM := Lib.hid hm
  have h7 : m ≤ 7 := by omega
  have hsz : Hid (Maps.size D = m) := Lib.hid (by rw [← hD]; exact size_keyDm hm)
  rw [hD] at hown
  have HD := Lib.hid hD
  clear hD hm
  have hBox : (((w.alloc (.cells #[.map (some B)] 43)).alloc (.cells #[] 9))).heap[w.heap.size]? = some (.cells #[.map (some B)] 43 (0, 0)) := blk_alloc (alloc_blk w _ _) _
  have hRow : ((w.alloc (.cells #[.map (some B)] 43)).alloc (.cells #[] 9)).ownsRow (w.heap.size + 1) 9 1 (.slice (some ⟨w.heap.size + 1, 0, none⟩) 0 0) 0 [] := by
    have h := World.ownsRow_made (base := w.heap.size + 1) (e := 9) (size := 1) (w.alloc (.cells #[.map (some B)] 43)) #[] 0 (by simp) (by unfold maxLen; omega) (by simp)
    simpa using h
  have hB2 : Below w.heap.size w ((w.alloc (.cells #[.map (some B)] 43)).alloc (.cells #[] 9)) := bt (below_al w _) (below_al _ _)
  have hOwn := (hown.alloc (.cells #[.map (some B)] 43)).alloc (.cells #[] 9)
  have HX := Lib.hid (And.intro hBox (And.intro hRow hB2))
  clear hBox hRow hB2
  go_enter Tryz.func22, Tryz.ntmps22
  go_wp2_with (at_range; refine wpList_range_own _ rfl _ 43 rfl 9 3 keyedS Tryz.underlying43 _ B n _ rfl hOwn ?_; intro w0 hrg0 hg0 hs0)
  go_frame
  simp only [size_alloc] at hrg0 ⊢
  go_loopw [3] (fun v wr => ∃ (left : Lit → Bool) (cnt : Nat) (ss : List (List UInt8)), wr.ranges Tryz.prog 9 (plainElem Tryz.prog 3) B (w.heap.size + 1 + 1) n D left cnt ∧ ss.length + cnt ≤ m ∧
      wr.ownsRow (w.heap.size + 1) 9 1 v ss.length (ss.map encStr) ∧ v ≠ .slice none 0 0 ∧ Collected D left ss ∧ wr.heap[w.heap.size]? = some (.cells #[.map (some B)] 43 (0, 0)) ∧ Below w.heap.size w wr)
    (fun _ wr => wr.rangeLeft B (w.heap.size + 1 + 1))
  case atStart =>
    obtain ⟨hBox, hRow, hB2⟩ := HX.out
    exact ⟨_, _, [], hrg0, by simp [hsz.out], hRow.kept hg0 (Or.inr (by simp [Value.ownBlock])), by simp, Collected.start _, (hg0.block _ (by simp; omega) (by simp)).trans hBox, hB2.grown hg0 (by simp; omega) (fun j hj => by cases hj)⟩
  case round =>
    clear HX hOwn hrg0 hg0 hs0
    obtain ⟨left, cnt, ss, hrg, hcs, hrow, hnn, hC, hbox, hnx⟩ := hrel
    go_wp2_with (at_next; refine wpList_next_ranges _ rfl _ rfl 9 keyedS (plainElem Tryz.prog 3) encStr (Value.int .i64) (fun key kl hk => by obtain ⟨x, hx, _⟩ := Maps.keyOf_str Tryz.underlying9 hk; exact ⟨x, hx⟩) (fun v y hv => by obtain ⟨c, rfl, _⟩ := plainElem_int_inv Tryz.underlying3 hv; exact ⟨c, rfl⟩) B (w.heap.size + 1 + 1) n _ _ _ rfl hrg ?_ ?_)
    · intro _ hl0
      have hD := HD.out
      subst hD
      have hm := HM.out
      obtain ⟨d, hd, hsrt⟩ := sorted_keys hm hC hl0
      have hdl : d.length = m := by
        have h := congrArg List.length hsrt
        simpa using h
      have hssl : ss.length = m := by rw [← hd]; simpa using hdl
      rcases hrow.2 with ⟨hnil, _⟩ | ⟨g, cap, cur, rfl, hbase, hb, k1, k2, k3, k4⟩
      · exact absurd hnil hnn
      have hH : Holds (keyV m) wr g 0 d.toArray := by
        have h0 : Holds encStr wr g 0 ss.toArray := holds_of_block hb (by simpa using k4)
        intro j hj
        have hj' : j < d.length := by simpa using hj
        obtain ⟨h1, h2⟩ := h0 j (by rw [← hd]; simpa using hj')
        refine ⟨?_, h2⟩
        rw [h1, ← hd]
        simp [keyV, hj']
      have eg : ∀ args w, (callFunc 50 args).run Tryz.prog w = .ok (.enter 50 args) w := enters_of Tryz.func50 (by kernel_rfl) rfl
      have hS := Tryz.slices_SortFunc_small (keyV m) (fun _ => rfl) (keyC m) 50 #[.pointer (some ⟨w.heap.size, 0, none⟩)] g 0 cap d.toArray wr eg (cmpKeys hm B n w.heap.size g _ wr hrg.owns hbox (by omega) (by omega)) hH (by simp; omega) (fun n W hn => (Tryz.bits_Len n W (by omega) (by omega)).mono fun _ _ ⟨he, hw⟩ => ⟨⟨_, he⟩, hw⟩)
      rw [sortedRow d hsrt, show d.toArray.size = ss.length by simp; omega] at hS
      have HS := Lib.hid hS
      have HF := Lib.hid (own_sortedKeys (m := m) (base := w.heap.size) hssl (by omega) hb k1 k2 k3)
      have HN := Lib.hid hnx
      have HG := Lib.hid (show w.heap.size ≤ g by omega)
      clear hS hH hb hrow hrg hC hnx hbox hd hsrt k1 k2 k3 k4 hl0 hcs hnn eg hm hdl hssl hsz hown hi hz0 hz1 hz2 hbl h7 hbase HM HD
      go_wp2_with fail
      refine HS.out.mono ?_
      rintro e w' ⟨rfl, nn, rfl⟩
      go_wp2_with fail
      go_ret
      refine ⟨_, rfl, HF.out nn, ?_⟩
      rw [← sortWorld_none]
      exact HN.out.grown (grownBy_row (keyV m) _) HN.out.size (fun j hj => by cases hj; exact HG.out)
    · intro x c kl yd yp w2 cnt2 hkey hlk hv hat hrg2 hlt hg2 hs2 hen
      obtain ⟨x', ex, rfl, _⟩ := Maps.keyOf_str Tryz.underlying9 hkey
      obtain rfl : x = x' := encStr_inj ex
      have hrow2 := hrow.kept hg2 (Or.inr (row_ne_iter hrow hrg).symm)
      have hbl1 : B < w.heap.size + 1 := by omega
      have hbx2 := blk_alloc ((hg2.block w.heap.size (blk_lt hbox) (by simp; omega)).trans hbox) (.cells #[.string ⟨x.toArray⟩] 9)
      have hnx2 := (hnx.grown hg2 hnx.size (fun j hj => by cases hj; omega)).alloc (Nat.le_trans hnx.size hg2.size) (.cells #[.string ⟨x.toArray⟩] 9)
      have hsz2 := Nat.le_trans hnx.size hg2.size
      have hsz1 : w.heap.size + 1 ≤ w2.heap.size := by have := blk_lt ((hg2.block w.heap.size (blk_lt hbox) (by simp; omega)).trans hbox); omega
      have HP := Lib.hid (And.intro (Collected.step hC hlk hat) (And.intro hbx2 hnx2))
      clear hs2 hC hbx2 hnx2 hlk hat hkey hv ex
      go_wp2_with (at_builtin; refine wpList_append_own _ rfl _ _ 36 rfl (w.heap.size + 1) 9 iS (.string ByteArray.empty) 1 16 Tryz.underlying36 hi hz0 hz1 hz2 rfl (by decide) _ _ _ rfl (hrow2.alloc (.cells #[.string ⟨x.toArray⟩] 9)) ⟨w2.heap.size, 0, none⟩ 1 1 [.string ⟨x.toArray⟩] rfl rfl news_one (by intro y hy; simp at hy; subst hy; rfl) ?a3 ?a4 ?a5 ?_)
      case a3 => unfold maxLen; omega
      case a4 => omega
      case a5 => simp; omega
      intro v' w3 hown' hg3 _
      have hrg3 := (hrg2.alloc (.cells #[.string ⟨x.toArray⟩] 9)).kept hg3 (row_ne_low hrow2 hbl1) (row_ne_iter hrow2 hrg2)
      have HR := Lib.hid (And.intro hrg3 (And.intro hown' hg3))
      have HO := Lib.hid (And.intro hrow2 hrg)
      clear hown' hg3 hrg3 hrow2 hrg2 hrow hg2 hnx hbox hnn
      go_wp2_with fail
      go_roundw
      case rel =>
        obtain ⟨hrg3, hown', hg3⟩ := HR.out
        obtain ⟨hC, hbx2, hnx2⟩ := HP.out
        refine ⟨_, cnt2, ss ++ [x], hrg3, by simp; omega, by simpa using hown', own_not_nil hown' (by omega), hC, (hg3.block _ (by simp; omega) (row_ne_low HO.out.1 (by omega))).trans hbx2, hnx2.grown hg3 (by simp; omega) (fun j hj => by have := (HO.out.1.lt j hj).1; omega)⟩
      case measure =>
        rw [HR.out.1.left_eq, HO.out.2.left_eq]
        exact hlt
end Go.Proofs.YtnnbhgnllbjmeaaGreatDoor
namespace Go.Proofs.YtnnbhgnllbjmeaaGreatDoor
open Go.RowKit

end Go.Proofs.YtnnbhgnllbjmeaaGreatDoor
namespace Go.Proofs.YtnnbhgnllbjmeaaGreatDoor
open Go.RowKit

theorem recNumber_panicking (u : TypeId) (pv : Value) (older : List PanicEntry) (w : World) :
    CallsD Tryz.prog 95 #[] (.panicking ({ v := .iface u pv, recovered := false } :: older)) w fun e u' w' =>
      e = .returned (.tuple #[]) ∧ u' = .panicking ({ v := .iface u pv, recovered := true } :: older) ∧ w' = w := by
  refine callsD_of_wpS Tryz.func95 rfl fun c₀ cs hu => ?_
  apply wpS_region
  simp [wpOpsS, go_sem, recoverD, hu, Tryz.ntmps95, bodyPostS, results, Tryz.results95]

theorem recNumber_idle (w : World) :
    CallsD Tryz.prog 95 #[] .returning w fun e u' w' => e = .returned (.tuple #[]) ∧ u' = .returning ∧ w' = w := by
  refine callsD_of_wpS Tryz.func95 rfl fun c₀ cs hu => ?_
  apply wpS_region
  simp [wpOpsS, go_sem, recoverD, hu, Tryz.ntmps95, bodyPostS, results, Tryz.results95]
  cases c₀
  simp_all

def outOfRange : PanicEntry := { v := .iface 9 (.string ⟨#[110, 117, 109, 98, 101, 114, 32, 111, 117, 116, 32, 111, 102, 32, 114, 97, 110, 103, 101]⟩), recovered := false }

theorem mustRange_yes (n lo hi : Int) (h0 : lo ≤ n) (h1 : n ≤ hi) (w : World) :
    Calls Tryz.prog 96 #[.int .i64 n, .int .i64 lo, .int .i64 hi] w fun e w' => e = .returned (.int .i64 n) ∧ w = w' := by
  have a0 : ¬ n < lo := by omega
  have a1 : ¬ hi < n := by omega
  go_enter Tryz.func96, Tryz.ntmps96
  go_wp2
  go_ret
  exact ⟨rfl, rfl⟩
theorem mustRange_no (n lo hi : Int) (h : n < lo ∨ hi < n) (w : World) :
    Calls Tryz.prog 96 #[.int .i64 n, .int .i64 lo, .int .i64 hi] w fun e w' => e = .panicked [outOfRange] ∧ w = w' := by
  by_cases a0 : n < lo
  · clear h
    go_enter Tryz.func96, Tryz.ntmps96
    go_wp2
    exact ⟨rfl, rfl, rfl⟩
  · have a1 : hi < n := by omega
    clear h
    go_enter Tryz.func96, Tryz.ntmps96
    go_wp2
    exact ⟨rfl, rfl, rfl⟩

set_option maxRecDepth 100000 in
theorem implNumber_yes (s : ByteArray) (n : Int) (hn : IsNum s.data.toList n) (h0 : 0 ≤ n) (h1 : n ≤ 999999999) (w : World) (htab : Lib.TabIs Tryz.prog w "internal/strconv.uint64pow10" .u64 Lib.pow10Tab) (hg : 1 < w.heap.size) :
    Calls Tryz.prog 77 #[.string s] w fun e w' => e = .returned (.tuple #[.int .i64 n, .bool true]) ∧ Below w.heap.size w w' := by
  go_enter_defers Tryz.func77, Tryz.ntmps77
  go_wp2_with fail
  refine (mustInt_yes s n hn _ htab hg).mono ?_
  rintro e w1 ⟨rfl, hB⟩
  go_wp2_with fail
  refine (mustRange_yes n 0 999999999 h0 h1 _).mono ?_
  rintro e w2 ⟨rfl, rfl⟩
  go_wp2_with fail
  refine leaves_cons (f := 95) (args := #[]) (by simp) (by simp [go_sem]) ?_
  refine (recNumber_idle _).mono ?_
  rintro e u' w2 ⟨rfl, rfl, rfl⟩
  simp [Leaves, settle, results, Tryz.results77, go_sem, hB]

set_option maxRecDepth 100000 in
theorem implNumber_out (s : ByteArray) (n : Int) (hn : IsNum s.data.toList n) (h : n < 0 ∨ 999999999 < n) (w : World) (htab : Lib.TabIs Tryz.prog w "internal/strconv.uint64pow10" .u64 Lib.pow10Tab) (hg : 1 < w.heap.size) :
    Calls Tryz.prog 77 #[.string s] w fun e w' => e = .returned (.tuple #[.int .i64 0, .bool false]) ∧ Below w.heap.size w w' := by
  go_enter_defers Tryz.func77, Tryz.ntmps77
  go_wp2_with fail
  refine (mustInt_yes s n hn _ htab hg).mono ?_
  rintro e w1 ⟨rfl, hB⟩
  go_wp2_with fail
  refine (mustRange_no n 0 999999999 h _).mono ?_
  rintro e w2 ⟨rfl, rfl⟩
  go_wp2_with fail
  refine leaves_cons (f := 95) (args := #[]) (by simp) (by simp [go_sem]) ?_
  refine (recNumber_panicking _ _ [] _).mono ?_
  rintro e u' w2 ⟨rfl, rfl, rfl⟩
  simp [Leaves, settle, results, Tryz.results77, go_sem, hB]

set_option maxRecDepth 100000 in
theorem implNumber_no (s : ByteArray) (hsz : s.size ≤ 1048576) (h : ∀ n, ¬ IsNum s.data.toList n) (tp tq : TypeId) (p q : Value) (w : World)
    (htab : Lib.TabIs Tryz.prog w "internal/strconv.uint64pow10" .u64 Lib.pow10Tab) (hg : 1 < w.heap.size)
    (hv1 : w.var? Tryz.prog "strconv.ErrSyntax" = some #[.iface tp p]) (hv2 : w.var? Tryz.prog "strconv.ErrRange" = some #[.iface tq q]) :
    Calls Tryz.prog 77 #[.string s] w fun e w' => e = .returned (.tuple #[.int .i64 0, .bool false]) ∧ Below w.heap.size w w' := by
  go_enter_defers Tryz.func77, Tryz.ntmps77
  go_wp2_with fail
  refine (mustInt_no s hsz h tp tq p q _ htab hg hv1 hv2).mono ?_
  rintro e w1 ⟨rfl, hB⟩
  go_wp2_with fail
  refine leaves_cons (f := 95) (args := #[]) (by simp) (by simp [go_sem]) ?_
  refine (recNumber_panicking _ _ [] _).mono ?_
  rintro e u' w2 ⟨rfl, rfl, rfl⟩
  simp [Leaves, settle, results, Tryz.results77, go_sem, hB]

/-- What Number answers. -/
def NrPost (l : List UInt8) (e : Ending) : Prop :=
  (∃ n, IsNum l n ∧ 0 ≤ n ∧ n ≤ 999999999 ∧ e = .returned (.tuple #[.int .i64 n, .bool true])) ∨ ((∀ n, IsNum l n → n < 0 ∨ 999999999 < n) ∧ e = .returned (.tuple #[.int .i64 0, .bool false]))

theorem isNum_one {l : List UInt8} {n m : Int} (h : IsNum l n) (k : IsNum l m) : n = m := by
  have a := atoi_isNum h
  have b := atoi_isNum k
  rw [a] at b
  injection b

theorem specIn_yes (x lo hi : Int) (a0 : lo ≤ x) (a1 : x ≤ hi) (w : World) :
    Calls Tryz.prog 43 #[.int .i64 x, .int .i64 lo, .int .i64 hi] w fun e w' => e = .returned (.bool true) ∧ w = w' := by
  go_enter Tryz.func43, Tryz.ntmps43
  go_wp2
  go_ret
  exact ⟨by first | (simp; done) | (simp; omega), rfl⟩
theorem specIn_no (x lo hi : Int) (h : x < lo ∨ hi < x) (w : World) :
    Calls Tryz.prog 43 #[.int .i64 x, .int .i64 lo, .int .i64 hi] w fun e w' => e = .returned (.bool false) ∧ w = w' := by
  have H := Lib.hid h
  clear h
  go_enter Tryz.func43, Tryz.ntmps43
  go_wp2
  all_goals
    go_ret
    have h := H.out
    exact ⟨by first | (simp; done) | (simp; omega), rfl⟩

set_option maxRecDepth 100000 in
theorem specNumber (s : ByteArray) (w : World) :
    Calls Tryz.prog 64 #[.string s] w fun e w' => NrPost s.data.toList e ∧ Below w.heap.size w w' := by
  by_cases hx : ∃ n, IsNum s.data.toList n
  · obtain ⟨n, hn⟩ := hx
    have hit : Calls Tryz.prog 78 #[.string s] w fun e w' => e = .returned (.tuple #[.int .i64 n, .bool true]) ∧ Below w.heap.size w w' :=
      (specIntText s w).mono fun e w' ⟨hp, hb⟩ => ⟨by
        rcases hp with ⟨m, hm, he⟩ | ⟨hno, _⟩
        · rw [he, isNum_one hm hn]
        · exact absurd hn (hno n), hb⟩
    have HN := Lib.hid hn
    have HIT := Lib.hid hit
    clear hn hit
    by_cases hr : 0 ≤ n ∧ n ≤ 999999999
    · obtain ⟨h0, h1⟩ := hr
      go_enter Tryz.func64, Tryz.ntmps64
      go_wp2_with fail
      refine HIT.out.mono ?_
      rintro e w1 ⟨rfl, hB⟩
      go_wp2_with fail
      refine (specIn_yes n 0 999999999 h0 h1 _).mono ?_
      rintro e w2 ⟨rfl, rfl⟩
      go_wp2_with fail
      go_ret2
      exact ⟨Or.inl ⟨n, HN.out, h0, h1, rfl⟩, hB⟩
    · have ho : Hid (n < 0 ∨ 999999999 < n) := by show n < 0 ∨ 999999999 < n; omega
      clear hr
      go_enter Tryz.func64, Tryz.ntmps64
      go_wp2_with fail
      refine HIT.out.mono ?_
      rintro e w1 ⟨rfl, hB⟩
      go_wp2_with fail
      refine (specIn_no n 0 999999999 ho.out _).mono ?_
      rintro e w2 ⟨rfl, rfl⟩
      go_wp2_with fail
      go_ret2
      exact ⟨Or.inr ⟨fun m hm => isNum_one HN.out hm ▸ ho.out, rfl⟩, hB⟩
  · have hno : ∀ n, ¬ IsNum s.data.toList n := fun n hn => hx ⟨n, hn⟩
    have hit : Calls Tryz.prog 78 #[.string s] w fun e w' => e = .returned (.tuple #[.int .i64 0, .bool false]) ∧ Below w.heap.size w w' :=
      (specIntText s w).mono fun e w' ⟨hp, hb⟩ => ⟨by
        rcases hp with ⟨m, hm, he⟩ | ⟨_, he⟩
        · exact absurd hm (hno m)
        · exact he, hb⟩
    have HN := Lib.hid hno
    have HIT := Lib.hid hit
    clear hno hit hx
    go_enter Tryz.func64, Tryz.ntmps64
    go_wp2_with fail
    refine HIT.out.mono ?_
    rintro e w1 ⟨rfl, hB⟩
    go_wp2_with fail
    go_ret2
    exact ⟨Or.inr ⟨fun m hm => absurd hm (HN.out m), rfl⟩, hB⟩
end Go.Proofs.YtnnbhgnllbjmeaaGreatDoor
namespace Go.Proofs.YtnnbhgnllbjmeaaGreatDoor
open Go.RowKit

theorem powTable5 {r : List (String × DataW Unit)} {d1 d2 : String × DataW Unit} {W : World} (h : laidMet Tryz.prog (d1 :: d2 :: ("internal/strconv.uint64pow10", Rows.laid_internal_strconv_uint64pow10) :: r) W) : Lib.TabIs Tryz.prog W "internal/strconv.uint64pow10" .u64 Lib.pow10Tab := by
  have h2 : laidMet Tryz.prog (("internal/strconv.uint64pow10", Lib.tabData .u64 Lib.pow10Tab) :: r) W := by rw [← powData]; exact h.tail.tail
  exact Lib.tabIs_of_head gPow gPowType Tryz.underlying143 Tryz.underlying118 cellsU64 cellsPow h2

theorem implNumber (s : ByteArray) (hsz : s.size ≤ 1048576) (tp tq : TypeId) (p q : Value) (w : World)
    (htab : Lib.TabIs Tryz.prog w "internal/strconv.uint64pow10" .u64 Lib.pow10Tab) (hg : 1 < w.heap.size)
    (hv1 : w.var? Tryz.prog "strconv.ErrSyntax" = some #[.iface tp p]) (hv2 : w.var? Tryz.prog "strconv.ErrRange" = some #[.iface tq q]) :
    Calls Tryz.prog 77 #[.string s] w fun e w' => NrPost s.data.toList e ∧ Below w.heap.size w w' := by
  by_cases hx : ∃ n, IsNum s.data.toList n
  · obtain ⟨n, hn⟩ := hx
    by_cases hr : 0 ≤ n ∧ n ≤ 999999999
    · exact (implNumber_yes s n hn hr.1 hr.2 w htab hg).mono fun e w' ⟨he, hb⟩ => ⟨Or.inl ⟨n, hn, hr.1, hr.2, he⟩, hb⟩
    · have ho : n < 0 ∨ 999999999 < n := by omega
      exact (implNumber_out s n hn ho w htab hg).mono fun e w' ⟨he, hb⟩ => ⟨Or.inr ⟨fun m hm => isNum_one hn hm ▸ ho, he⟩, hb⟩
  · have hno : ∀ n, ¬ IsNum s.data.toList n := fun n hn => hx ⟨n, hn⟩
    exact (implNumber_no s hsz hno tp tq p q w htab hg hv1 hv2).mono fun e w' ⟨he, hb⟩ => ⟨Or.inr ⟨fun n hn => absurd hn (hno n), he⟩, hb⟩

/-- What IntText answers is one value. -/
theorem itPost_val {l : List UInt8} : ∃ (n : Int) (b : Bool), ∀ e, ItPost l e → e = .returned (.tuple #[.int .i64 n, .bool b]) := by
  by_cases hx : ∃ n, IsNum l n
  · obtain ⟨n, hn⟩ := hx
    refine ⟨n, true, fun e he => ?_⟩
    rcases he with ⟨m, hm, he⟩ | ⟨hno, _⟩
    · rw [he, isNum_one hn hm]
    · exact absurd hn (hno n)
  · refine ⟨0, false, fun e he => ?_⟩
    rcases he with ⟨m, hm, _⟩ | ⟨_, he⟩
    · exact absurd ⟨m, hm⟩ hx
    · exact he
theorem nrPost_val {l : List UInt8} : ∃ (n : Int) (b : Bool), ∀ e, NrPost l e → e = .returned (.tuple #[.int .i64 n, .bool b]) := by
  by_cases hx : ∃ n, IsNum l n ∧ 0 ≤ n ∧ n ≤ 999999999
  · obtain ⟨n, hn, h0, h1⟩ := hx
    refine ⟨n, true, fun e he => ?_⟩
    rcases he with ⟨m, hm, _, _, he⟩ | ⟨hno, _⟩
    · rw [he, isNum_one hn hm]
    · have := hno n hn; omega
  · refine ⟨0, false, fun e he => ?_⟩
    rcases he with ⟨m, hm, a, b, _⟩ | ⟨_, he⟩
    · exact absurd ⟨m, hm, a, b⟩ hx
    · exact he

end Go.Proofs.YtnnbhgnllbjmeaaGreatDoor
namespace Go.Proofs.YtnnbhgnllbjmeaaGreatDoor
open Go.RowKit

theorem cell_keep6 {w w' : World} {a : Addr} {v : Value} (h : w.cell? a = some v) (hB : Below w.heap.size w w') : w'.cell? a = some v := (hB.cell (World.block_lt_of_cell? w a h)).trans h
/-- What reading a number ends in. -/
noncomputable def numE (l : List UInt8) : Ending :=
  match numV l with
  | some n => .returned (.tuple #[.int .i64 n, .bool true])
  | none => .returned (.tuple #[.int .i64 0, .bool false])
theorem nr_numE {l : List UInt8} {e : Ending} (h : NrPost l e) : e = numE l := by
  rcases h with ⟨n, hn, h0, h1, rfl⟩ | ⟨hno, rfl⟩
  · rw [numE, numV_some hn h0 h1]
  · rw [numE, numV_none hno]
theorem numE_some {l : List UInt8} {n : Int} (h : numV l = some n) : numE l = .returned (.tuple #[.int .i64 n, .bool true]) := by rw [numE, h]
theorem numE_none {l : List UInt8} (h : numV l = none) : numE l = .returned (.tuple #[.int .i64 0, .bool false]) := by rw [numE, h]
theorem specNumberE (s : ByteArray) (w : World) :
    Calls Tryz.prog 64 #[.string s] w fun e w' => e = numE s.data.toList ∧ Below w.heap.size w w' :=
  (specNumber s w).mono fun _ _ k => ⟨nr_numE k.1, k.2⟩
theorem getD_at {d : ByteArray} {k : Nat} (h : k < d.size) : d.data.toList.getD k 0 = d[k] := by
  rw [List.getD_eq_getElem?_getD, at_byte h]
  rfl
end Go.Proofs.YtnnbhgnllbjmeaaGreatDoor
