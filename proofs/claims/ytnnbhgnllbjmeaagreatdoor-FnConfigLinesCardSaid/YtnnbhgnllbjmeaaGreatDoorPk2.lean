/-
  Small facts on blocks and strings that many texts share.
  What impl.Joined answers: the library's join.
  The laws' own helpers on lists of numbers: equal, their size, their copy, their marks.
  What the rows' lists of package-level variables give, and the world in which the witnesses lie.
  What spec.Parts and impl.Parts answer: a new row that holds the parts.
  The laws' own helpers on lists of texts: equal, their size, their copy, their marks.
  Bytes that a call gathers in a slice of its own.
  What impl.Parts answers: a new row that holds the parts.
  What spec.Joined answers, over lists of texts as RowS has them.
-/
import Derived.Test.YtnnbhgnllbjmeaaGreatDoorCur
import Derived.Test.YtnnbhgnllbjmeaaGreatDoorPk1
import Derived.Test.YtnnbhgnllbjmeaaGreatDoorShStr
import Derived.Test.YtnnbhgnllbjmeaaGreatDoorRows
import Derived.WalkKit
import Derived.ProofKit
import Derived.Outline
import Derived.Lib.Hide
import Derived.Lib.Join
import Derived.Deep.QuietTactic
import Derived.BigQuiet
import Derived.RegionTactic
import Derived.Test.YtnnbhgnllbjmeaaGreatDoorCards
import Derived.Test.YtnnbhgnllbjmeaaGreatDoorTie
import Derived.OpenShut
import Derived.Deep.DeepHandedRow
import Derived.Lib.LaidTab
import Derived.Lib.ItoaNum
import Derived.Stop.LaidErr
import Derived.WalkSmall
import Derived.Lib.AtoiErrMem
import Derived.Deep.RegionHeld3
import Derived.Lib.AppendStr
import Derived.Laws.IdiomStrings
import Derived.Laws.BytesArg
import Derived.Lib.UnsafeStr
namespace Go.Proofs.YtnnbhgnllbjmeaaGreatDoor
open Go.RowKit

theorem infoStr : (Tryz.prog.info? 9).map (fun i => (i.zero, i.size, i.bytes)) = some (some (.string ByteArray.empty), 1, 16) := by kernel_rfl
theorem cellsStr : Tryz.prog.cellsOf 9 = 1 := by kernel_rfl
theorem strCells_len (a : List (List UInt8)) : (strCells a).length = a.length := List.length_map _
theorem news_one {w : World} {T : TypeId} {x : Value} : ∀ (j : Nat) (u : Value), [x][j]? = some u → (w.alloc (.cells #[x] T)).cell? ((⟨w.heap.size, 0, none⟩ : Addr).add j) = some u := by
  intro j u hu
  match j, hu with
  | 0, hu =>
    simp at hu
    subst hu
    have hb : (w.alloc (.cells #[x] T)).heap[w.heap.size]? = some (.cells #[x] T (0, 0)) := by
      show (w.heap.push _)[w.heap.size]? = _
      simp
    rw [show (⟨w.heap.size, 0, none⟩ : Addr).add 0 = ⟨w.heap.size, 0, none⟩ from by simp [Addr.add], cell_blk hb]
    rfl
theorem blk_lt {w : World} {b : Nat} {o : Obj} (h : w.heap[b]? = some o) : b < w.heap.size := (Array.getElem?_eq_some_iff.1 h).1
theorem alloc_blk (w : World) (cs : Array Value) (T : TypeId) : (w.alloc (.cells cs T)).heap[w.heap.size]? = some (.cells cs T (0, 0)) := by
  show (w.heap.push _)[w.heap.size]? = _
  simp
theorem alloc_lt (w : World) (o : Obj) : w.heap.size < (w.alloc o).heap.size := by simp
theorem blk_next {w w' : World} {b : Nat} {o : Obj} (h : w.heap[b]? = some o) (hB : Below w.heap.size w w') : w'.heap[b]? = some o := (hB.block b (blk_lt h)).trans h
theorem below_drewN2 {B : Nat} {a w : World} (h : Below B a w) (n : Nat) : Below B a (w.drewN n) := ⟨h.os, h.tape, h.output, h.size, h.block⟩
theorem owns_apart {w : World} {b1 b2 s1 s2 n1 n2 : Nat} {T1 T2 : TypeId} {v1 v2 : Value} {x1 x2 : List Value} (h1 : w.ownsRow b1 T1 s1 v1 n1 x1) (h2 : w.ownsRow b2 T2 s2 v2 n2 x2) (hT : T1 ≠ T2) : ∀ g, v1.ownBlock = some g → v2.ownBlock ≠ some g := by
  intro g hg hg2
  rcases h1.2 with ⟨rfl, _⟩ | ⟨g1, c1, cur1, rfl, _, hc1, _⟩
  · cases hg
  · rcases h2.2 with ⟨rfl, _⟩ | ⟨g2, c2, cur2, rfl, _, hc2, _⟩
    · cases hg2
    · simp only [Value.ownBlock, Option.some.injEq] at hg hg2
      subst hg
      subst hg2
      rw [hc1] at hc2
      injection hc2 with hc2
      injection hc2 with _ hc2
      exact hT hc2
theorem owns_keep {w w' : World} {b1 b2 n1 n2 : Nat} {T1 T2 : TypeId} {v1 v2 : Value} {x1 x2 : List Value} (h1 : w.ownsRow b1 T1 1 v1 n1 x1) (h2 : w.ownsRow b2 T2 1 v2 n2 x2) (hT : T1 ≠ T2) (hg : w.grownBy w' v2.ownBlock) : w'.ownsRow b1 T1 1 v1 n1 x1 := by
  refine h1.kept hg ?_
  cases e : v1.ownBlock with
  | none => exact Or.inl rfl
  | some g => exact Or.inr (fun k => owns_apart h1 h2 hT g e k.symm)
end Go.Proofs.YtnnbhgnllbjmeaaGreatDoor
namespace Go.Proofs.YtnnbhgnllbjmeaaGreatDoor
open Go.RowKit

theorem join_call (w : World) (b off c : Nat) (ps : List (List UInt8)) (sep : ByteArray) (hcap : ps.length ≤ c) (hn : ps.length ≤ 140737488355328) (hb : b < w.heap.size)
    (hlen : (Lib.join ps sep.data.toList).length ≤ 140737488355328) (hc : ∀ (j : Nat) p, ps[j]? = some p → w.cell? ⟨b, off + j, none⟩ = some (.string ⟨p.toArray⟩)) :
    Calls Tryz.prog 90 #[.slice (some ⟨b, off, none⟩) ps.length c, .string sep] w fun e w' => e = .returned (.string ⟨(Lib.join ps sep.data.toList).toArray⟩) ∧ Below w.heap.size w w' := by
  have e : (ps.map fun p => (⟨p.toArray⟩ : ByteArray)).map (·.data.toList) = ps := by
    rw [List.map_map]
    conv => rhs; rw [← List.map_id ps]
    refine List.map_congr_left fun p _ => ?_
    simp
  have h := Tryz.strings_Join b off c (ps.map fun p => ⟨p.toArray⟩) sep w (fun j x hx => by
    rw [List.getElem?_map] at hx
    cases hp : ps[j]? with
    | none => rw [hp] at hx; cases hx
    | some p =>
      rw [hp] at hx
      obtain rfl := Option.some.inj hx
      exact hc j p hp) hb (by simpa using hn) (by simpa using hcap) (by rw [e]; exact hlen)
  rw [e, List.length_map] at h
  exact h

theorem implJoined_some (w : World) (b off c : Nat) (ps : List (List UInt8)) (sep : ByteArray) (hcap : ps.length ≤ c) (hn : ps.length ≤ 140737488355328) (hb : b < w.heap.size)
    (hlen : (Lib.join ps sep.data.toList).length ≤ 140737488355328) (hc : ∀ (j : Nat) p, ps[j]? = some p → w.cell? ⟨b, off + j, none⟩ = some (.string ⟨p.toArray⟩)) :
    Calls Tryz.prog 72 #[.slice (some ⟨b, off, none⟩) ps.length c, .string sep] w fun e w' => e = .returned (.string ⟨(Lib.join ps sep.data.toList).toArray⟩) ∧ Below w.heap.size w w' := by
  have HC := Lib.hid (join_call w b off c ps sep hcap hn hb hlen hc)
  clear hc
  go_enter Tryz.func72, Tryz.ntmps72
  go_wp2_with fail
  refine HC.out.mono ?_
  rintro e w1 ⟨rfl, hB⟩
  go_wp2_with fail
  go_ret
  exact ⟨rfl, hB⟩
end Go.Proofs.YtnnbhgnllbjmeaaGreatDoor
namespace Go.Proofs.YtnnbhgnllbjmeaaGreatDoor
open Go.RowKit

theorem infoInt : (Tryz.prog.info? 3).map (fun i => (i.zero, i.size, i.bytes)) = some (some (.int .i64 0), 1, 8) := by kernel_rfl

def intCells (zs : List Int) : List Value := zs.map fun z => Value.int .i64 z
theorem intCells_len (a : List Int) : (intCells a).length = a.length := List.length_map _
theorem intCells_at {zs : List Int} {j : Nat} {z : Int} (h : zs[j]? = some z) : (intCells zs)[j]? = some (.int .i64 z) := by
  unfold intCells
  rw [List.getElem?_map, h]
  rfl

/-- v reads as the numbers zs in w. -/
def IntRow (w : World) (v : Value) (zs : List Int) : Prop :=
  (zs = [] ∧ ∃ a c, v = .slice a 0 c) ∨ ∃ b off c, v = .slice (some ⟨b, off, none⟩) zs.length c ∧ zs.length ≤ 9223372036854775807 ∧ zs.length ≤ c ∧ (∀ (j : Nat) z, zs[j]? = some z → w.cell? ⟨b, off + j, none⟩ = some (.int .i64 z))

theorem intRow_of_owns {w : World} {base : Nat} {T : TypeId} {v : Value} {zs : List Int} (h : w.ownsRow base T 1 v zs.length (intCells zs)) (hl : zs.length ≤ 9223372036854775807) : IntRow w v zs := by
  rcases h.2 with ⟨rfl, h0⟩ | ⟨g, cap, cur, rfl, _, _, hnc, _, _, _⟩
  · exact Or.inl ⟨List.eq_nil_of_length_eq_zero h0, _, _, rfl⟩
  · refine Or.inr ⟨g, 0, cap, rfl, hl, hnc, fun j p hj => ?_⟩
    have hjl := (List.getElem?_eq_some_iff.1 hj).1
    rw [Nat.zero_add, h.cellAt j (by omega), intCells_at hj]
theorem IntRow.below {w w' : World} {v : Value} {zs : List Int} (h : IntRow w v zs) (hB : Below w.heap.size w w') : IntRow w' v zs := by
  rcases h with ⟨rfl, a, c, rfl⟩ | ⟨b, off, c, rfl, hl, hcap, hc⟩
  · exact Or.inl ⟨rfl, a, c, rfl⟩
  · refine Or.inr ⟨b, off, c, rfl, hl, hcap, fun j p hp => ?_⟩
    exact (hB.cell (p := ⟨b, off + j, none⟩) (World.block_lt_of_cell? w _ (hc j p hp))).trans (hc j p hp)
theorem intRow_form {w : World} {v : Value} {zs : List Int} (h : IntRow w v zs) : ∃ a c, v = .slice a zs.length c ∧ zs.length ≤ 9223372036854775807 ∧ (∀ (q : Nat) z, zs[q]? = some z → ∃ b off, a = some ⟨b, off, none⟩ ∧ w.cell? ⟨b, off + q, none⟩ = some (.int .i64 z)) := by
  rcases h with ⟨rfl, a, c, rfl⟩ | ⟨b, off, c, rfl, hl, _, hc⟩
  · exact ⟨a, c, rfl, by simp, by simp⟩
  · exact ⟨_, c, rfl, hl, fun q p hp => ⟨b, off, rfl, hc q p hp⟩⟩

theorem ret_intI {a b : Int} (h : a = b) : Ending.returned (.int .i64 a) = .returned (.int .i64 b) := by rw [h]

/-- The first j cells of a row are the numbers zs. -/
def FilledI (w : World) (base : Nat) (v : Value) (n : Nat) (zs : List Int) (j : Nat) : Prop := ∃ xs : List Value, w.ownsRow base 3 1 v n xs ∧ ∀ i p, i < j → zs[i]? = some p → xs[i]? = some (.int .i64 p)
theorem FilledI.cell {w : World} {base g cap : Nat} {n j : Nat} {zs : List Int} (h : FilledI w base (.slice (some ⟨g, 0, none⟩) n cap) n zs j) {i : Nat} (hi : i < n) : (∃ x, w.cell? ⟨g, i, none⟩ = some x) ∧ w.frozen? ⟨g, i, none⟩ = false := by
  obtain ⟨xs, ho, hx⟩ := h
  have hxl := ho.1
  refine ⟨⟨xs[i]'(by omega), ?_⟩, ho.frozenAt i⟩
  rw [ho.cellAt i (by omega), List.getElem?_eq_getElem (by omega)]
theorem FilledI.store {w : World} {base g cap : Nat} {n j : Nat} {zs : List Int} {p : Int} (h : FilledI w base (.slice (some ⟨g, 0, none⟩) n cap) n zs j) (hj : j < n) (hp : zs[j]? = some p) :
    FilledI (w.setCell ⟨g, j, none⟩ (.int .i64 p)) base (.slice (some ⟨g, 0, none⟩) n cap) n zs (j + 1) ∧ w.grownBy (w.setCell ⟨g, j, none⟩ (.int .i64 p)) (some g) := by
  obtain ⟨xs, ho, hx⟩ := h
  have hs := ho.stored j (.int .i64 p)
  have hxl := ho.1
  refine ⟨⟨_, hs.1, fun i q hi hq => ?_⟩, hs.2⟩
  rw [List.getElem?_set]
  by_cases e : j = i
  · subst e
    rw [hp] at hq
    obtain rfl := Option.some.inj hq
    rw [if_pos rfl, if_pos (by omega)]
  · rw [if_neg e]
    exact hx i q (by omega) hq
theorem FilledI.done {w : World} {base : Nat} {v : Value} {zs : List Int} (h : FilledI w base v zs.length zs zs.length) : w.ownsRow base 3 1 v zs.length (intCells zs) := by
  obtain ⟨xs, ho, hx⟩ := h
  have e : xs = intCells zs := by
    refine List.ext_getElem? fun i => ?_
    have hxl := ho.1
    by_cases hi : i < zs.length
    · rw [hx i zs[i] hi (List.getElem?_eq_getElem hi), intCells_at (List.getElem?_eq_getElem hi)]
    · rw [List.getElem?_eq_none (by omega), List.getElem?_eq_none (by rw [intCells_len]; omega)]
  rw [e] at ho
  exact ho

/-- The marks of numbers from k on, j of them. -/
def marksI (k j : Nat) : List Int := (List.range j).map fun i => ((k + i : Nat) : Int)
theorem marksI_len (k j : Nat) : (marksI k j).length = j := by simp [marksI]
theorem marksI_at {k j i : Nat} (h : i < j) : (marksI k j)[i]? = some ((k + i : Nat) : Int) := by simp [marksI, h]
theorem FilledI.below {w w' : World} {base n j : Nat} {v : Value} {zs : List Int} (h : FilledI w base v n zs j) (hB : Below w.heap.size w w') : FilledI w' base v n zs j := by
  obtain ⟨xs, ho, hx⟩ := h
  exact ⟨xs, ho.kept (row := none) ⟨hB.os, hB.tape, hB.output, hB.size, fun k hk _ => hB.block k hk⟩ (by cases hv : v.ownBlock <;> simp), hx⟩

end Go.Proofs.YtnnbhgnllbjmeaaGreatDoor
namespace Go.Proofs.YtnnbhgnllbjmeaaGreatDoor
open Go.ChangeShapes Go.WideShapes Go.ChangeAt Go.RowKit

theorem own : ownKnob Tryz.prog.godebug = none := by kernel_rfl

theorem gPow : Tryz.prog.globalNamed "internal/strconv.uint64pow10" = some 1 := by kernel_rfl
theorem gPowType : (Tryz.prog.globals[1]?).map (·.type) = some 143 := by kernel_rfl
theorem cellsPow : Tryz.prog.cellsOf 143 = 20 := by kernel_rfl
theorem cellsU64 : Tryz.prog.cellsOf 118 = 1 := by kernel_rfl
theorem powData : (Rows.laid_internal_strconv_uint64pow10 : DataW Unit) = Lib.tabData .u64 Lib.pow10Tab := by kernel_rfl

/-- The numbers of a listed table, as cells. -/
def flatCell : DataW Unit → List Value
  | .lit (.int k n) => [Value.int k n]
  | _ => []
def flatRow : DataW Unit → List Value
  | .agg l => l.flatMap flatCell
  | d => flatCell d
def tabCells : DataW Unit → Array Value
  | .agg l => (l.flatMap flatRow).toArray
  | _ => #[]
def sentText : DataW Unit → List UInt8
  | .iface _ (.ptr (.agg [.lit (.string l)])) => l
  | _ => []
/-- So many blocks has the settled world. -/
noncomputable def low : Nat := (World.holding Tryz.prog default ⟨#[], #[], []⟩).heap.size
def setCells (cs : Array Value) : Obj → Obj
  | .cells _ t f => .cells cs t f
  | o => o
theorem gES : Tryz.prog.globalNamed "strconv.ErrSyntax" = some 4 := by kernel_rfl
theorem gESType : (Tryz.prog.globals[4]?).map (·.type) = some 50 := by kernel_rfl
theorem gER : Tryz.prog.globalNamed "strconv.ErrRange" = some 5 := by kernel_rfl
theorem gERType : (Tryz.prog.globals[5]?).map (·.type) = some 50 := by kernel_rfl
theorem cellsErr : Tryz.prog.cellsOf 167 = 1 := by kernel_rfl
theorem star : "*" ++ "errors.errorString" = "*errors.errorString" := by decide
theorem rowErr (u : TypeId) (h : Tryz.prog.typeName? 3 u = some "*errors.errorString") : u = 165 :=
  typeName_ptr_named (nm := "errors.errorString") (by rw [star]; kernel_rfl) (by kernel_rfl) (by decide) u (by rw [star]; exact h)

/-- What the row's list gives of the two errors. -/
theorem errSyntax {r : List (String × DataW Unit)} {W : World} (h : laidMet Tryz.prog (("strconv.ErrSyntax", Rows.laid_strconv_ErrSyntax) :: r) W) : ∃ a, W.var? Tryz.prog "strconv.ErrSyntax" = some #[.iface 165 (.pointer (some a))] := by
  obtain ⟨a0, s0, hv0, -, -, -⟩ := laid_sentinel h gES gESType Tryz.underlying50 rowErr Tryz.underlying165 Tryz.underlying167 rfl rfl Tryz.underlying9 cellsErr cellsStr
  exact ⟨a0, hv0⟩
theorem errRange {r : List (String × DataW Unit)} {W : World} (h : laidMet Tryz.prog (("strconv.ErrRange", Rows.laid_strconv_ErrRange) :: r) W) : ∃ a, W.var? Tryz.prog "strconv.ErrRange" = some #[.iface 165 (.pointer (some a))] := by
  obtain ⟨a0, s0, hv0, -, -, -⟩ := laid_sentinel h gER gERType Tryz.underlying50 rowErr Tryz.underlying165 Tryz.underlying167 rfl rfl Tryz.underlying9 cellsErr cellsStr
  exact ⟨a0, hv0⟩

theorem var_lt {P : Program} {W : World} {name : String} {v : Value} {g : Nat} (hg : P.globalNamed name = some g) (h : W.var? P name = some #[v]) : g < W.heap.size := by
  have h0 := World.var?_cell hg h 0
  exact Lib.lt_of_cell (a := ⟨g, 0, none⟩) (by simpa using h0)
theorem tab_lt {P : Program} {W : World} {name : String} {k : IntKind} {zs : List Int} {g : Nat} (h : Lib.TabIs P W name k zs) (hg : P.globalNamed name = some g) (hi : 0 < zs.length) : g < W.heap.size :=
  Lib.lt_of_cell (h.cell hg 0 hi)
end Go.Proofs.YtnnbhgnllbjmeaaGreatDoor
namespace Go.Proofs.YtnnbhgnllbjmeaaGreatDoor
open Go.RowKit

theorem strCells_append (a b : List (List UInt8)) : strCells (a ++ b) = strCells a ++ strCells b := List.map_append
/-- The part that the walk cuts out. -/
theorem cut_str (s : ByteArray) (fr k : Nat) : Value.string (s.extract fr k) = .string ⟨((s.data.toList.drop fr).take (k - fr)).toArray⟩ := by rw [extract_mk]

set_option maxRecDepth 100000 in
set_option maxHeartbeats 2000000 in
theorem specParts (s : ByteArray) (c : UInt8) (w : World) (hsz : s.size ≤ 1048576) :
    Calls Tryz.prog 16 #[.string s, .int .u8 (c.toNat : Int)] w fun e w' => ∃ v, e = .returned v ∧ w'.ownsRow w.heap.size 9 1 v (partsL c s.data.toList).length (strCells (partsL c s.data.toList)) ∧ Below w.heap.size w w' := by
  obtain ⟨i0, hi, hz0, hz1, hz2⟩ := info_parts infoStr
  have hln : s.data.toList.length = s.size := (Lib.size_eq s).symm
  go_enter Tryz.func16, Tryz.ntmps16
  go_wp2_with fail
  go_loopw [5, 6, 7] (fun v f i wr => ∃ (k fr : Nat) (ps : List (List UInt8)), i = .int .i64 k ∧ f = .int .i64 fr ∧ PInv c s.data.toList fr k ps ∧ wr.ownsRow w.heap.size 9 1 v ps.length (strCells ps) ∧ Below w.heap.size w wr) (fun _ _ i _ => s.size + 1 - (intOf i).toNat)
  case atStart =>
    exact ⟨0, 0, [], rfl, rfl, pinv_start _ _, World.ownsRow_made w #[] 0 (Nat.le_refl _) (by unfold maxLen; omega) (by simp), (Below.refl _ _).alloc (Nat.le_refl _) _⟩
  case round =>
    obtain ⟨k, fr, ps, rfl, rfl, hI, hown, hB⟩ := hrel
    have hle := pinv_le hI
    have HI := Lib.hid hI
    clear hI
    rw [hln] at hle
    by_cases hk : k ≤ s.size
    · by_cases hlt : k < s.size
      · have hq0 : ((k : Int) == s.size) = false := by rw [beq_eq_false_iff_ne]; omega
        have hk1 : (k : Int) ≤ s.size := by omega
        have hkl : k < s.data.toList.length := by omega
        have hat : s.data.toList[k] = s[k] := by simp; rfl
        by_cases hc : s[k] = c
        · have hq : ((s[k].toNat : Int) == (c.toNat : Int)) = true := by rw [hc]; simp
          have HP := Lib.hid (pinv_cut HI.out hkl (hat.trans hc))
          clear hc hat
          go_wp2_with (at_builtin; refine wpList_append_own _ rfl _ _ 36 rfl w.heap.size 9 i0 (.string ByteArray.empty) 1 16 Tryz.underlying36 hi hz0 hz1 hz2 rfl (by decide) _ _ _ rfl (hown.alloc _) ⟨wr.heap.size, 0, none⟩ 1 1 [.string (s.extract fr k)] rfl rfl ?c1 ?c2 ?c3 ?c4 ?c5 ?_)
          case c1 => exact news_one
          case c2 => intro u hu; simp at hu; subst hu; rfl
          case c3 => unfold maxLen; omega
          case c4 => omega
          case c5 => have := hB.size; simp; omega
          intro v' w1 hown1 hg1 _
          have hown2 : w1.ownsRow w.heap.size 9 1 v' (ps ++ [(s.data.toList.drop fr).take (k - fr)]).length (strCells (ps ++ [(s.data.toList.drop fr).take (k - fr)])) := by
            rw [strCells_append, List.length_append]
            have e : strCells [(s.data.toList.drop fr).take (k - fr)] = [.string (s.extract fr k)] := by rw [cut_str]; rfl
            rw [e]
            exact hown1
          have hB1 := (hB.alloc hB.size (.cells #[.string (s.extract fr k)] 9)).grown hg1 (by have := hB.size; simp; omega) (fun j hj => (hown.lt j hj).1)
          clear hown1 hg1
          go_wp2_with fail
          go_roundw
          case rel => exact ⟨k + 1, k + 1, _, by go_num, by go_num, HP.out, hown2, hB1⟩
          case measure => first | (simp [intOf]; done) | (simp [intOf]; omega)
        · have hq : ((s[k].toNat : Int) == (c.toNat : Int)) = false := by
            rw [beq_eq_false_iff_ne]
            intro h
            exact hc (UInt8.toNat_inj.1 (by omega))
          have HP := Lib.hid (pinv_more HI.out hkl (fun h => hc (hat.symm.trans h)))
          clear hc hat
          go_wp2_with fail
          go_roundw
          case rel => exact ⟨k + 1, fr, ps, by go_num, rfl, HP.out, hown, hB⟩
          case measure => first | (simp [intOf]; done) | (simp [intOf]; omega)
      · obtain rfl : k = s.size := by omega
        have HP := Lib.hid (pinv_end HI.out hln.symm)
        go_wp2_with (at_builtin; refine wpList_append_own _ rfl _ _ 36 rfl w.heap.size 9 i0 (.string ByteArray.empty) 1 16 Tryz.underlying36 hi hz0 hz1 hz2 rfl (by decide) _ _ _ rfl (hown.alloc _) ⟨wr.heap.size, 0, none⟩ 1 1 [.string (s.extract fr s.size)] rfl rfl ?c1 ?c2 ?c3 ?c4 ?c5 ?_)
        case c1 => exact news_one
        case c2 => intro u hu; simp at hu; subst hu; rfl
        case c3 => unfold maxLen; omega
        case c4 => omega
        case c5 => have := hB.size; simp; omega
        intro v' w1 hown1 hg1 _
        have hown2 : w1.ownsRow w.heap.size 9 1 v' (ps ++ [(s.data.toList.drop fr).take (s.size - fr)]).length (strCells (ps ++ [(s.data.toList.drop fr).take (s.size - fr)])) := by
          rw [strCells_append, List.length_append]
          have e : strCells [(s.data.toList.drop fr).take (s.size - fr)] = [.string (s.extract fr s.size)] := by rw [cut_str]; rfl
          rw [e]
          exact hown1
        have hB1 := (hB.alloc hB.size (.cells #[.string (s.extract fr s.size)] 9)).grown hg1 (by have := hB.size; simp; omega) (fun j hj => (hown.lt j hj).1)
        clear hown1 hg1
        go_wp2_with fail
        go_roundw
        case rel => exact ⟨s.size + 1, s.size + 1, _, by go_num, by go_num, HP.out, hown2, hB1⟩
        case measure => first | (simp [intOf]; done) | (simp [intOf]; omega)
    · have hk1 : ¬ (k : Int) ≤ s.size := by omega
      have HP := Lib.hid (pinv_done HI.out (by omega))
      go_wp2_with fail
      go_ret
      exact ⟨_, rfl, by rw [← HP.out]; exact hown, hB⟩
end Go.Proofs.YtnnbhgnllbjmeaaGreatDoor
namespace Go.Proofs.YtnnbhgnllbjmeaaGreatDoor
open Go.RowKit

theorem infoU8 : (Tryz.prog.info? 5).map (fun i => (i.zero, i.size, i.bytes)) = some (some (.int .u8 0), 1, 1) := by kernel_rfl

/-- v reads as the texts ps in w. -/
def StrRow (w : World) (v : Value) (ps : List (List UInt8)) : Prop :=
  (ps = [] ∧ ∃ a c, v = .slice a 0 c) ∨ ∃ b off c, v = .slice (some ⟨b, off, none⟩) ps.length c ∧ ps.length ≤ 9223372036854775807 ∧ ps.length ≤ c ∧ (∀ (j : Nat) p, ps[j]? = some p → w.cell? ⟨b, off + j, none⟩ = some (.string ⟨p.toArray⟩))

theorem strRow_of_owns {w : World} {base : Nat} {T : TypeId} {v : Value} {ps : List (List UInt8)} (h : w.ownsRow base T 1 v ps.length (strCells ps)) (hl : ps.length ≤ 9223372036854775807) : StrRow w v ps := by
  rcases h.2 with ⟨rfl, h0⟩ | ⟨g, cap, cur, rfl, _, _, hnc, _, _, _⟩
  · exact Or.inl ⟨List.eq_nil_of_length_eq_zero h0, _, _, rfl⟩
  · refine Or.inr ⟨g, 0, cap, rfl, hl, hnc, fun j p hj => ?_⟩
    have hjl := (List.getElem?_eq_some_iff.1 hj).1
    rw [Nat.zero_add, h.cellAt j (by omega)]
    unfold strCells
    rw [List.getElem?_map, hj]
    rfl
theorem StrRow.below {w w' : World} {v : Value} {ps : List (List UInt8)} (h : StrRow w v ps) (hB : Below w.heap.size w w') : StrRow w' v ps := by
  rcases h with ⟨rfl, a, c, rfl⟩ | ⟨b, off, c, rfl, hl, hcap, hc⟩
  · exact Or.inl ⟨rfl, a, c, rfl⟩
  · refine Or.inr ⟨b, off, c, rfl, hl, hcap, fun j p hp => ?_⟩
    exact (hB.cell (p := ⟨b, off + j, none⟩) (World.block_lt_of_cell? w _ (hc j p hp))).trans (hc j p hp)

theorem ret_int {a b : Int} (h : a = b) : Ending.returned (.int .i64 a) = .returned (.int .i64 b) := by rw [h]

/-- What the size counts. -/
def SzOut (tot : Nat) (left : Nat) (e : Ending) : Prop := (tot ≤ left ∧ e = .returned (.int .i64 ((left : Int) - tot))) ∨ (left < tot ∧ e = .returned (.int .i64 (-1)))

/-- The first j cells of a row are the texts ps. -/
def Filled (w : World) (base : Nat) (v : Value) (n : Nat) (ps : List (List UInt8)) (j : Nat) : Prop := ∃ xs : List Value, w.ownsRow base 9 1 v n xs ∧ ∀ i p, i < j → ps[i]? = some p → xs[i]? = some (.string ⟨p.toArray⟩)

theorem Filled.cell {w : World} {base g cap : Nat} {n j : Nat} {ps : List (List UInt8)} (h : Filled w base (.slice (some ⟨g, 0, none⟩) n cap) n ps j) {i : Nat} (hi : i < n) : (∃ x, w.cell? ⟨g, i, none⟩ = some x) ∧ w.frozen? ⟨g, i, none⟩ = false := by
  obtain ⟨xs, ho, hx⟩ := h
  have hxl := ho.1
  refine ⟨⟨xs[i]'(by omega), ?_⟩, ho.frozenAt i⟩
  rw [ho.cellAt i (by omega), List.getElem?_eq_getElem (by omega)]
theorem Filled.store {w : World} {base g cap : Nat} {n j : Nat} {ps : List (List UInt8)} {p : List UInt8} (h : Filled w base (.slice (some ⟨g, 0, none⟩) n cap) n ps j) (hj : j < n) (hp : ps[j]? = some p) :
    Filled (w.setCell ⟨g, j, none⟩ (.string ⟨p.toArray⟩)) base (.slice (some ⟨g, 0, none⟩) n cap) n ps (j + 1) := by
  obtain ⟨xs, ho, hx⟩ := h
  have hs := ho.stored j (.string ⟨p.toArray⟩)
  have hxl := ho.1
  refine ⟨_, hs.1, fun i q hi hq => ?_⟩
  rw [List.getElem?_set]
  by_cases e : j = i
  · subst e
    rw [hp] at hq
    obtain rfl := Option.some.inj hq
    rw [if_pos rfl, if_pos (by omega)]
  · rw [if_neg e]
    exact hx i q (by omega) hq
theorem Filled.done {w : World} {base : Nat} {v : Value} {ps : List (List UInt8)} (h : Filled w base v ps.length ps ps.length) : w.ownsRow base 9 1 v ps.length (strCells ps) := by
  obtain ⟨xs, ho, hx⟩ := h
  have e : xs = strCells ps := by
    refine List.ext_getElem? fun i => ?_
    have hxl := ho.1
    by_cases hi : i < ps.length
    · rw [hx i ps[i] hi (List.getElem?_eq_getElem hi), strCells, List.getElem?_map, List.getElem?_eq_getElem hi]; rfl
    · rw [List.getElem?_eq_none (by omega), List.getElem?_eq_none (by rw [strCells_len]; omega)]
  rw [e] at ho
  exact ho

/-- The k-th mark. -/
def markOf (k : Nat) : List UInt8 := 109 :: Lib.decDigits k

theorem grown_of_below {w w' : World} (h : Below w.heap.size w w') (r : Option Nat) : w.grownBy w' r := ⟨h.os, h.tape, h.output, h.size, fun k hk _ => h.block k hk⟩

/-- The marks from k on, j of them. -/
def marks (k j : Nat) : List (List UInt8) := (List.range j).map fun i => markOf (k + i)
theorem marks_len (k j : Nat) : (marks k j).length = j := by simp [marks]
theorem marks_at {k j i : Nat} (h : i < j) : (marks k j)[i]? = some (markOf (k + i)) := by simp [marks, h]

/-- j of the row's cells are marked, the others are as they were. -/
def Marked (w : World) (base : Nat) (T : TypeId) (v : Value) (n k j : Nat) : Prop := ∃ xs : List Value, w.ownsRow base T 1 v n xs ∧ ∀ i, i < j → xs[i]? = some (.string ⟨(markOf (k + i)).toArray⟩)

theorem strRow_of_marked {w : World} {base : Nat} {T : TypeId} {v : Value} {n k : Nat} (h : Marked w base T v n k n) (hl : n ≤ 140737488355328) : StrRow w v (marks k n) := by
  obtain ⟨xs, ho, hx⟩ := h
  have e : xs = strCells (marks k n) := by
    refine List.ext_getElem? fun i => ?_
    by_cases hi : i < n
    · rw [hx i hi, strCells, List.getElem?_map, marks_at hi]; rfl
    · have hxl := ho.1
      rw [List.getElem?_eq_none (by omega), List.getElem?_eq_none (by rw [strCells_len, marks_len]; omega)]
  rw [e] at ho
  have hn := marks_len k n
  refine strRow_of_owns (base := base) (T := T) ?_ (by omega)
  rw [hn]
  exact ho

theorem Marked.below {w w' : World} {base : Nat} {T : TypeId} {v : Value} {n k j : Nat} (h : Marked w base T v n k j) (hB : Below w.heap.size w w') : Marked w' base T v n k j := by
  obtain ⟨xs, ho, hx⟩ := h
  exact ⟨xs, ho.kept (grown_of_below hB none) (by cases hv : v.ownBlock <;> simp), hx⟩
theorem Marked.store {w : World} {base g cap : Nat} {T : TypeId} {n k j : Nat} (h : Marked w base T (.slice (some ⟨g, 0, none⟩) n cap) n k j) (hj : j < n) :
    Marked (w.setCell ⟨g, j, none⟩ (.string ⟨(markOf (k + j)).toArray⟩)) base T (.slice (some ⟨g, 0, none⟩) n cap) n k (j + 1) ∧ w.grownBy (w.setCell ⟨g, j, none⟩ (.string ⟨(markOf (k + j)).toArray⟩)) (some g) := by
  obtain ⟨xs, ho, hx⟩ := h
  have hs := ho.stored j (.string ⟨(markOf (k + j)).toArray⟩)
  refine ⟨⟨_, hs.1, fun i hi => ?_⟩, hs.2⟩
  have hxl := ho.1
  rw [List.getElem?_set]
  by_cases e : j = i
  · subst e
    rw [if_pos rfl, if_pos (by omega)]
  · rw [if_neg e]
    exact hx i (by omega)
theorem Marked.cell {w : World} {base g cap : Nat} {T : TypeId} {n k j : Nat} (h : Marked w base T (.slice (some ⟨g, 0, none⟩) n cap) n k j) {i : Nat} (hi : i < n) : (∃ x, w.cell? ⟨g, i, none⟩ = some x) ∧ w.frozen? ⟨g, i, none⟩ = false := by
  obtain ⟨xs, ho, hx⟩ := h
  have hxl := ho.1
  refine ⟨⟨xs[i]'(by omega), ?_⟩, ho.frozenAt i⟩
  rw [ho.cellAt i (by omega), List.getElem?_eq_getElem (by omega)]

end Go.Proofs.YtnnbhgnllbjmeaaGreatDoor
namespace Go.Proofs.YtnnbhgnllbjmeaaGreatDoor
open Go.RowKit

/-- v is a row of the call's own, not nil, that holds the bytes l. -/
def ByRow (wr : World) (base : Nat) (v : Value) (l : List UInt8) : Prop := wr.ownsRow base 5 1 v l.length (Lib.byteCells l) ∧ ∃ g cap, v = .slice (some ⟨g, 0, none⟩) l.length cap

theorem byRow_conv {P : Program} {src dst e : TypeId} (hs : P.underlying src = some (.slice e)) (he : P.underlying e = some (.int .u8)) (hd : P.underlying dst = some .string) {wr : World} {base g n cap : Nat} {l : List UInt8}
    (h : ByRow wr base (.slice (some ⟨g, 0, none⟩) n cap) l) :
    (convert src dst (.slice (some ⟨g, 0, none⟩) n cap)).run P wr = .ok (.string ⟨l.toArray⟩) wr := by
  obtain ⟨ho, g', cap', he'⟩ := h
  injection he' with h1 h2 h3
  subst h2
  refine run_convert_bytes_back wr src dst e ⟨g, 0, none⟩ cap l hs he hd fun j hj => ?_
  have hc := ho.cells (g := g) rfl j (.int .u8 (l[j].toNat : Int)) (by unfold Lib.byteCells; rw [List.getElem?_map, List.getElem?_eq_getElem hj]; rfl)
  exact hc

theorem byRow_one {w1 : World} {base : Nat} {v1 : Value} {l : List UInt8} {c : UInt8} {z : Int} (hz : z = (c.toNat : Int)) (ho : w1.ownsRow base 5 1 v1 (l.length + 1) (Lib.byteCells l ++ [.int .u8 z])) : ByRow w1 base v1 (l ++ [c]) := by
  have e1 : (l ++ [c]).length = l.length + 1 := by simp
  have e2 : Lib.byteCells (l ++ [c]) = Lib.byteCells l ++ [.int .u8 z] := by simp [Lib.byteCells, hz]
  obtain ⟨g, cap, rfl⟩ := Joins.ownsRow_form ho (by omega)
  exact ⟨by rw [e1, e2]; exact ho, g, cap, by rw [e1]⟩
theorem byRow_str {wr w1 : World} {base : Nat} {v v1 : Value} {l : List UInt8} {s : ByteArray} (h : ByRow wr base v l) (ho : w1.ownsRow base 5 1 v1 (l.length + s.size) (Lib.byteCells l ++ Lib.strCells s)) (hn : v1 = .slice none 0 0 ↔ v = .slice none 0 0 ∧ s.size = 0) :
    ByRow w1 base v1 (l ++ s.data.toList) := by
  obtain ⟨_, g, cap, rfl⟩ := h
  have e1 : (l ++ s.data.toList).length = l.length + s.size := by rw [List.length_append, Lib.size_eq]
  have e2 : Lib.byteCells (l ++ s.data.toList) = Lib.byteCells l ++ Lib.strCells s := by rw [Lib.strCells_eq]; simp [Lib.byteCells]
  refine ⟨by rw [e1, e2]; exact ho, ?_⟩
  rw [e1]
  rcases ho.2 with ⟨h0, _⟩ | ⟨g', cap', cur, h0, _⟩
  · have := hn.1 h0
    cases this.1
  · exact ⟨g', cap', h0⟩
theorem byRow_strN {w1 : World} {base : Nat} {v1 : Value} {l : List UInt8} {s : ByteArray} (ho : w1.ownsRow base 5 1 v1 (l.length + s.size) (Lib.byteCells l ++ Lib.strCells s)) (hn : ¬ v1 = .slice none 0 0) :
    ByRow w1 base v1 (l ++ s.data.toList) := by
  have e1 : (l ++ s.data.toList).length = l.length + s.size := by rw [List.length_append, Lib.size_eq]
  have e2 : Lib.byteCells (l ++ s.data.toList) = Lib.byteCells l ++ Lib.strCells s := by rw [Lib.strCells_eq]; simp [Lib.byteCells]
  refine ⟨by rw [e1, e2]; exact ho, ?_⟩
  rw [e1]
  rcases ho.2 with ⟨h0, _⟩ | ⟨g', cap', cur, h0, _⟩
  · exact absurd h0 hn
  · exact ⟨g', cap', h0⟩
theorem byRow_made (w : World) : ByRow (w.alloc (.cells #[] 5)) w.heap.size (.slice (some ⟨w.heap.size, 0, none⟩) 0 0) [] :=
  ⟨World.ownsRow_made w #[] 0 (Nat.le_refl _) (by unfold maxLen; omega) (by simp), w.heap.size, 0, rfl⟩
theorem byRow_lit (w : World) (c : UInt8) (z : Int) (hz : z = (c.toNat : Int)) : ByRow (w.alloc (.cells #[.int .u8 z] 5)) w.heap.size (.slice (some ⟨w.heap.size, 0, none⟩) 1 1) [c] := by
  subst hz
  exact ⟨World.ownsRow_lit (size := 1) w #[.int .u8 (c.toNat : Int)] 1 (Nat.le_refl _) (by unfold maxLen; omega) (by simp), w.heap.size, 1, rfl⟩
theorem ByRow.below {w w' : World} {base : Nat} {v : Value} {l : List UInt8} (h : ByRow w base v l) (hB : Below w.heap.size w w') : ByRow w' base v l :=
  ⟨h.1.kept (grown_of_below hB none) (by cases hv : v.ownBlock <;> simp), h.2⟩
/-- Below is kept by an append of one byte. -/
theorem below_one {W wr w1 : World} {base : Nat} {T : TypeId} {v x : Value} {l : List UInt8} (hb : base ≤ wr.heap.size) (hB : Below base W wr) (ho : ByRow wr base v l) (hg : (wr.alloc (.cells #[x] T)).grownBy w1 v.ownBlock) : Below base W w1 :=
  (hB.alloc hb (.cells #[x] T)).grown hg (by simp; omega) (fun j hj => (ho.1.lt j hj).1)
theorem below_str {W wr w1 : World} {base : Nat} {v : Value} {l : List UInt8} (hb : base ≤ wr.heap.size) (hB : Below base W wr) (ho : ByRow wr base v l) (hg : wr.grownBy w1 v.ownBlock) : Below base W w1 :=
  hB.grown hg hb (fun j hj => (ho.1.lt j hj).1)
theorem byte_ne {a c : UInt8} (h : ¬ a = c) : ((a.toNat : Int) == (c.toNat : Int)) = false := by
  rw [beq_eq_false_iff_ne]
  intro e
  exact h (UInt8.toNat_inj.1 (by omega))
theorem byte_eq {a c : UInt8} (h : a = c) : ((a.toNat : Int) == (c.toNat : Int)) = true := by rw [h]; simp
theorem at_list {s : ByteArray} {k : Nat} (h : k < s.size) : s.data.toList[k]? = some s[k] := by
  rw [List.getElem?_eq_getElem (by rw [← Lib.size_eq]; exact h)]
  simp
  rfl
theorem take_at {s : ByteArray} {k : Nat} (h : k < s.size) : s.data.toList.take (k + 1) = s.data.toList.take k ++ [s[k]] := by
  rw [List.take_add_one, at_list h]
  rfl
theorem take_all (s : ByteArray) : s.data.toList.take s.size = s.data.toList := List.take_of_length_le (by rw [← Lib.size_eq]; exact Nat.le_refl _)
end Go.Proofs.YtnnbhgnllbjmeaaGreatDoor
namespace Go.Proofs.YtnnbhgnllbjmeaaGreatDoor
open Go.RowKit

/-- The separator of one byte. -/
theorem sep_one (c : UInt8) : (⟨[UInt8.ofNat c.toNat].toArray⟩ : ByteArray).data.toList = [c] := by simp

/-- A row that is made whole. -/
theorem ownsRow_whole {w : World} {base : Nat} {T : TypeId} (xs : List Value) (n : Nat) (hn : n = xs.length) (hb : base ≤ w.heap.size) (hm : n ≤ maxLen) :
    (w.alloc (.cells xs.toArray T)).ownsRow base T 1 (.slice (some ⟨w.heap.size, 0, none⟩) n n) n xs :=
  ⟨by omega, Or.inr ⟨w.heap.size, n, xs.toArray, rfl, hb, heap_alloc_new w _, Nat.le_refl _, hm, by simp; omega, by subst hn; simp⟩⟩

set_option maxRecDepth 100000 in
theorem implParts (s : ByteArray) (c : UInt8) (m : Int) (w : World) (hsz : s.size ≤ 1048576) (hm : w.cell? ⟨0, 0, none⟩ = some (.int .i64 m)) :
    Calls Tryz.prog 33 #[.string s, .int .u8 (c.toNat : Int)] w fun e w' => ∃ v, e = .returned v ∧ w'.ownsRow w.heap.size 9 1 v (partsL c s.data.toList).length (strCells (partsL c s.data.toList)) ∧ Below w.heap.size w w' := by
  have kc := conv_one Tryz.underlying22 Tryz.underlying5 Tryz.underlying9 c.toNat (by have := c.toNat_lt; omega) (c.toNat : Int) rfl 1
  have hm1 : (w.alloc (.cells #[.int .u8 (c.toNat : Int)] 5)).cell? ⟨0, 0, none⟩ = some (.int .i64 m) := by
    rw [← hm]; exact ((Below.refl w.heap.size w).alloc (Nat.le_refl _) _).cell (World.block_lt_of_cell? w _ hm)
  go_enter Tryz.func33, Tryz.ntmps33
  go_wp2_with fail
  refine (Tryz.strings_Split s ⟨#[c]⟩ m _ (by omega) hm1 (Nat.le_refl 1)).mono ?_
  rintro e w1 ⟨rfl, rfl⟩
  go_wp2_with fail
  go_ret
  have hn := countB_parts s ⟨#[c]⟩ c rfl
  have hl := parts_len (c := c) s.data.toList
  have hln : s.data.toList.length = s.size := (Lib.size_eq s).symm
  refine ⟨_, rfl, ?_, ((Below.refl _ _).alloc (Nat.le_refl _) _).alloc (by simp) _⟩
  rw [splitB_cells s ⟨#[c]⟩ c rfl, hn]
  have h := ownsRow_whole (w := w.alloc (.cells #[.int .u8 (c.toNat : Int)] 5)) (base := w.heap.size) (T := 9) (strCells (partsL c s.data.toList)) _ (strCells_len _).symm (by simp) (by unfold maxLen; omega)
  have e : (w.alloc (.cells #[.int .u8 (c.toNat : Int)] 5)).heap.size = w.heap.size + 1 := by simp
  rw [e] at h
  exact h
end Go.Proofs.YtnnbhgnllbjmeaaGreatDoor
namespace Go.Proofs.YtnnbhgnllbjmeaaGreatDoor
open Go.RowKit

/-- What the join owns so far: a row of bytes, not nil. -/
def JoinRow (wr : World) (base : Nat) (v : Value) (l : List UInt8) : Prop := wr.ownsRow base 5 1 v l.length (Lib.byteCells l) ∧ ∃ g cap, v = .slice (some ⟨g, 0, none⟩) l.length cap

theorem joinRow_conv {P : Program} {src dst e : TypeId} (hs : P.underlying src = some (.slice e)) (he : P.underlying e = some (.int .u8)) (hd : P.underlying dst = some .string) {wr : World} {base g cap : Nat} {l : List UInt8}
    (h : wr.ownsRow base 5 1 (.slice (some ⟨g, 0, none⟩) l.length cap) l.length (Lib.byteCells l)) :
    (convert src dst (.slice (some ⟨g, 0, none⟩) l.length cap)).run P wr = .ok (.string ⟨l.toArray⟩) wr := by
  refine run_convert_bytes_back wr src dst e ⟨g, 0, none⟩ cap l hs he hd fun j hj => ?_
  have hc := h.cells (g := g) rfl j (.int .u8 (l[j].toNat : Int)) (by unfold Lib.byteCells; rw [List.getElem?_map, List.getElem?_eq_getElem hj]; rfl)
  exact hc

theorem size_toArr (p : List UInt8) : (⟨p.toArray⟩ : ByteArray).size = p.length := by simp [ByteArray.size]
theorem nil_fix {v1 v : Value} {p : List UInt8} (h : v1 = .slice none 0 0 ↔ v = .slice none 0 0 ∧ p = []) : v1 = .slice none 0 0 ↔ v = .slice none 0 0 ∧ (⟨p.toArray⟩ : ByteArray).size = 0 := by
  rw [h, size_toArr, List.length_eq_zero_iff]

theorem nil_fix2 {v1 v : Value} {s : ByteArray} (h : v1 = .slice none 0 0 ↔ v = .slice none 0 0 ∧ s = ByteArray.empty) : v1 = .slice none 0 0 ↔ v = .slice none 0 0 ∧ s.size = 0 := by
  rw [h, ByteArray.size_eq_zero_iff]

theorem joinRow_app {wr w1 : World} {base : Nat} {v v1 : Value} {l : List UInt8} {s : ByteArray} (h : JoinRow wr base v l) (ho : w1.ownsRow base 5 1 v1 (l.length + s.size) (Lib.byteCells l ++ Lib.strCells s)) (hn : v1 = .slice none 0 0 ↔ v = .slice none 0 0 ∧ s.size = 0) :
    JoinRow w1 base v1 (l ++ s.data.toList) := by
  obtain ⟨_, g, cap, rfl⟩ := h
  have e1 : (l ++ s.data.toList).length = l.length + s.size := by rw [List.length_append, Lib.size_eq]
  have e2 : Lib.byteCells (l ++ s.data.toList) = Lib.byteCells l ++ Lib.strCells s := by rw [Lib.strCells_eq]; simp [Lib.byteCells]
  refine ⟨by rw [e1, e2]; exact ho, ?_⟩
  rw [e1]
  rcases ho.2 with ⟨h0, _⟩ | ⟨g', cap', cur, h0, _⟩
  · have := hn.1 h0
    cases this.1
  · exact ⟨g', cap', h0⟩

set_option maxRecDepth 100000 in
set_option maxHeartbeats 2000000 in
theorem specJoined_some (w : World) (b off c : Nat) (ps : List (List UInt8)) (sep : ByteArray) (hl : ps.length ≤ 1048576) (hlen : (Lib.join ps sep.data.toList).length ≤ 140737488355328)
    (hc : ∀ (j : Nat) p, ps[j]? = some p → w.cell? ⟨b, off + j, none⟩ = some (.string ⟨p.toArray⟩)) :
    Calls Tryz.prog 18 #[.slice (some ⟨b, off, none⟩) ps.length c, .string sep] w fun e w' => e = .returned (.string ⟨(Lib.join ps sep.data.toList).toArray⟩) ∧ Below w.heap.size w w' := by
  obtain ⟨i0, hi, hz0, hz1, hz2⟩ := info_parts infoU8
  have HC := Lib.hid hc
  clear hc
  obtain ⟨n, hn⟩ : ∃ n : Nat, ps.length = n := ⟨_, rfl⟩
  rw [hn] at hl ⊢
  have HE := Lib.hid hn
  have HL := Lib.hid hlen
  clear hn hlen
  go_enter Tryz.func18, Tryz.ntmps18
  go_wp2_with fail
  go_loopw [5, 6] (fun v i wr => ∃ (j : Nat), j ≤ n ∧ i = .int .i64 j ∧ JoinRow wr w.heap.size v (Lib.join (ps.take j) sep.data.toList) ∧ Below w.heap.size w wr) (fun _ i _ => n - (intOf i).toNat)
  case atStart => exact ⟨0, Nat.zero_le _, rfl, ⟨World.ownsRow_made w #[] 0 (Nat.le_refl _) (by unfold maxLen; omega) (by simp), _, _, rfl⟩, (Below.refl _ _).alloc (Nat.le_refl _) _⟩
  case round =>
    obtain ⟨j, hj, rfl, hJ, hB⟩ := hrel
    by_cases hlt : j < n
    · have hj1 : (j : Int) < n := by omega
      have hj0 : (0 : Int) ≤ j := by omega
      obtain ⟨p, hp⟩ : ∃ p, ps[j]? = some p := ⟨_, List.getElem?_eq_getElem (by rw [HE.out]; exact hlt)⟩
      have hcj0 := HC.out j p hp
      have hbw := World.block_lt_of_cell? w _ hcj0
      have hcj := (hB.cell (p := ⟨b, off + j, none⟩) hbw).trans hcj0
      have hle : (Lib.join (ps.take (j + 1)) sep.data.toList).length ≤ 140737488355328 := Nat.le_trans (join_take_le ps _ _) HL.out
      by_cases hz : j = 0
      · have HJ1 : Hid (Lib.join (ps.take (j + 1)) sep.data.toList = Lib.join (ps.take j) sep.data.toList ++ p) := by
          show Lib.join (ps.take (j + 1)) sep.data.toList = Lib.join (ps.take j) sep.data.toList ++ p
          subst hz
          rw [join_take_one hp]; simp [Lib.join_nil]
        have hz0' : ¬ (0 : Int) < j := by omega
        have hll := congrArg List.length HJ1.out
        rw [List.length_append] at hll
        clear hz
        generalize Lib.join (ps.take j) sep.data.toList = l at hJ HJ1 hll
        have hown := hJ.1
        have HLL := Lib.hid hll
        have hb1 : l.length + p.length ≤ 140737488355328 := by omega
        clear hll hp hcj0 hle
        go_wp2_with (at_builtin; refine Lib.wpList_append_own_string _ rfl _ _ 22 9 rfl w.heap.size 5 i0 Tryz.underlying22 Tryz.underlying9 hi hz0 hz1 hz2 _ _ _ rfl hown ⟨p.toArray⟩ rfl ?a1 ?a2 ?a3 ?_)
        case a1 => unfold maxLen; simp; omega
        try (case a2 => simp; omega)
        case a3 => exact hB.size
        intro v1 w1 hown1 hg1 hnil
        have HR := Lib.hid (joinRow_app hJ hown1 (nil_fix hnil))
        have HB := Lib.hid (hB.grown hg1 hB.size (fun k hk => (hown.lt k hk).1))
        clear hown1 hg1 hnil hown hJ hB
        go_wp2_with fail
        go_roundw
        case rel => exact ⟨j + 1, by omega, by go_num, by rw [HJ1.out]; exact HR.out, HB.out⟩
        case measure => simp [intOf]; omega
      · have HJ1 : Hid (Lib.join (ps.take (j + 1)) sep.data.toList = Lib.join (ps.take j) sep.data.toList ++ sep.data.toList ++ p) := join_take_succ (by omega) hp
        have hz0' : (0 : Int) < j := by omega
        have hll := congrArg List.length HJ1.out
        rw [List.length_append, List.length_append] at hll
        have hss : sep.data.toList.length = sep.size := (Lib.size_eq sep).symm
        rw [hss] at hll
        have HP := Lib.hid hp
        clear hz
        generalize Lib.join (ps.take j) sep.data.toList = l at hJ HJ1 hll
        have hown := hJ.1
        have hb1 : l.length + sep.size + p.length ≤ 140737488355328 := by omega
        clear hll hp hcj0 hle
        go_wp2_with (at_builtin; go_loud (refine Lib.wpList_append_own_string _ rfl _ _ 22 9 rfl w.heap.size 5 i0 Tryz.underlying22 Tryz.underlying9 hi hz0 hz1 hz2 _ _ _ rfl hown sep rfl ?b1 ?b2 ?b3 ?_))
        case b1 => unfold maxLen; omega
        try (case b2 => omega)
        case b3 => exact hB.size
        intro v1 w1 hown1 hg1 hnil
        have hJ2 := joinRow_app hJ hown1 (nil_fix2 hnil)
        have hB2 := hB.grown hg1 hB.size (fun k hk => (hown.lt k hk).1)
        have hcj2 := (hB2.cell (p := ⟨b, off + j, none⟩) hbw).trans (HC.out j p HP.out)
        have hown2 := hJ2.1
        have hb2 : (l ++ sep.data.toList).length + p.length ≤ 140737488355328 := by rw [List.length_append, hss]; omega
        have HB2 := Lib.hid hb2
        clear hown1 hg1 hnil hown hJ hB hcj hb1 hb2 hss
        generalize l ++ sep.data.toList = l2 at hJ2 hown2 HB2 HJ1
        have hb2 := HB2.out
        go_wp2_with (at_builtin; go_loud (refine Lib.wpList_append_own_string _ rfl _ _ 22 9 rfl w.heap.size 5 i0 Tryz.underlying22 Tryz.underlying9 hi hz0 hz1 hz2 _ _ _ rfl hown2 ⟨p.toArray⟩ rfl ?d1 ?d2 ?d3 ?_))
        case d1 => rw [size_toArr]; unfold maxLen; omega
        case d2 => rw [size_toArr]; omega
        case d3 => exact hB2.size
        intro v3 w3 hown3 hg3 hnil3
        have HR := Lib.hid (joinRow_app hJ2 hown3 (nil_fix hnil3))
        have HB := Lib.hid (hB2.grown hg3 hB2.size (fun k hk => (hown2.lt k hk).1))
        clear hown3 hg3 hnil3 hown2 hJ2 hB2
        go_wp2_with fail
        go_roundw
        case rel => exact ⟨j + 1, by omega, by go_num, by rw [HJ1.out]; exact HR.out, HB.out⟩
        case measure => simp [intOf]; omega
    · obtain rfl : j = n := by omega
      have hj1 : ¬ (j : Int) < j := by omega
      have e : ps.take j = ps := List.take_of_length_le (by rw [HE.out]; exact Nat.le_refl _)
      rw [e] at hJ
      obtain ⟨ho, g, cap, rfl⟩ := hJ
      have kc := joinRow_conv Tryz.underlying22 Tryz.underlying5 Tryz.underlying9 ho
      clear e
      go_wp2_with fail
      go_ret
      exact ⟨rfl, hB⟩

set_option maxRecDepth 100000 in
theorem specJoined_zero (w : World) (a : Option Addr) (c : Nat) (sep : ByteArray) :
    Calls Tryz.prog 18 #[.slice a 0 c, .string sep] w fun e w' => e = .returned (.string ⟨#[]⟩) ∧ Below w.heap.size w w' := by
  have kc : (convert 22 9 (.slice (some ⟨w.heap.size, 0, none⟩) 0 0)).run Tryz.prog (w.alloc (.cells #[] 5)) = .ok (.string ⟨#[]⟩) (w.alloc (.cells #[] 5)) :=
    joinRow_conv Tryz.underlying22 Tryz.underlying5 Tryz.underlying9 (l := []) (World.ownsRow_made (base := w.heap.size) (e := 5) (size := 1) w #[] 0 (Nat.le_refl _) (by unfold maxLen; omega) (by simp))
  go_enter Tryz.func18, Tryz.ntmps18
  go_wp2_with fail
  go_loop [5, 6] (fun v i => i = .int .i64 0 ∧ v = .slice (some ⟨w.heap.size, 0, none⟩) 0 0) (fun _ _ => 0)
  case atStart => exact ⟨rfl, rfl⟩
  case round =>
    obtain ⟨rfl, rfl⟩ := hrel
    go_wp2_with fail
    go_ret
    exact ⟨rfl, (Below.refl _ _).alloc (Nat.le_refl _) _⟩

/-- WHAT spec.Joined ANSWERS. -/
theorem specJoined (w : World) (v : Value) (ps : List (List UInt8)) (sep : ByteArray) (h : StrRow w v ps) (hl : ps.length ≤ 1048576) (hlen : (Lib.join ps sep.data.toList).length ≤ 140737488355328) :
    Calls Tryz.prog 18 #[v, .string sep] w fun e w' => e = .returned (.string ⟨(Lib.join ps sep.data.toList).toArray⟩) ∧ Below w.heap.size w w' := by
  rcases h with ⟨rfl, a, c, rfl⟩ | ⟨b, off, c, rfl, _, _, hc⟩
  · exact specJoined_zero w a c sep
  · exact specJoined_some w b off c ps sep hl hlen hc

end Go.Proofs.YtnnbhgnllbjmeaaGreatDoor
