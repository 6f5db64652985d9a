/-
  What spec.Joined answers, over lists of texts as RowS has them.
-/
import Derived.Test.YtnnbhgnllbjmeaaDoorRowS
import Derived.Test.YtnnbhgnllbjmeaaDoorJoinM
import Derived.Deep.QuietTactic
import Derived.BigQuiet
import Derived.RegionTactic
import Derived.Lib.AppendStr
import Derived.Lib.UnsafeStr
import Derived.Laws.IdiomStrings
import Derived.Laws.BytesArg
namespace Go.Proofs.YtnnbhgnllbjmeaaDoor
open Go.RowKit

/-- What the join owns so far: a row of bytes, not nil. -/
def JoinRow (wr : World) (base : Nat) (v : Value) (l : List UInt8) : Prop := wr.ownsRow base 5 1 v l.length (Lib.byteCells l) ∧ ∃ g cap, v = .slice (some ⟨g, 0, none⟩) l.length cap

theorem joinRow_conv {P : Program} {src dst e : TypeId} (hs : P.underlying src = some (.slice e)) (he : P.underlying e = some (.int .u8)) (hd : P.underlying dst = some .string) {wr : World} {base g cap : Nat} {l : List UInt8}
    (h : wr.ownsRow base 5 1 (.slice (some ⟨g, 0, none⟩) l.length cap) l.length (Lib.byteCells l)) :
    (convert src dst (.slice (some ⟨g, 0, none⟩) l.length cap)).run P wr = .ok (.string ⟨l.toArray⟩) wr := by
  refine run_convert_bytes_back wr src dst e ⟨g, 0, none⟩ cap l hs he hd fun j hj => ?_
  have hc := h.cells (g := g) rfl j (.int .u8 (l[j].toNat : Int)) (by unfold Lib.byteCells; rw [List.getElem?_map, List.getElem?_eq_getElem hj]; rfl)
  exact hc

theorem size_toArr (p : List UInt8) : (⟨p.toArray⟩ : ByteArray).size = p.length := by simp [ByteArray.size]
theorem nil_fix {v1 v : Value} {p : List UInt8} (h : v1 = .slice none 0 0 ↔ v = .slice none 0 0 ∧ p = []) : v1 = .slice none 0 0 ↔ v = .slice none 0 0 ∧ (⟨p.toArray⟩ : ByteArray).size = 0 := by
  rw [h, size_toArr, List.length_eq_zero_iff]

theorem nil_fix2 {v1 v : Value} {s : ByteArray} (h : v1 = .slice none 0 0 ↔ v = .slice none 0 0 ∧ s = ByteArray.empty) : v1 = .slice none 0 0 ↔ v = .slice none 0 0 ∧ s.size = 0 := by
  rw [h, ByteArray.size_eq_zero_iff]

theorem joinRow_app {wr w1 : World} {base : Nat} {v v1 : Value} {l : List UInt8} {s : ByteArray} (h : JoinRow wr base v l) (ho : w1.ownsRow base 5 1 v1 (l.length + s.size) (Lib.byteCells l ++ Lib.strCells s)) (hn : v1 = .slice none 0 0 ↔ v = .slice none 0 0 ∧ s.size = 0) :
    JoinRow w1 base v1 (l ++ s.data.toList) := by
  obtain ⟨_, g, cap, rfl⟩ := h
  have e1 : (l ++ s.data.toList).length = l.length + s.size := by rw [List.length_append, Lib.size_eq]
  have e2 : Lib.byteCells (l ++ s.data.toList) = Lib.byteCells l ++ Lib.strCells s := by rw [Lib.strCells_eq]; simp [Lib.byteCells]
  refine ⟨by rw [e1, e2]; exact ho, ?_⟩
  rw [e1]
  rcases ho.2 with ⟨h0, _⟩ | ⟨g', cap', cur, h0, _⟩
  · have := hn.1 h0
    cases this.1
  · exact ⟨g', cap', h0⟩

set_option maxRecDepth 100000 in
set_option maxHeartbeats 2000000 in
theorem specJoined_some (w : World) (b off c : Nat) (ps : List (List UInt8)) (sep : ByteArray) (hl : ps.length ≤ 1048576) (hlen : (Lib.join ps sep.data.toList).length ≤ 140737488355328)
    (hc : ∀ (j : Nat) p, ps[j]? = some p → w.cell? ⟨b, off + j, none⟩ = some (.string ⟨p.toArray⟩)) :
    Calls Tryd.prog 20 #[.slice (some ⟨b, off, none⟩) ps.length c, .string sep] w fun e w' => e = .returned (.string ⟨(Lib.join ps sep.data.toList).toArray⟩) ∧ Below w.heap.size w w' := by
  obtain ⟨i0, hi, hz0, hz1, hz2⟩ := info_parts infoU8
  have HC := Lib.hid hc
  clear hc
  obtain ⟨n, hn⟩ : ∃ n : Nat, ps.length = n := ⟨_, rfl⟩
  rw [hn] at hl ⊢
  have HE := Lib.hid hn
  have HL := Lib.hid hlen
  clear hn hlen
  go_enter Tryd.func20, Tryd.ntmps20
  go_wp2_with fail
  go_loopw [5, 6] (fun v i wr => ∃ (j : Nat), j ≤ n ∧ i = .int .i64 j ∧ JoinRow wr w.heap.size v (Lib.join (ps.take j) sep.data.toList) ∧ Below w.heap.size w wr) (fun _ i _ => n - (intOf i).toNat)
  case atStart => exact ⟨0, Nat.zero_le _, rfl, ⟨World.ownsRow_made w #[] 0 (Nat.le_refl _) (by unfold maxLen; omega) (by simp), _, _, rfl⟩, (Below.refl _ _).alloc (Nat.le_refl _) _⟩
  case round =>
    obtain ⟨j, hj, rfl, hJ, hB⟩ := hrel
    by_cases hlt : j < n
    · have hj1 : (j : Int) < n := by omega
      have hj0 : (0 : Int) ≤ j := by omega
      obtain ⟨p, hp⟩ : ∃ p, ps[j]? = some p := ⟨_, List.getElem?_eq_getElem (by rw [HE.out]; exact hlt)⟩
      have hcj0 := HC.out j p hp
      have hbw := World.block_lt_of_cell? w _ hcj0
      have hcj := (hB.cell (p := ⟨b, off + j, none⟩) hbw).trans hcj0
      have hle : (Lib.join (ps.take (j + 1)) sep.data.toList).length ≤ 140737488355328 := Nat.le_trans (join_take_le ps _ _) HL.out
      by_cases hz : j = 0
      · have HJ1 : Hid (Lib.join (ps.take (j + 1)) sep.data.toList = Lib.join (ps.take j) sep.data.toList ++ p) := by
          show Lib.join (ps.take (j + 1)) sep.data.toList = Lib.join (ps.take j) sep.data.toList ++ p
          subst hz
          rw [join_take_one hp]; simp [Lib.join_nil]
        have hz0' : ¬ (0 : Int) < j := by omega
        have hll := congrArg List.length HJ1.out
        rw [List.length_append] at hll
        clear hz
        generalize Lib.join (ps.take j) sep.data.toList = l at hJ HJ1 hll
        have hown := hJ.1
        have HLL := Lib.hid hll
        have hb1 : l.length + p.length ≤ 140737488355328 := by omega
        clear hll hp hcj0 hle
        go_wp2_with (at_builtin; refine Lib.wpList_append_own_string _ rfl _ _ 49 9 rfl w.heap.size 5 i0 Tryd.underlying49 Tryd.underlying9 hi hz0 hz1 hz2 _ _ _ rfl hown ⟨p.toArray⟩ rfl ?a1 ?a2 ?a3 ?_)
        case a1 => unfold maxLen; simp; omega
        try (case a2 => simp; omega)
        case a3 => exact hB.size
        intro v1 w1 hown1 hg1 hnil
        have HR := Lib.hid (joinRow_app hJ hown1 (nil_fix hnil))
        have HB := Lib.hid (hB.grown hg1 hB.size (fun k hk => (hown.lt k hk).1))
        clear hown1 hg1 hnil hown hJ hB
        go_wp2_with fail
        go_roundw
        case rel => exact ⟨j + 1, by omega, by go_num, by rw [HJ1.out]; exact HR.out, HB.out⟩
        case measure => simp [intOf]; omega
      · have HJ1 : Hid (Lib.join (ps.take (j + 1)) sep.data.toList = Lib.join (ps.take j) sep.data.toList ++ sep.data.toList ++ p) := join_take_succ (by omega) hp
        have hz0' : (0 : Int) < j := by omega
        have hll := congrArg List.length HJ1.out
        rw [List.length_append, List.length_append] at hll
        have hss : sep.data.toList.length = sep.size := (Lib.size_eq sep).symm
        rw [hss] at hll
        have HP := Lib.hid hp
        clear hz
        generalize Lib.join (ps.take j) sep.data.toList = l at hJ HJ1 hll
        have hown := hJ.1
        have hb1 : l.length + sep.size + p.length ≤ 140737488355328 := by omega
        clear hll hp hcj0 hle
        go_wp2_with (at_builtin; go_loud (refine Lib.wpList_append_own_string _ rfl _ _ 49 9 rfl w.heap.size 5 i0 Tryd.underlying49 Tryd.underlying9 hi hz0 hz1 hz2 _ _ _ rfl hown sep rfl ?b1 ?b2 ?b3 ?_))
        case b1 => unfold maxLen; omega
        try (case b2 => omega)
        case b3 => exact hB.size
        intro v1 w1 hown1 hg1 hnil
        have hJ2 := joinRow_app hJ hown1 (nil_fix2 hnil)
        have hB2 := hB.grown hg1 hB.size (fun k hk => (hown.lt k hk).1)
        have hcj2 := (hB2.cell (p := ⟨b, off + j, none⟩) hbw).trans (HC.out j p HP.out)
        have hown2 := hJ2.1
        have hb2 : (l ++ sep.data.toList).length + p.length ≤ 140737488355328 := by rw [List.length_append, hss]; omega
        have HB2 := Lib.hid hb2
        clear hown1 hg1 hnil hown hJ hB hcj hb1 hb2 hss
        generalize l ++ sep.data.toList = l2 at hJ2 hown2 HB2 HJ1
        have hb2 := HB2.out
        go_wp2_with (at_builtin; go_loud (refine Lib.wpList_append_own_string _ rfl _ _ 49 9 rfl w.heap.size 5 i0 Tryd.underlying49 Tryd.underlying9 hi hz0 hz1 hz2 _ _ _ rfl hown2 ⟨p.toArray⟩ rfl ?d1 ?d2 ?d3 ?_))
        case d1 => rw [size_toArr]; unfold maxLen; omega
        case d2 => rw [size_toArr]; omega
        case d3 => exact hB2.size
        intro v3 w3 hown3 hg3 hnil3
        have HR := Lib.hid (joinRow_app hJ2 hown3 (nil_fix hnil3))
        have HB := Lib.hid (hB2.grown hg3 hB2.size (fun k hk => (hown2.lt k hk).1))
        clear hown3 hg3 hnil3 hown2 hJ2 hB2
        go_wp2_with fail
        go_roundw
        case rel => exact ⟨j + 1, by omega, by go_num, by rw [HJ1.out]; exact HR.out, HB.out⟩
        case measure => simp [intOf]; omega
    · obtain rfl : j = n := by omega
      have hj1 : ¬ (j : Int) < j := by omega
      have e : ps.take j = ps := List.take_of_length_le (by rw [HE.out]; exact Nat.le_refl _)
      rw [e] at hJ
      obtain ⟨ho, g, cap, rfl⟩ := hJ
      have kc := joinRow_conv Tryd.underlying49 Tryd.underlying5 Tryd.underlying9 ho
      clear e
      go_wp2_with fail
      go_ret
      exact ⟨rfl, hB⟩

set_option maxRecDepth 100000 in
theorem specJoined_zero (w : World) (a : Option Addr) (c : Nat) (sep : ByteArray) :
    Calls Tryd.prog 20 #[.slice a 0 c, .string sep] w fun e w' => e = .returned (.string ⟨#[]⟩) ∧ Below w.heap.size w w' := by
  have kc : (convert 49 9 (.slice (some ⟨w.heap.size, 0, none⟩) 0 0)).run Tryd.prog (w.alloc (.cells #[] 5)) = .ok (.string ⟨#[]⟩) (w.alloc (.cells #[] 5)) :=
    joinRow_conv Tryd.underlying49 Tryd.underlying5 Tryd.underlying9 (l := []) (World.ownsRow_made (base := w.heap.size) (e := 5) (size := 1) w #[] 0 (Nat.le_refl _) (by unfold maxLen; omega) (by simp))
  go_enter Tryd.func20, Tryd.ntmps20
  go_wp2_with fail
  go_loop [5, 6] (fun v i => i = .int .i64 0 ∧ v = .slice (some ⟨w.heap.size, 0, none⟩) 0 0) (fun _ _ => 0)
  case atStart => exact ⟨rfl, rfl⟩
  case round =>
    obtain ⟨rfl, rfl⟩ := hrel
    go_wp2_with fail
    go_ret
    exact ⟨rfl, (Below.refl _ _).alloc (Nat.le_refl _) _⟩

/-- WHAT spec.Joined ANSWERS. -/
theorem specJoined (w : World) (v : Value) (ps : List (List UInt8)) (sep : ByteArray) (h : StrRow w v ps) (hl : ps.length ≤ 1048576) (hlen : (Lib.join ps sep.data.toList).length ≤ 140737488355328) :
    Calls Tryd.prog 20 #[v, .string sep] w fun e w' => e = .returned (.string ⟨(Lib.join ps sep.data.toList).toArray⟩) ∧ Below w.heap.size w w' := by
  rcases h with ⟨rfl, a, c, rfl⟩ | ⟨b, off, c, rfl, _, _, hc⟩
  · exact specJoined_zero w a c sep
  · exact specJoined_some w b off c ps sep hl hlen hc

end Go.Proofs.YtnnbhgnllbjmeaaDoor
