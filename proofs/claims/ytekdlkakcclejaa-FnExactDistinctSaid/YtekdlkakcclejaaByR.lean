/-
  Bytes that a call gathers in a slice of its own.
-/
import Derived.Test.YtekdlkakcclejaaBas
import Derived.Test.YtekdlkakcclejaaRowS
import Derived.Lib.UnsafeStr
namespace Go.Proofs.Ytekdlkakcclejaa
open Go.RowKit

/-- v is a row of the call's own, not nil, that holds the bytes l. -/
def ByRow (wr : World) (base : Nat) (v : Value) (l : List UInt8) : Prop := wr.ownsRow base 5 1 v l.length (Lib.byteCells l) ∧ ∃ g cap, v = .slice (some ⟨g, 0, none⟩) l.length cap

theorem byRow_conv {P : Program} {src dst e : TypeId} (hs : P.underlying src = some (.slice e)) (he : P.underlying e = some (.int .u8)) (hd : P.underlying dst = some .string) {wr : World} {base g n cap : Nat} {l : List UInt8}
    (h : ByRow wr base (.slice (some ⟨g, 0, none⟩) n cap) l) :
    (convert src dst (.slice (some ⟨g, 0, none⟩) n cap)).run P wr = .ok (.string ⟨l.toArray⟩) wr := by
  obtain ⟨ho, g', cap', he'⟩ := h
  injection he' with h1 h2 h3
  subst h2
  refine run_convert_bytes_back wr src dst e ⟨g, 0, none⟩ cap l hs he hd fun j hj => ?_
  have hc := ho.cells (g := g) rfl j (.int .u8 (l[j].toNat : Int)) (by unfold Lib.byteCells; rw [List.getElem?_map, List.getElem?_eq_getElem hj]; rfl)
  exact hc

theorem byRow_one {w1 : World} {base : Nat} {v1 : Value} {l : List UInt8} {c : UInt8} {z : Int} (hz : z = (c.toNat : Int)) (ho : w1.ownsRow base 5 1 v1 (l.length + 1) (Lib.byteCells l ++ [.int .u8 z])) : ByRow w1 base v1 (l ++ [c]) := by
  have e1 : (l ++ [c]).length = l.length + 1 := by simp
  have e2 : Lib.byteCells (l ++ [c]) = Lib.byteCells l ++ [.int .u8 z] := by simp [Lib.byteCells, hz]
  obtain ⟨g, cap, rfl⟩ := Joins.ownsRow_form ho (by omega)
  exact ⟨by rw [e1, e2]; exact ho, g, cap, by rw [e1]⟩
theorem byRow_str {wr w1 : World} {base : Nat} {v v1 : Value} {l : List UInt8} {s : ByteArray} (h : ByRow wr base v l) (ho : w1.ownsRow base 5 1 v1 (l.length + s.size) (Lib.byteCells l ++ Lib.strCells s)) (hn : v1 = .slice none 0 0 ↔ v = .slice none 0 0 ∧ s.size = 0) :
    ByRow w1 base v1 (l ++ s.data.toList) := by
  obtain ⟨_, g, cap, rfl⟩ := h
  have e1 : (l ++ s.data.toList).length = l.length + s.size := by rw [List.length_append, Lib.size_eq]
  have e2 : Lib.byteCells (l ++ s.data.toList) = Lib.byteCells l ++ Lib.strCells s := by rw [Lib.strCells_eq]; simp [Lib.byteCells]
  refine ⟨by rw [e1, e2]; exact ho, ?_⟩
  rw [e1]
  rcases ho.2 with ⟨h0, _⟩ | ⟨g', cap', cur, h0, _⟩
  · have := hn.1 h0
    cases this.1
  · exact ⟨g', cap', h0⟩
theorem byRow_strN {w1 : World} {base : Nat} {v1 : Value} {l : List UInt8} {s : ByteArray} (ho : w1.ownsRow base 5 1 v1 (l.length + s.size) (Lib.byteCells l ++ Lib.strCells s)) (hn : ¬ v1 = .slice none 0 0) :
    ByRow w1 base v1 (l ++ s.data.toList) := by
  have e1 : (l ++ s.data.toList).length = l.length + s.size := by rw [List.length_append, Lib.size_eq]
  have e2 : Lib.byteCells (l ++ s.data.toList) = Lib.byteCells l ++ Lib.strCells s := by rw [Lib.strCells_eq]; simp [Lib.byteCells]
  refine ⟨by rw [e1, e2]; exact ho, ?_⟩
  rw [e1]
  rcases ho.2 with ⟨h0, _⟩ | ⟨g', cap', cur, h0, _⟩
  · exact absurd h0 hn
  · exact ⟨g', cap', h0⟩
theorem byRow_made (w : World) : ByRow (w.alloc (.cells #[] 5)) w.heap.size (.slice (some ⟨w.heap.size, 0, none⟩) 0 0) [] :=
  ⟨World.ownsRow_made w #[] 0 (Nat.le_refl _) (by unfold maxLen; omega) (by simp), w.heap.size, 0, rfl⟩
theorem byRow_lit (w : World) (c : UInt8) (z : Int) (hz : z = (c.toNat : Int)) : ByRow (w.alloc (.cells #[.int .u8 z] 5)) w.heap.size (.slice (some ⟨w.heap.size, 0, none⟩) 1 1) [c] := by
  subst hz
  exact ⟨World.ownsRow_lit (size := 1) w #[.int .u8 (c.toNat : Int)] 1 (Nat.le_refl _) (by unfold maxLen; omega) (by simp), w.heap.size, 1, rfl⟩
theorem ByRow.below {w w' : World} {base : Nat} {v : Value} {l : List UInt8} (h : ByRow w base v l) (hB : Below w.heap.size w w') : ByRow w' base v l :=
  ⟨h.1.kept (grown_of_below hB none) (by cases hv : v.ownBlock <;> simp), h.2⟩
/-- Below is kept by an append of one byte. -/
theorem below_one {W wr w1 : World} {base : Nat} {T : TypeId} {v x : Value} {l : List UInt8} (hb : base ≤ wr.heap.size) (hB : Below base W wr) (ho : ByRow wr base v l) (hg : (wr.alloc (.cells #[x] T)).grownBy w1 v.ownBlock) : Below base W w1 :=
  (hB.alloc hb (.cells #[x] T)).grown hg (by simp; omega) (fun j hj => (ho.1.lt j hj).1)
theorem below_str {W wr w1 : World} {base : Nat} {v : Value} {l : List UInt8} (hb : base ≤ wr.heap.size) (hB : Below base W wr) (ho : ByRow wr base v l) (hg : wr.grownBy w1 v.ownBlock) : Below base W w1 :=
  hB.grown hg hb (fun j hj => (ho.1.lt j hj).1)
theorem byte_ne {a c : UInt8} (h : ¬ a = c) : ((a.toNat : Int) == (c.toNat : Int)) = false := by
  rw [beq_eq_false_iff_ne]
  intro e
  exact h (UInt8.toNat_inj.1 (by omega))
theorem byte_eq {a c : UInt8} (h : a = c) : ((a.toNat : Int) == (c.toNat : Int)) = true := by rw [h]; simp
theorem at_list {s : ByteArray} {k : Nat} (h : k < s.size) : s.data.toList[k]? = some s[k] := by
  rw [List.getElem?_eq_getElem (by rw [← Lib.size_eq]; exact h)]
  simp
  rfl
theorem take_at {s : ByteArray} {k : Nat} (h : k < s.size) : s.data.toList.take (k + 1) = s.data.toList.take k ++ [s[k]] := by
  rw [List.take_add_one, at_list h]
  rfl
theorem take_all (s : ByteArray) : s.data.toList.take s.size = s.data.toList := List.take_of_length_le (by rw [← Lib.size_eq]; exact Nat.le_refl _)
end Go.Proofs.Ytekdlkakcclejaa
