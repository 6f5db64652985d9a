/-
  The walk of the exact law on the reading of settings; the program's contract is a hypothesis.
-/
import Derived.Test.YtnnbhgnllbjmeaaGreatDoorPk5
import Derived.Test.YtnnbhgnllbjmeaaGreatDoorCfgV
namespace Go.Proofs.YtnnbhgnllbjmeaaGreatDoor
open Go.RowKit

/-- What a reading answers, at given settings and fault: the signs lie in memory of its own. -/
def RcOwn (D : Cfg) (c i : Nat) (B : Nat) (e : Ending) (w' : World) : Prop :=
  ∃ v, e = .returned (.tuple #[.agg #[.int .i64 D.r, .int .i64 D.d, .int .i64 D.b, .int .i64 D.l, .int .i64 D.m, .int .i64 D.n, .int .i64 D.e, v], .agg #[.int .i64 (c : Nat), .int .i64 (i : Nat), .int .i64 0]]) ∧ w'.ownsRow B 3 1 v D.s.length (intCells D.s)
/-- What the program is to answer, in every world behind w. -/
def ImplRead8 (w : World) : Prop := ∀ (wz : World), Below w.heap.size w wz → ∀ (s : ByteArray) (D : Cfg) (c i : Nat), s.size ≤ 1048576 → readC s.data.toList = (D, c, i) → Calls Tryz.prog 10 #[.string s] wz fun e w' => RcOwn D c i wz.heap.size e w' ∧ Below wz.heap.size wz w'
/-- The same of the reference: the signs can be read. -/
def RcAt (D : Cfg) (c i : Nat) (e : Ending) (w' : World) : Prop := ∃ v, e = .returned (.tuple #[.agg #[.int .i64 D.r, .int .i64 D.d, .int .i64 D.b, .int .i64 D.l, .int .i64 D.m, .int .i64 D.n, .int .i64 D.e, v], .agg #[.int .i64 (c : Nat), .int .i64 (i : Nat), .int .i64 0]]) ∧ IntRow w' v D.s
theorem rcPost_at {l : List UInt8} {e : Ending} {w' : World} {D : Cfg} {c i : Nat} (h : readC l = (D, c, i)) (k : RcPost l e w') : RcAt D c i e w' := by
  obtain ⟨E, d, j, v, hr, he, hi⟩ := k
  rw [h] at hr
  simp only [Prod.mk.injEq] at hr
  obtain ⟨rfl, rfl, rfl⟩ := hr
  exact ⟨v, he, hi⟩
theorem layV_len {C E : Cfg} {k c : Nat} {l : List UInt8} (h : layV C k l = (E, c)) (hl : C.s.length ≤ 4) : E.s.length ≤ 4 := by
  unfold layV at h
  split at h
  · cases hs : signsV l with
    | some s =>
      rw [hs] at h
      simp only [Prod.mk.injEq] at h
      obtain ⟨rfl, _⟩ := h
      exact sg_len hs
    | none =>
      rw [hs] at h
      simp only [Prod.mk.injEq] at h
      obtain ⟨rfl, _⟩ := h
      simp
  · split at h
    · simp only [Prod.mk.injEq] at h
      obtain ⟨rfl, _⟩ := h
      exact hl
    · cases hn : numV l with
      | none =>
        rw [hn] at h
        simp only [Prod.mk.injEq] at h
        obtain ⟨rfl, _⟩ := h
        exact hl
      | some z =>
        rw [hn] at h
        simp only [Prod.mk.injEq] at h
        obtain ⟨rfl, _⟩ := h
        unfold setC
        split <;> exact hl
theorem goC_len : ∀ (L : List (List UInt8)) (i : Nat) (mt : List Nat) (C : Cfg), C.s.length ≤ 4 → (goC L i mt C).1.s.length ≤ 4
  | [], _, _, _, h => h
  | x :: t, i, mt, C, h => by
    rw [goC]
    split
    · exact goC_len t _ _ _ h
    · split
      · simp [zeroC]
      · split
        · simp [zeroC]
        · split
          · simp [zeroC]
          · split
            · rename_i hl
              exact goC_len t _ _ _ (layV_len (c := 0) (Prod.ext rfl hl) h)
            · simp [zeroC]
theorem readC_len {l : List UInt8} {D : Cfg} {c i : Nat} (h : readC l = (D, c, i)) : D.s.length ≤ 4 := by
  have e : D = (readC l).1 := by rw [h]
  rw [e, readC]
  split
  · simp [zeroC]
  · exact goC_len _ _ _ _ (by simp [usualC])
theorem intRow_marks {w : World} {base n : Nat} {v : Value} (h : w.ownsRow base 3 1 v n (intCells (marksI 1 n))) (hn : n ≤ 1048576) : IntRow w v (marksI 1 n) := by
  have hl := marksI_len 1 n
  exact intRow_of_owns (base := base) (T := 3) (by rw [hl]; exact h) (by omega)
end Go.Proofs.YtnnbhgnllbjmeaaGreatDoor
