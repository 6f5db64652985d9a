/-
  The walk of the exact law on the reading of settings; the program's contract is a hypothesis.
-/
import Derived.Test.YtnnbhgnllbjmeaaDoorLawB8
import Derived.Test.YtnnbhgnllbjmeaaDoorCfgV
namespace Go.Proofs.YtnnbhgnllbjmeaaDoor
open Go.RowKit

/-- What a reading answers, at given settings and fault: the signs lie in memory of its own. -/
def RcOwn (D : Cfg) (c i : Nat) (B : Nat) (e : Ending) (w' : World) : Prop :=
  ∃ v, e = .returned (.tuple #[.agg #[.int .i64 D.r, .int .i64 D.d, .int .i64 D.b, .int .i64 D.l, .int .i64 D.m, .int .i64 D.n, .int .i64 D.e, v], .agg #[.int .i64 (c : Nat), .int .i64 (i : Nat), .int .i64 0]]) ∧ w'.ownsRow B 3 1 v D.s.length (intCells D.s)
/-- What the program is to answer, in every world behind w. -/
def ImplRead8 (w : World) : Prop := ∀ (wz : World), Below w.heap.size w wz → ∀ (s : ByteArray) (D : Cfg) (c i : Nat), s.size ≤ 1048576 → readC s.data.toList = (D, c, i) → Calls Tryd.prog 11 #[.string s] wz fun e w' => RcOwn D c i wz.heap.size e w' ∧ Below wz.heap.size wz w'
/-- The same of the reference: the signs can be read. -/
def RcAt (D : Cfg) (c i : Nat) (e : Ending) (w' : World) : Prop := ∃ v, e = .returned (.tuple #[.agg #[.int .i64 D.r, .int .i64 D.d, .int .i64 D.b, .int .i64 D.l, .int .i64 D.m, .int .i64 D.n, .int .i64 D.e, v], .agg #[.int .i64 (c : Nat), .int .i64 (i : Nat), .int .i64 0]]) ∧ IntRow w' v D.s
theorem rcPost_at {l : List UInt8} {e : Ending} {w' : World} {D : Cfg} {c i : Nat} (h : readC l = (D, c, i)) (k : RcPost l e w') : RcAt D c i e w' := by
  obtain ⟨E, d, j, v, hr, he, hi⟩ := k
  rw [h] at hr
  simp only [Prod.mk.injEq] at hr
  obtain ⟨rfl, rfl, rfl⟩ := hr
  exact ⟨v, he, hi⟩
theorem layV_len {C E : Cfg} {k c : Nat} {l : List UInt8} (h : layV C k l = (E, c)) (hl : C.s.length ≤ 4) : E.s.length ≤ 4 := by
  unfold layV at h
  split at h
  · cases hs : signsV l with
    | some s =>
      rw [hs] at h
      simp only [Prod.mk.injEq] at h
      obtain ⟨rfl, _⟩ := h
      exact sg_len hs
    | none =>
      rw [hs] at h
      simp only [Prod.mk.injEq] at h
      obtain ⟨rfl, _⟩ := h
      simp
  · split at h
    · simp only [Prod.mk.injEq] at h
      obtain ⟨rfl, _⟩ := h
      exact hl
    · cases hn : numV l with
      | none =>
        rw [hn] at h
        simp only [Prod.mk.injEq] at h
        obtain ⟨rfl, _⟩ := h
        exact hl
      | some z =>
        rw [hn] at h
        simp only [Prod.mk.injEq] at h
        obtain ⟨rfl, _⟩ := h
        unfold setC
        split <;> exact hl
theorem goC_len : ∀ (L : List (List UInt8)) (i : Nat) (mt : List Nat) (C : Cfg), C.s.length ≤ 4 → (goC L i mt C).1.s.length ≤ 4
  | [], _, _, _, h => h
  | x :: t, i, mt, C, h => by
    rw [goC]
    split
    · exact goC_len t _ _ _ h
    · split
      · simp [zeroC]
      · split
        · simp [zeroC]
        · split
          · simp [zeroC]
          · split
            · rename_i hl
              exact goC_len t _ _ _ (layV_len (c := 0) (Prod.ext rfl hl) h)
            · simp [zeroC]
theorem readC_len {l : List UInt8} {D : Cfg} {c i : Nat} (h : readC l = (D, c, i)) : D.s.length ≤ 4 := by
  have e : D = (readC l).1 := by rw [h]
  rw [e, readC]
  split
  · simp [zeroC]
  · exact goC_len _ _ _ _ (by simp [usualC])
theorem intRow_marks {w : World} {base n : Nat} {v : Value} (h : w.ownsRow base 3 1 v n (intCells (marksI 1 n))) (hn : n ≤ 1048576) : IntRow w v (marksI 1 n) := by
  have hl := marksI_len 1 n
  exact intRow_of_owns (base := base) (T := 3) (by rw [hl]; exact h) (by omega)
set_option maxRecDepth 100000 in
set_option maxHeartbeats 8000000 in
theorem lawExReadConfig (s : ByteArray) (w : World) (hI : ImplRead8 w) :
    Calls Tryd.prog 4 #[.string s] w fun e w' => e = .returned (.bool true) ∧ Below w.heap.size w w' := by
  by_cases hs : 1048576 < s.size
  · have hs1 : (1048576 : Int) < s.size := by omega
    go_enter Tryd.func4, Tryd.ntmps4
    go_wp2_with fail
    go_ret
    exact ⟨rfl, Below.refl _ _⟩
  · have hs1 : ¬ (1048576 : Int) < s.size := by omega
    obtain ⟨D, c, i, hq⟩ : ∃ D c i, readC s.data.toList = (D, c, i) := ⟨_, _, _, rfl⟩
    have hdl := readC_len hq
    have hS : ∀ W, Calls Tryd.prog 10 #[.string s] W fun e w' => RcAt D c i e w' ∧ Below W.heap.size W w' := fun W => (specReadConfig s W).mono fun e w' k => ⟨rcPost_at hq k.1, k.2⟩
    have hP : ∀ W, Below w.heap.size w W → Calls Tryd.prog 11 #[.string s] W fun e w' => RcOwn D c i W.heap.size e w' ∧ Below W.heap.size W w' := fun W hB => hI W hB s D c i (by omega) hq
    have HS := Lib.hid hS
    have HP := Lib.hid hP
    clear hS hP hI hq
    go_enter Tryd.func4, Tryd.ntmps4
    go_wp2_with fail
    refine (HS.out w).mono ?_
    rintro e w1 ⟨⟨v1, rfl, R1⟩, B01⟩
    obtain ⟨a1, c1, rfl, _⟩ := intRow_form R1
    have HR1 := Lib.hid R1
    have HB01 := Lib.hid B01
    clear R1 B01
    go_wp2_with fail
    refine (HP.out _ (bt HB01.out (bt (below_al w1 (.cells #[.int .i64 D.r, .int .i64 D.d, .int .i64 D.b, .int .i64 D.l, .int .i64 D.m, .int .i64 D.n, .int .i64 D.e, .slice a1 D.s.length c1] 27)) (below_al _ (.cells #[.int .i64 (c : Int), .int .i64 (i : Int), .int .i64 0] 32))))).mono ?_
    rintro e w2 ⟨⟨v2, rfl, O2⟩, BB⟩
    obtain ⟨a2, c2, rfl⟩ := ownsI_form O2
    have X0 := Lib.hid (blk_next (blk_alloc (alloc_blk w1 #[.int .i64 D.r, .int .i64 D.d, .int .i64 D.b, .int .i64 D.l, .int .i64 D.m, .int .i64 D.n, .int .i64 D.e, .slice a1 D.s.length c1] 27) (.cells #[.int .i64 (c : Int), .int .i64 (i : Int), .int .i64 0] 32)) BB)
    have x1 := blk_next (alloc_blk (w1.alloc (.cells #[.int .i64 D.r, .int .i64 D.d, .int .i64 D.b, .int .i64 D.l, .int .i64 D.m, .int .i64 D.n, .int .i64 D.e, .slice a1 D.s.length c1] 27)) #[.int .i64 (c : Int), .int .i64 (i : Int), .int .i64 0] 32) BB
    simp only [size_alloc] at x1
    have X1 := Lib.hid x1
    have T := Lib.hid (bt (bt (below_al w1 (.cells #[.int .i64 D.r, .int .i64 D.d, .int .i64 D.b, .int .i64 D.l, .int .i64 D.m, .int .i64 D.n, .int .i64 D.e, .slice a1 D.s.length c1] 27)) (below_al _ (.cells #[.int .i64 (c : Int), .int .i64 (i : Int), .int .i64 0] 32))) BB)
    have hge : w1.heap.size ≤ ((w1.alloc (.cells #[.int .i64 D.r, .int .i64 D.d, .int .i64 D.b, .int .i64 D.l, .int .i64 D.m, .int .i64 D.n, .int .i64 D.e, .slice a1 D.s.length c1] 27)).alloc (.cells #[.int .i64 (c : Int), .int .i64 (i : Int), .int .i64 0] 32)).heap.size := by simp; omega
    have O := Lib.hid (World.ownsRow.mono (base' := w1.heap.size) O2 hge)
    clear x1 BB hge O2
    have p0 := cell_blk X0.out 0
    have p1 := cell_blk X0.out 1
    have p2 := cell_blk X0.out 2
    have p3 := cell_blk X0.out 3
    have p4 := cell_blk X0.out 4
    have p5 := cell_blk X0.out 5
    have p6 := cell_blk X0.out 6
    have p7 := cell_blk X0.out 7
    have pl := blk_lt X0.out
    have q0 := cell_blk X1.out 0
    have q1 := cell_blk X1.out 1
    have q2 := cell_blk X1.out 2
    have ql := blk_lt X1.out
    go_wp2_with fail
    have hAl := bt (below_al w2 (.cells #[.int .i64 D.r, .int .i64 D.d, .int .i64 D.b, .int .i64 D.l, .int .i64 D.m, .int .i64 D.n, .int .i64 D.e, .slice a2 D.s.length c2] 27)) (below_al _ (.cells #[.int .i64 (c : Int), .int .i64 (i : Int), .int .i64 0] 32))
    refine (eqCfg D (.slice a2 D.s.length c2) (.slice a1 D.s.length c1) _ ((intRow_of_owns O.out (by omega)).below hAl) ((HR1.out.below T.out).below hAl)).mono ?_
    rintro e w3 ⟨rfl, BC⟩
    have BD := bt hAl BC
    have X2 := Lib.hid (blk_next (blk_alloc (alloc_blk w2 #[.int .i64 D.r, .int .i64 D.d, .int .i64 D.b, .int .i64 D.l, .int .i64 D.m, .int .i64 D.n, .int .i64 D.e, .slice a2 D.s.length c2] 27) (.cells #[.int .i64 (c : Int), .int .i64 (i : Int), .int .i64 0] 32)) BC)
    have x3 := blk_next (alloc_blk (w2.alloc (.cells #[.int .i64 D.r, .int .i64 D.d, .int .i64 D.b, .int .i64 D.l, .int .i64 D.m, .int .i64 D.n, .int .i64 D.e, .slice a2 D.s.length c2] 27)) #[.int .i64 (c : Int), .int .i64 (i : Int), .int .i64 0] 32) BC
    simp only [size_alloc] at x3
    have X3 := Lib.hid x3
    clear p0 p1 p2 p3 p4 p5 p6 p7 pl
    clear q0 q1 q2 ql
    replace X0 := Lib.hid (blk_next X0.out BD)
    replace X1 := Lib.hid (blk_next X1.out BD)
    replace T := Lib.hid (bt T.out BD)
    replace O := Lib.hid (ownsI_below O.out BD)
    clear x3 BC BD hAl
    have q0 := cell_blk X1.out 0
    have q1 := cell_blk X1.out 1
    have q2 := cell_blk X1.out 2
    have ql := blk_lt X1.out
    have s0 := cell_blk X3.out 0
    have s1 := cell_blk X3.out 1
    have s2 := cell_blk X3.out 2
    have sl := blk_lt X3.out
    go_wp2_with fail
    refine (eqFa _ _ _ _).mono ?_
    rintro e w4 ⟨rfl, BD⟩
    clear q0 q1 q2 ql
    clear s0 s1 s2 sl
    replace X0 := Lib.hid (blk_next X0.out BD)
    replace X1 := Lib.hid (blk_next X1.out BD)
    replace X2 := Lib.hid (blk_next X2.out BD)
    replace T := Lib.hid (bt T.out BD)
    replace O := Lib.hid (ownsI_below O.out BD)
    clear BD X3
    have p0 := cell_blk X2.out 0
    have p1 := cell_blk X2.out 1
    have p2 := cell_blk X2.out 2
    have p3 := cell_blk X2.out 3
    have p4 := cell_blk X2.out 4
    have p5 := cell_blk X2.out 5
    have p6 := cell_blk X2.out 6
    have p7 := cell_blk X2.out 7
    have pl := blk_lt X2.out
    go_wp2_with fail
    refine (markCfg D (.slice a2 D.s.length c2) w1.heap.size D.s.length 1 _ _ O.out (by omega) (by omega)).mono ?_
    rintro e w5 ⟨rfl, O5, G5⟩
    clear p0 p1 p2 p3 p4 p5 p6 p7 pl
    have BT5 := T.out.grown G5 T.out.size (fun k hk => (O.out.lt k hk).1)
    have y0 := (G5.block _ (blk_lt X0.out) (fun e => owns_ne_blk O.out X0.out (by decide) e.symm)).trans X0.out
    have y1 := (G5.block _ (blk_lt X1.out) (fun e => owns_ne_blk O.out X1.out (by decide) e.symm)).trans X1.out
    have y2 := (G5.block _ (blk_lt X2.out) (fun e => owns_ne_blk O.out X2.out (by decide) e.symm)).trans X2.out
    replace X0 := Lib.hid y0
    replace X1 := Lib.hid y1
    have Y2 := Lib.hid y2
    replace T := Lib.hid BT5
    replace O := Lib.hid O5
    clear O5 G5 BT5 y0 y1 y2 X2
    have hm0 : ¬ (1 : Int) + D.s.length < 0 := by omega
    have hml : (marksI 1 D.s.length).length ≤ 9223372036854775807 := by rw [marksI_len]; omega
    have p0 := cell_blk Y2.out 0
    have p1 := cell_blk Y2.out 1
    have p2 := cell_blk Y2.out 2
    have p3 := cell_blk Y2.out 3
    have p4 := cell_blk Y2.out 4
    have p5 := cell_blk Y2.out 5
    have p6 := cell_blk Y2.out 6
    have p7 := cell_blk Y2.out 7
    have pl := blk_lt Y2.out
    go_wp2_with fail
    refine (heldCfg D (.slice a2 D.s.length c2) D.s.length 1 _ (intRow_marks O.out (by omega)) (by omega) (by omega)).mono ?_
    rintro e w6 ⟨rfl, BD⟩
    clear p0 p1 p2 p3 p4 p5 p6 p7 pl
    replace X0 := Lib.hid (blk_next X0.out BD)
    replace X1 := Lib.hid (blk_next X1.out BD)
    replace Y2 := Lib.hid (blk_next Y2.out BD)
    replace T := Lib.hid (bt T.out BD)
    replace O := Lib.hid (ownsI_below O.out BD)
    clear BD
    go_wp2_with fail
    refine (HP.out _ (bt HB01.out T.out)).mono ?_
    rintro e w7 ⟨⟨v3, rfl, O3⟩, BB⟩
    obtain ⟨a3, c3, rfl⟩ := ownsI_form O3
    have OQ := Lib.hid O3
    replace X0 := Lib.hid (blk_next X0.out BB)
    replace X1 := Lib.hid (blk_next X1.out BB)
    replace Y2 := Lib.hid (blk_next Y2.out BB)
    replace T := Lib.hid (bt T.out BB)
    replace O := Lib.hid (ownsI_below O.out BB)
    clear BB O3
    have p0 := cell_blk X0.out 0
    have p1 := cell_blk X0.out 1
    have p2 := cell_blk X0.out 2
    have p3 := cell_blk X0.out 3
    have p4 := cell_blk X0.out 4
    have p5 := cell_blk X0.out 5
    have p6 := cell_blk X0.out 6
    have p7 := cell_blk X0.out 7
    have pl := blk_lt X0.out
    have q0 := cell_blk X1.out 0
    have q1 := cell_blk X1.out 1
    have q2 := cell_blk X1.out 2
    have ql := blk_lt X1.out
    go_wp2_with fail
    have hAl := bt (below_al w7 (.cells #[.int .i64 D.r, .int .i64 D.d, .int .i64 D.b, .int .i64 D.l, .int .i64 D.m, .int .i64 D.n, .int .i64 D.e, .slice a3 D.s.length c3] 27)) (below_al _ (.cells #[.int .i64 (c : Int), .int .i64 (i : Int), .int .i64 0] 32))
    refine (eqCfg D (.slice a3 D.s.length c3) (.slice a1 D.s.length c1) _ ((intRow_of_owns OQ.out (by omega)).below hAl) ((HR1.out.below T.out).below hAl)).mono ?_
    rintro e w8 ⟨rfl, BC⟩
    have BD := bt hAl BC
    have X2 := Lib.hid (blk_next (blk_alloc (alloc_blk w7 #[.int .i64 D.r, .int .i64 D.d, .int .i64 D.b, .int .i64 D.l, .int .i64 D.m, .int .i64 D.n, .int .i64 D.e, .slice a3 D.s.length c3] 27) (.cells #[.int .i64 (c : Int), .int .i64 (i : Int), .int .i64 0] 32)) BC)
    have x3 := blk_next (alloc_blk (w7.alloc (.cells #[.int .i64 D.r, .int .i64 D.d, .int .i64 D.b, .int .i64 D.l, .int .i64 D.m, .int .i64 D.n, .int .i64 D.e, .slice a3 D.s.length c3] 27)) #[.int .i64 (c : Int), .int .i64 (i : Int), .int .i64 0] 32) BC
    simp only [size_alloc] at x3
    have X3 := Lib.hid x3
    clear p0 p1 p2 p3 p4 p5 p6 p7 pl
    clear q0 q1 q2 ql
    replace X0 := Lib.hid (blk_next X0.out BD)
    replace X1 := Lib.hid (blk_next X1.out BD)
    replace T := Lib.hid (bt T.out BD)
    replace O := Lib.hid (ownsI_below O.out BD)
    replace Y2 := Lib.hid (blk_next Y2.out BD)
    clear x3 BC BD hAl
    have q0 := cell_blk X1.out 0
    have q1 := cell_blk X1.out 1
    have q2 := cell_blk X1.out 2
    have ql := blk_lt X1.out
    have s0 := cell_blk X3.out 0
    have s1 := cell_blk X3.out 1
    have s2 := cell_blk X3.out 2
    have sl := blk_lt X3.out
    go_wp2_with fail
    refine (eqFa _ _ _ _).mono ?_
    rintro e w9 ⟨rfl, BD⟩
    clear q0 q1 q2 ql
    clear s0 s1 s2 sl
    replace X0 := Lib.hid (blk_next X0.out BD)
    replace X1 := Lib.hid (blk_next X1.out BD)
    replace X2 := Lib.hid (blk_next X2.out BD)
    replace T := Lib.hid (bt T.out BD)
    replace O := Lib.hid (ownsI_below O.out BD)
    replace Y2 := Lib.hid (blk_next Y2.out BD)
    clear BD X3
    have p0 := cell_blk Y2.out 0
    have p1 := cell_blk Y2.out 1
    have p2 := cell_blk Y2.out 2
    have p3 := cell_blk Y2.out 3
    have p4 := cell_blk Y2.out 4
    have p5 := cell_blk Y2.out 5
    have p6 := cell_blk Y2.out 6
    have p7 := cell_blk Y2.out 7
    have pl := blk_lt Y2.out
    go_wp2_with fail
    refine (heldCfg D (.slice a2 D.s.length c2) D.s.length 1 _ (intRow_marks O.out (by omega)) (by omega) (by omega)).mono ?_
    rintro e w10 ⟨rfl, BD⟩
    go_wp2_with fail
    go_ret
    exact ⟨rfl, bt HB01.out (bt T.out BD)⟩
end Go.Proofs.YtnnbhgnllbjmeaaDoor
