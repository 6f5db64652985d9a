/-
  The walk of the exact law on the reading of tables; the contracts are hypotheses.
-/
import Derived.Test.YticeagjonfifbaaGreatDoorPk5
import Derived.Test.YticeagjonfifbaaGreatDoorPk7
namespace Go.Proofs.YticeagjonfifbaaGreatDoor
open Go.RowKit

/-- What a reading answers, at a given table and fault: the table lies in memory of its own. -/
def RtOwn (T : Tab) (c i k : Nat) (B : Nat) (e : Ending) (w' : World) : Prop :=
  ∃ vs u1 u2 u3, e = .returned (.tuple #[.agg #[u1, .string ⟨T.y.toArray⟩, u2, u3], .agg #[.int .i64 (c : Nat), .int .i64 (i : Nat), .int .i64 (k : Nat)]]) ∧ TabOwn w' B T vs u1 u2 u3
/-- What the program is to answer, in every world behind w. -/
def ImplReadT (w : World) : Prop := ∀ (wz : World), Below w.heap.size w wz → ∀ (s : ByteArray) (T : Tab) (c i k : Nat), s.size ≤ 1048576 → readT s.data.toList = (T, c, i, k) → Calls Tryz.prog 11 #[.string s] wz fun e w' => RtOwn T c i k wz.heap.size e w' ∧ Below wz.heap.size wz w'
/-- The same of the reference: the table can be read. -/
def RtAt (T : Tab) (c i k : Nat) (e : Ending) (w' : World) : Prop := ∃ u1 u2 u3, e = .returned (.tuple #[.agg #[u1, .string ⟨T.y.toArray⟩, u2, u3], .agg #[.int .i64 (c : Nat), .int .i64 (i : Nat), .int .i64 (k : Nat)]]) ∧ TabRow w' T u1 u2 u3
def SpecReadT : Prop := ∀ (s : ByteArray) (w : World) (T : Tab) (c i k : Nat), readT s.data.toList = (T, c, i, k) → Calls Tryz.prog 15 #[.string s] w fun e w' => RtAt T c i k e w' ∧ Below w.heap.size w w'
theorem marksLI_mem9 : ∀ (ns : List Nat) (k : Nat), ∀ r ∈ marksLI k ns, r.length ∈ ns
  | [], _, r, h => by simp [marksLI] at h
  | n :: t, k, r, h => by
    simp only [marksLI, List.mem_cons] at h
    rcases h with rfl | h
    · rw [marksI_len]; simp
    · exact List.mem_cons_of_mem _ (marksLI_mem9 t _ r h)
theorem sum_le9 {b : Nat} : ∀ (L : List (List Int)), (∀ r ∈ L, r.length ≤ b) → (L.map List.length).sum ≤ L.length * b
  | [], _ => by simp
  | r :: t, h => by
    have h1 := h r (by simp)
    have h2 := sum_le9 t (fun x hx => h x (by simp [hx]))
    simp only [List.map_cons, List.sum_cons, List.length_cons, Nat.add_mul, Nat.one_mul]
    omega
theorem okT_small {T : Tab} (h : okT T = true) : T.ns.length ≤ 4 ∧ T.rs.length ≤ 40 ∧ (∀ r ∈ T.rs, r.length ≤ 4) ∧ T.ys.length ≤ 40 ∧ (T.rs.map List.length).sum ≤ 160 := by
  have ho := okT_head h
  have hr : ∀ r ∈ T.rs, r.length ≤ 4 := fun r hr => by
    obtain ⟨j, hj⟩ := List.getElem?_of_mem hr
    have k := (ho.2.2.2.2.2.2 j (List.getElem?_eq_some_iff.1 hj).1).1
    rw [getD_at hj] at k
    omega
  have hs := sum_le9 T.rs hr
  exact ⟨by omega, by omega, hr, by omega, by omega⟩
theorem tabV_zero {L : List (List (List UInt8))} (h : (tabV L).2.1 ≠ 0) : (tabV L).1 = zeroT := by
  cases L with
  | nil => rfl
  | cons N t =>
    rw [tabV] at h ⊢
    by_cases hh : (headF N).1 = 0
    · rw [if_pos hh] at h ⊢
      by_cases hi : inZ (t.length : Int) 1 40 = true
      · rw [if_pos hi] at h ⊢
        cases hr : rowsG (N.length - 1) t 1 [] [] with
        | inr q => rfl
        | inl q =>
          rw [hr] at h
          exact absurd rfl h
      · rw [if_neg hi]
    · rw [if_neg hh]
theorem readT_small {l : List UInt8} {T : Tab} {c i k : Nat} (h : readT l = (T, c, i, k)) : T.ns.length ≤ 4 ∧ T.rs.length ≤ 40 ∧ (∀ r ∈ T.rs, r.length ≤ 4) ∧ T.ys.length ≤ 40 ∧ (T.rs.map List.length).sum ≤ 160 := by
  have e : T = (readT l).1 := by rw [h]
  have hz : zeroT.ns.length ≤ 4 ∧ zeroT.rs.length ≤ 40 ∧ (∀ r ∈ zeroT.rs, r.length ≤ 4) ∧ zeroT.ys.length ≤ 40 ∧ (zeroT.rs.map List.length).sum ≤ 160 := by simp [zeroT]
  rw [e]
  by_cases hc : (readT l).2.1 = 0
  · exact okT_small (readT_ok hc)
  · have hq : (readT l).1 = zeroT := by
      unfold readT at hc ⊢
      by_cases hd : (csvQ l).2.1 = 0
      · rw [if_pos hd] at hc ⊢
        exact tabV_zero hc
      · rw [if_neg hd]
    rw [hq]
    exact hz
set_option maxRecDepth 100000 in
set_option maxHeartbeats 8000000 in
theorem lawExReadTable (s : ByteArray) (w : World) (hSp : SpecReadT) (hI : ImplReadT w) :
    Calls Tryz.prog 5 #[.string s] w fun e w' => e = .returned (.bool true) ∧ Below w.heap.size w w' := by
  by_cases hs : 1048576 < s.size
  · have hs1 : (1048576 : Int) < s.size := by omega
    go_enter Tryz.func5, Tryz.ntmps5
    go_wp2_with fail
    go_ret
    exact ⟨rfl, Below.refl _ _⟩
  · have hs1 : ¬ (1048576 : Int) < s.size := by omega
    obtain ⟨T, c, i, k, hq⟩ : ∃ T c i k, readT s.data.toList = (T, c, i, k) := ⟨_, _, _, _, rfl⟩
    have hsm := readT_small hq
    have HM : Hid (T.ns.length ≤ 9223372036854775807 ∧ T.rs.length ≤ 9223372036854775807 ∧ (∀ r ∈ T.rs, r.length ≤ 9223372036854775807) ∧ T.ys.length ≤ 9223372036854775807) := Lib.hid ⟨by omega, by omega, fun r hr => by have := hsm.2.2.1 r hr; omega, by omega⟩
    have HMM : Hid ((marksT T 1).ns.length ≤ 9223372036854775807 ∧ (marksT T 1).rs.length ≤ 9223372036854775807 ∧ (∀ r ∈ (marksT T 1).rs, r.length ≤ 9223372036854775807) ∧ (marksT T 1).ys.length ≤ 9223372036854775807) := Lib.hid (by
      refine ⟨?_, ?_, fun r hr => ?_, ?_⟩
      · show (marks 1 T.ns.length).length ≤ _
        rw [marks_len]
        omega
      · show (marksLI _ _).length ≤ _
        rw [marksLI_len, List.length_map]
        omega
      · have hm := marksLI_mem9 _ _ r hr
        obtain ⟨r2, hr2, hr3⟩ := List.mem_map.1 hm
        have := hsm.2.2.1 r2 hr2
        omega
      · show (marksI _ _).length ≤ _
        rw [marksI_len]
        omega)
    obtain ⟨mk, hmk⟩ : ∃ m : Nat, 1 + T.ns.length + (T.rs.map List.length).sum + T.ys.length = m := ⟨_, rfl⟩
    have hmk0 : ¬ (mk : Int) < 0 := by omega
    have HMK : Hid (∀ (u1 u2 u3 : Value) (vs : List Value) (base : Nat) (w : World), TabOwn w base T vs u1 u2 u3 → base ≤ w.heap.size → ∀ hi : Nat, (∀ g, u1.ownBlock = some g → g < hi) → (∀ (j : Nat) u g, vs[j]? = some u → u.ownBlock = some g → g < hi) → (∀ g, u3.ownBlock = some g → g < hi) → Calls Tryz.prog 21 #[.agg #[u1, .string ⟨T.y.toArray⟩, u2, u3], .int .i64 1] w fun e w' => e = .returned (.int .i64 (mk : Int)) ∧ TabOwn w' base (marksT T 1) vs u1 u2 u3 ∧ Below base w w' ∧ (∀ b, hi ≤ b → b < w.heap.size → w'.heap[b]? = w.heap[b]?)) := Lib.hid (fun u1 u2 u3 vs base w ho hb hi g1 g2 g3 => (markTabH T u1 u2 u3 vs base 1 w ho hb (by omega) (by omega) (by omega) (by omega) (by omega) hi g1 g2 g3).mono fun e w' ⟨he, h2, h3, h4⟩ => ⟨by rw [he, hmk], h2, h3, h4⟩)
    have HHK : Hid (∀ (u1 u2 u3 : Value) (w : World), TabRow w (marksT T 1) u1 u2 u3 → Calls Tryz.prog 22 #[.agg #[u1, .string ⟨T.y.toArray⟩, u2, u3], .int .i64 1] w fun e w' => e = .returned (.int .i64 (mk : Int)) ∧ Below w.heap.size w w') := Lib.hid (fun u1 u2 u3 w hr => (heldTab T u1 u2 u3 1 w hr (by omega) (by omega) (by omega) (by omega) (by omega)).mono fun e w' ⟨he, h2⟩ => ⟨by rw [he, hmk], h2⟩)
    have HS := Lib.hid (fun W => hSp s W T c i k hq)
    have HP : Hid (∀ W, Below w.heap.size w W → Calls Tryz.prog 11 #[.string s] W fun e w' => RtOwn T c i k W.heap.size e w' ∧ Below W.heap.size W w') := Lib.hid (fun W hB => hI W hB s T c i k (by omega) hq)
    clear hSp hI hq hsm hmk
    go_enter Tryz.func5, Tryz.ntmps5
    go_wp2_with fail
    refine (HS.out w).mono ?_
    rintro e w1 ⟨⟨u11, u12, u13, rfl, R1⟩, B01⟩
    obtain ⟨a11, c11, a12, c12, a13, c13, rfl, rfl, rfl⟩ := R1.form
    have HR1 := Lib.hid R1
    have HB01 := Lib.hid B01
    clear R1 B01
    go_wp2_with fail
    refine (HP.out _ (bt HB01.out (bt (bl_al w1 (.cells #[.slice a11 T.ns.length c11, .string ⟨T.y.toArray⟩, .slice a12 T.rs.length c12, .slice a13 T.ys.length c13] 28)) (bl_al _ (.cells #[.int .i64 (c : Int), .int .i64 (i : Int), .int .i64 (k : Int)] 33))))).mono ?_
    rintro e w2 ⟨⟨vs2, u21, u22, u23, rfl, O2⟩, BB⟩
    obtain ⟨a21, c21, a22, c22, a23, c23, rfl, rfl, rfl⟩ := (O2.row HM.out.1 HM.out.2.1 HM.out.2.2.1 HM.out.2.2.2).form
    have X0 := Lib.hid (blk_next (blk_al (alloc_blk w1 #[.slice a11 T.ns.length c11, .string ⟨T.y.toArray⟩, .slice a12 T.rs.length c12, .slice a13 T.ys.length c13] 28) (.cells #[.int .i64 (c : Int), .int .i64 (i : Int), .int .i64 (k : Int)] 33)) BB)
    have x1 := blk_next (alloc_blk (w1.alloc (.cells #[.slice a11 T.ns.length c11, .string ⟨T.y.toArray⟩, .slice a12 T.rs.length c12, .slice a13 T.ys.length c13] 28)) #[.int .i64 (c : Int), .int .i64 (i : Int), .int .i64 (k : Int)] 33) BB
    simp only [sz_alloc] at x1
    have X1 := Lib.hid x1
    have TT := Lib.hid (bt (bt (bl_al w1 (.cells #[.slice a11 T.ns.length c11, .string ⟨T.y.toArray⟩, .slice a12 T.rs.length c12, .slice a13 T.ys.length c13] 28)) (bl_al _ (.cells #[.int .i64 (c : Int), .int .i64 (i : Int), .int .i64 (k : Int)] 33))) BB)
    obtain ⟨b0, hb0⟩ : ∃ b, ((w1.alloc (.cells #[.slice a11 T.ns.length c11, .string ⟨T.y.toArray⟩, .slice a12 T.rs.length c12, .slice a13 T.ys.length c13] 28)).alloc (.cells #[.int .i64 (c : Int), .int .i64 (i : Int), .int .i64 (k : Int)] 33)).heap.size = b := ⟨_, rfl⟩
    have hb1 : b0 = w1.heap.size + 1 + 1 := by rw [← hb0]; simp
    rw [hb0] at O2
    have hb2 : b0 ≤ w2.heap.size := by rw [← hb0]; exact BB.size
    have H4 : Hid ((∀ g, (.slice a21 T.ns.length c21 : Value).ownBlock = some g → g < w2.heap.size) ∧ (∀ (j : Nat) u g, vs2[j]? = some u → u.ownBlock = some g → g < w2.heap.size) ∧ (∀ g, (.slice a23 T.ys.length c23 : Value).ownBlock = some g → g < w2.heap.size)) := Lib.hid ⟨fun g hg => (O2.1.lt g hg).2, fun j u g hu hg => (O2.2.2.1.lt hu hg).2, fun g hg => (O2.2.2.2.1.lt g hg).2⟩
    have O := Lib.hid O2
    have W2 := Lib.hid (Below.refl w2.heap.size w2)
    clear x1 BB hb0 O2
    have p0 := cell_blk X0.out 0
    have p1 := cell_blk X0.out 1
    have p2 := cell_blk X0.out 2
    have p3 := cell_blk X0.out 3
    have pl := blk_lt X0.out
    have q0 := cell_blk X1.out 0
    have q1 := cell_blk X1.out 1
    have q2 := cell_blk X1.out 2
    have ql := blk_lt X1.out
    go_wp2_with fail
    have hAl := bt (bl_al w2 (.cells #[.slice a21 T.ns.length c21, .string ⟨T.y.toArray⟩, .slice a22 T.rs.length c22, .slice a23 T.ys.length c23] 28)) (bl_al _ (.cells #[.int .i64 (c : Int), .int .i64 (i : Int), .int .i64 (k : Int)] 33))
    refine (eqTab T (.slice a21 T.ns.length c21) (.slice a22 T.rs.length c22) (.slice a23 T.ys.length c23) (.slice a11 T.ns.length c11) (.slice a12 T.rs.length c12) (.slice a13 T.ys.length c13) _ ((O.out.row HM.out.1 HM.out.2.1 HM.out.2.2.1 HM.out.2.2.2).below hAl) ((HR1.out.below TT.out).below hAl)).mono ?_
    rintro e w3 ⟨rfl, BC⟩
    have BD := bt hAl BC
    have X2 := Lib.hid (blk_next (blk_al (alloc_blk w2 #[.slice a21 T.ns.length c21, .string ⟨T.y.toArray⟩, .slice a22 T.rs.length c22, .slice a23 T.ys.length c23] 28) (.cells #[.int .i64 (c : Int), .int .i64 (i : Int), .int .i64 (k : Int)] 33)) BC)
    have x3 := blk_next (alloc_blk (w2.alloc (.cells #[.slice a21 T.ns.length c21, .string ⟨T.y.toArray⟩, .slice a22 T.rs.length c22, .slice a23 T.ys.length c23] 28)) #[.int .i64 (c : Int), .int .i64 (i : Int), .int .i64 (k : Int)] 33) BC
    simp only [sz_alloc] at x3
    have X3 := Lib.hid x3
    clear p0 p1 p2 p3 pl
    clear q0 q1 q2 ql
    replace X0 := Lib.hid (blk_next X0.out BD)
    replace X1 := Lib.hid (blk_next X1.out BD)
    replace TT := Lib.hid (bt TT.out BD)
    replace O := Lib.hid (O.out.below BD)
    replace W2 := Lib.hid (bt W2.out BD)
    clear x3 BC BD hAl
    have q0 := cell_blk X1.out 0
    have q1 := cell_blk X1.out 1
    have q2 := cell_blk X1.out 2
    have ql := blk_lt X1.out
    have s0 := cell_blk X3.out 0
    have s1 := cell_blk X3.out 1
    have s2 := cell_blk X3.out 2
    have sl := blk_lt X3.out
    go_wp2_with fail
    refine (eqFa _ _ _ _).mono ?_
    rintro e w4 ⟨rfl, BD⟩
    clear q0 q1 q2 ql
    clear s0 s1 s2 sl
    replace X0 := Lib.hid (blk_next X0.out BD)
    replace X1 := Lib.hid (blk_next X1.out BD)
    replace X2 := Lib.hid (blk_next X2.out BD)
    replace TT := Lib.hid (bt TT.out BD)
    replace O := Lib.hid (O.out.below BD)
    replace W2 := Lib.hid (bt W2.out BD)
    clear BD X3
    have hsz := W2.out.size
    have p0 := cell_blk X2.out 0
    have p1 := cell_blk X2.out 1
    have p2 := cell_blk X2.out 2
    have p3 := cell_blk X2.out 3
    have pl := blk_lt X2.out
    go_wp2_with fail
    refine (HMK.out _ _ _ vs2 b0 _ O.out (by omega) w2.heap.size H4.out.1 H4.out.2.1 H4.out.2.2).mono ?_
    rintro e w5 ⟨rfl, O5, M5, K5⟩
    clear p0 p1 p2 p3 pl
    have y0 := (M5.block _ (by omega)).trans X0.out
    have y1 := (M5.block _ (by omega)).trans X1.out
    have y2 := (K5 _ (Nat.le_refl _) (blk_lt X2.out)).trans X2.out
    replace X0 := Lib.hid y0
    replace X1 := Lib.hid y1
    have Y2 := Lib.hid y2
    replace TT := Lib.hid (TT.out.trans (M5.mono (by omega)))
    replace O := Lib.hid O5
    clear O5 M5 K5 y0 y1 y2 X2 W2
    have p0 := cell_blk Y2.out 0
    have p1 := cell_blk Y2.out 1
    have p2 := cell_blk Y2.out 2
    have p3 := cell_blk Y2.out 3
    have pl := blk_lt Y2.out
    go_wp2_with fail
    refine (HHK.out _ _ _ _ (O.out.row HMM.out.1 HMM.out.2.1 HMM.out.2.2.1 HMM.out.2.2.2)).mono ?_
    rintro e w6 ⟨rfl, BD⟩
    clear p0 p1 p2 p3 pl
    replace X0 := Lib.hid (blk_next X0.out BD)
    replace X1 := Lib.hid (blk_next X1.out BD)
    replace Y2 := Lib.hid (blk_next Y2.out BD)
    replace TT := Lib.hid (bt TT.out BD)
    replace O := Lib.hid (O.out.below BD)
    clear BD
    go_wp2_with fail
    refine (HP.out _ (bt HB01.out TT.out)).mono ?_
    rintro e w7 ⟨⟨vs3, u31, u32, u33, rfl, O3⟩, BB⟩
    obtain ⟨a31, c31, a32, c32, a33, c33, rfl, rfl, rfl⟩ := (O3.row HM.out.1 HM.out.2.1 HM.out.2.2.1 HM.out.2.2.2).form
    have OQ := Lib.hid O3
    replace X0 := Lib.hid (blk_next X0.out BB)
    replace X1 := Lib.hid (blk_next X1.out BB)
    replace Y2 := Lib.hid (blk_next Y2.out BB)
    replace TT := Lib.hid (bt TT.out BB)
    replace O := Lib.hid (O.out.below BB)
    clear BB O3
    have p0 := cell_blk X0.out 0
    have p1 := cell_blk X0.out 1
    have p2 := cell_blk X0.out 2
    have p3 := cell_blk X0.out 3
    have pl := blk_lt X0.out
    have q0 := cell_blk X1.out 0
    have q1 := cell_blk X1.out 1
    have q2 := cell_blk X1.out 2
    have ql := blk_lt X1.out
    go_wp2_with fail
    have hAl := bt (bl_al w7 (.cells #[.slice a31 T.ns.length c31, .string ⟨T.y.toArray⟩, .slice a32 T.rs.length c32, .slice a33 T.ys.length c33] 28)) (bl_al _ (.cells #[.int .i64 (c : Int), .int .i64 (i : Int), .int .i64 (k : Int)] 33))
    refine (eqTab T (.slice a31 T.ns.length c31) (.slice a32 T.rs.length c32) (.slice a33 T.ys.length c33) (.slice a11 T.ns.length c11) (.slice a12 T.rs.length c12) (.slice a13 T.ys.length c13) _ ((OQ.out.row HM.out.1 HM.out.2.1 HM.out.2.2.1 HM.out.2.2.2).below hAl) ((HR1.out.below TT.out).below hAl)).mono ?_
    rintro e w8 ⟨rfl, BC⟩
    have BD := bt hAl BC
    have X2 := Lib.hid (blk_next (blk_al (alloc_blk w7 #[.slice a31 T.ns.length c31, .string ⟨T.y.toArray⟩, .slice a32 T.rs.length c32, .slice a33 T.ys.length c33] 28) (.cells #[.int .i64 (c : Int), .int .i64 (i : Int), .int .i64 (k : Int)] 33)) BC)
    have x3 := blk_next (alloc_blk (w7.alloc (.cells #[.slice a31 T.ns.length c31, .string ⟨T.y.toArray⟩, .slice a32 T.rs.length c32, .slice a33 T.ys.length c33] 28)) #[.int .i64 (c : Int), .int .i64 (i : Int), .int .i64 (k : Int)] 33) BC
    simp only [sz_alloc] at x3
    have X3 := Lib.hid x3
    clear p0 p1 p2 p3 pl
    clear q0 q1 q2 ql
    replace X0 := Lib.hid (blk_next X0.out BD)
    replace X1 := Lib.hid (blk_next X1.out BD)
    replace TT := Lib.hid (bt TT.out BD)
    replace O := Lib.hid (O.out.below BD)
    replace Y2 := Lib.hid (blk_next Y2.out BD)
    clear x3 BC BD hAl
    have q0 := cell_blk X1.out 0
    have q1 := cell_blk X1.out 1
    have q2 := cell_blk X1.out 2
    have ql := blk_lt X1.out
    have s0 := cell_blk X3.out 0
    have s1 := cell_blk X3.out 1
    have s2 := cell_blk X3.out 2
    have sl := blk_lt X3.out
    go_wp2_with fail
    refine (eqFa _ _ _ _).mono ?_
    rintro e w9 ⟨rfl, BD⟩
    clear q0 q1 q2 ql
    clear s0 s1 s2 sl
    replace X0 := Lib.hid (blk_next X0.out BD)
    replace X1 := Lib.hid (blk_next X1.out BD)
    replace X2 := Lib.hid (blk_next X2.out BD)
    replace TT := Lib.hid (bt TT.out BD)
    replace O := Lib.hid (O.out.below BD)
    replace Y2 := Lib.hid (blk_next Y2.out BD)
    clear BD X3
    have p0 := cell_blk Y2.out 0
    have p1 := cell_blk Y2.out 1
    have p2 := cell_blk Y2.out 2
    have p3 := cell_blk Y2.out 3
    have pl := blk_lt Y2.out
    go_wp2_with fail
    refine (HHK.out _ _ _ _ (O.out.row HMM.out.1 HMM.out.2.1 HMM.out.2.2.1 HMM.out.2.2.2)).mono ?_
    rintro e w10 ⟨rfl, BD⟩
    go_wp2_with fail
    go_ret
    exact ⟨rfl, bt HB01.out (bt TT.out BD)⟩
end Go.Proofs.YticeagjonfifbaaGreatDoor
