/-
  The reading of a table, the program's way.
-/
import Derived.Test.YticeagjonfifbaaGreatDoorPk16
import Derived.Test.YticeagjonfifbaaGreatDoorPk15
import Derived.Test.YticeagjonfifbaaGreatDoorPk8
import Derived.Test.YticeagjonfifbaaGreatDoorPk1
import Derived.Test.YticeagjonfifbaaGreatDoorI7R
import Derived.Laws.ResultCell
import Derived.Deep.DeepCutAuto
namespace Go.Proofs.YticeagjonfifbaaGreatDoor
open Go.RowKit

/-- What the reading of a table ends in, the fault as an error. -/
def RdT (T : Tab) (c i k base : Nat) (e : Ending) (w' : World) : Prop :=
  ∃ vs u1 u2 u3, e = .returned (.tuple #[.agg #[u1, .string ⟨T.y.toArray⟩, u2, u3], errV9 c i k]) ∧ TabOwn w' base T vs u1 u2 u3
theorem tabOwn_zero (w : World) (base : Nat) : TabOwn w base zeroT [] (.slice none 0 0) (.slice none 0 0) (.slice none 0 0) :=
  ⟨⟨rfl, Or.inl ⟨rfl, rfl⟩⟩, ⟨rfl, Or.inl ⟨rfl, rfl⟩⟩, RowsOwn.nil _ _ _, ⟨rfl, Or.inl ⟨rfl, rfl⟩⟩, by simp⟩
theorem zero_rd {l : List UInt8} {c i k : Nat} {v : Value} (h : readT l = (zeroT, c, i, k)) {T : Tab} {c2 i2 k2 : Nat} (hr : readT l = (T, c2, i2, k2)) {base : Nat} (w : World) (hv : v = errV9 c i k) : RdT T c2 i2 k2 base (.returned (.tuple #[.agg #[.slice none 0 0, .string ⟨#[]⟩, .slice none 0 0, .slice none 0 0], v])) w := by
  rw [h] at hr
  simp only [Prod.mk.injEq] at hr
  obtain ⟨rfl, rfl, rfl, rfl⟩ := hr
  exact ⟨[], _, _, _, by rw [hv]; rfl, tabOwn_zero w base⟩
theorem below4z {w w1 : World} (h : Below w.heap.size w w1) (a b c d : Value) : Below w.heap.size w ((((w1.setCell ⟨w.heap.size, 0, none⟩ a).setCell ⟨w.heap.size, 1, none⟩ b).setCell ⟨w.heap.size, 2, none⟩ c).setCell ⟨w.heap.size, 3, none⟩ d) :=
  (((h.setCell (Nat.le_refl _) _).setCell (Nat.le_refl _) _).setCell (Nat.le_refl _) _).setCell (Nat.le_refl _) _
theorem csvPost_at9 {w w' : World} {l : List UInt8} {e : Ending} {L : List (List (List UInt8))} {c i k : Nat} (h : CsvPost w l e w') (hq : csvQ l = (L, c, i, k)) : ∃ v, e = .returned (.tuple #[v, .agg #[.int .i64 (c : Int), .int .i64 (i : Int), .int .i64 (k : Int)]]) ∧ SSOwn w' w.heap.size v L := by
  obtain ⟨v, he, ho⟩ := h
  rw [hq] at he ho
  exact ⟨v, he, ho⟩
theorem csvQ_zero {l : List UInt8} {L : List (List (List UInt8))} {i k : Nat} (h : csvQ l = (L, 0, i, k)) : i = 0 ∧ k = 0 := by
  rw [csvQ] at h
  split at h
  · simp only [Prod.mk.injEq] at h
    omega
  · split at h <;> simp only [Prod.mk.injEq] at h <;> omega
theorem below4zd {w w1 : World} (h : Below w.heap.size w w1) (a b c d : Value) (x : Obj) : Below w.heap.size w ((((((w1.setCell ⟨w.heap.size, 0, none⟩ a).setCell ⟨w.heap.size, 1, none⟩ b).setCell ⟨w.heap.size, 2, none⟩ c).setCell ⟨w.heap.size, 3, none⟩ d).alloc x).drew) :=
  ((below4z h a b c d).alloc (below4z h a b c d).size x).drew
theorem below4za {w w1 : World} (h : Below w.heap.size w w1) (a b c d : Value) (x : Obj) : Below w.heap.size w (((((w1.setCell ⟨w.heap.size, 0, none⟩ a).setCell ⟨w.heap.size, 1, none⟩ b).setCell ⟨w.heap.size, 2, none⟩ c).setCell ⟨w.heap.size, 3, none⟩ d).alloc x) :=
  (below4z h a b c d).alloc (below4z h a b c d).size x
theorem ssOwn_rows {w : World} {base : Nat} {v : Value} {L : List (List (List UInt8))} (h : SSOwn w base v L) (hl : 0 < L.length) : ∃ g c, v = .slice (some ⟨g, 0, none⟩) L.length c ∧ L.length ≤ c ∧ L.length ≤ 9223372036854775807 ∧ ∀ (j : Nat) row, L[j]? = some row → ∃ u, w.cell? ⟨g, j, none⟩ = some u ∧ w.ownsRow base 9 1 u row.length (strCells row) := by
  obtain ⟨vs, h1, h2⟩ := h
  have hm := owns_max h1
  rcases h1.2 with ⟨_, h0⟩ | ⟨g, cap, cur, hv, _, _, hnc, _⟩
  · omega
  · refine ⟨g, cap, hv, hnc, hm, fun j row hj => ?_⟩
    have hjl := (List.getElem?_eq_some_iff.1 hj).1
    have hjv : j < vs.length := by rw [h2.1, List.length_map]; exact hjl
    subst hv
    refine ⟨vs[j], ?_, ?_⟩
    · rw [h1.cellAt j (by omega), List.getElem?_eq_getElem hjv]
    · have k := h2.2.1 j vs[j] (strCells row) (List.getElem?_eq_getElem hjv) (by rw [List.getElem?_map, hj]; rfl)
      rw [strCells_len] at k
      exact k
set_option maxRecDepth 100000 in
set_option maxHeartbeats 8000000 in
theorem readTable9_csv (s : ByteArray) (hs : s.size ≤ 1048576) (W w : World) (hBW : Below W.heap.size W w) (hR : ImplRead W) (T : Tab) (c2 i2 k2 : Nat) (hr : readT s.data.toList = (T, c2, i2, k2)) {L : List (List (List UInt8))} {c i k : Nat} (hq : csvQ s.data.toList = (L, c, i, k)) (hc : ¬ c = 0) :
    Calls Tryz.prog 35 #[.string s] w fun e w' => RdT T c2 i2 k2 w.heap.size e w' ∧ Below w.heap.size w w' := by
  have HR := Lib.hid hr
  have HC : Hid (∀ wz, Below W.heap.size W wz → Calls Tryz.prog 88 #[.string s] wz fun e w' => (∃ v, e = .returned (.tuple #[v, .agg #[.int .i64 (c : Int), .int .i64 (i : Int), .int .i64 (k : Int)]]) ∧ SSOwn w' wz.heap.size v (L)) ∧ Below wz.heap.size wz w') := Lib.hid (fun wz hB => (hR s wz hB (by omega)).mono fun e w' ⟨hp, hB⟩ => ⟨csvPost_at9 hp hq, hB⟩)
  have HQ := Lib.hid hq
  have HBW := Lib.hid hBW
  clear hr hq hR hBW
  have hA := bl_al w (.cells #[.slice none 0 0, .string ⟨#[]⟩, .slice none 0 0, .slice none 0 0] 28)
  have x0 := alloc_blk w #[.slice none 0 0, .string ⟨#[]⟩, .slice none 0 0, .slice none 0 0] 28
  go_enter Tryz.func35, Tryz.ntmps35
  go_wp2_with fail
  refine (HC.out _ (bt HBW.out hA)).mono ?_
  rintro e w1 ⟨⟨v, rfl, ho⟩, hB⟩
  have X0 := Lib.hid (blk_next x0 hB)
  have B01 := Lib.hid (bt hA hB)
  have hsz := B01.out.size
  obtain ⟨va, vc, rfl⟩ : ∃ a c, v = .slice a L.length c := by
    obtain ⟨vs, h1, _⟩ := ho
    exact owns_form h1
  have hc1 : ¬ (c : Int) = 0 := by omega
  have hc2 : ((c : Int) == 0) = false := beq_eq_false_iff_ne.2 hc1
  clear ho hB x0 hA
  have p0 := cell_blk X0.out 0
  have fp0 := free_blk X0.out 0
  have p1 := cell_blk X0.out 1
  have fp1 := free_blk X0.out 1
  have p2 := cell_blk X0.out 2
  have fp2 := free_blk X0.out 2
  have p3 := cell_blk X0.out 3
  have fp3 := free_blk X0.out 3
  have lp := blk_lt X0.out
  go_wp2_with fail
  go_region
  go_wp2_with fail
  refine bodyPost_ret (v := .tuple #[.agg #[.slice none 0 0, .string ⟨#[]⟩, .slice none 0 0, .slice none 0 0], .iface 99 (.agg #[.int .i64 (c : Int), .int .i64 (i : Int), .int .i64 (k : Int)])]) ?_ rfl ⟨zero_rd (readT_csv HQ.out hc) HR.out _ (errV9_some hc _ _).symm, ?_⟩
  · rw [results_cell_tmp rfl]
    go_simp
  · first | exact below4z (B01.out) _ _ _ _ | exact below4za (B01.out) _ _ _ _ _ | exact below4zd (B01.out) _ _ _ _ _
set_option maxRecDepth 100000 in
set_option maxHeartbeats 8000000 in
theorem readTable9_empty (s : ByteArray) (hs : s.size ≤ 1048576) (W w : World) (hBW : Below W.heap.size W w) (hR : ImplRead W) (T : Tab) (c2 i2 k2 : Nat) (hr : readT s.data.toList = (T, c2, i2, k2)) (hq : csvQ s.data.toList = ([], 0, 0, 0)) :
    Calls Tryz.prog 35 #[.string s] w fun e w' => RdT T c2 i2 k2 w.heap.size e w' ∧ Below w.heap.size w w' := by
  have HR := Lib.hid hr
  have HC : Hid (∀ wz, Below W.heap.size W wz → Calls Tryz.prog 88 #[.string s] wz fun e w' => (∃ v, e = .returned (.tuple #[v, .agg #[.int .i64 ((0 : Nat) : Int), .int .i64 ((0 : Nat) : Int), .int .i64 ((0 : Nat) : Int)]]) ∧ SSOwn w' wz.heap.size v ([])) ∧ Below wz.heap.size wz w') := Lib.hid (fun wz hB => (hR s wz hB (by omega)).mono fun e w' ⟨hp, hB⟩ => ⟨csvPost_at9 hp hq, hB⟩)
  have HQ := Lib.hid hq
  have HBW := Lib.hid hBW
  clear hr hq hR hBW
  have hA := bl_al w (.cells #[.slice none 0 0, .string ⟨#[]⟩, .slice none 0 0, .slice none 0 0] 28)
  have x0 := alloc_blk w #[.slice none 0 0, .string ⟨#[]⟩, .slice none 0 0, .slice none 0 0] 28
  go_enter Tryz.func35, Tryz.ntmps35
  go_wp2_with fail
  refine (HC.out _ (bt HBW.out hA)).mono ?_
  rintro e w1 ⟨⟨v, rfl, ho⟩, hB⟩
  have X0 := Lib.hid (blk_next x0 hB)
  have B01 := Lib.hid (bt hA hB)
  have hsz := B01.out.size
  obtain ⟨va, vc, rfl⟩ : ∃ a c, v = .slice a 0 c := by
    obtain ⟨vs, h1, _⟩ := ho
    exact owns_form h1
  clear ho hB x0 hA
  have p0 := cell_blk X0.out 0
  have fp0 := free_blk X0.out 0
  have p1 := cell_blk X0.out 1
  have fp1 := free_blk X0.out 1
  have p2 := cell_blk X0.out 2
  have fp2 := free_blk X0.out 2
  have p3 := cell_blk X0.out 3
  have fp3 := free_blk X0.out 3
  have lp := blk_lt X0.out
  go_wp2_with fail
  refine bodyPost_ret (v := .tuple #[.agg #[.slice none 0 0, .string ⟨#[]⟩, .slice none 0 0, .slice none 0 0], .iface 99 (.agg #[.int .i64 3, .int .i64 0, .int .i64 0])]) ?_ rfl ⟨zero_rd ((readT_rows HQ.out).trans rfl) HR.out _ rfl, ?_⟩
  · rw [results_cell_tmp rfl]
    go_simp
  · first | exact below4z (B01.out) _ _ _ _ | exact below4za (B01.out) _ _ _ _ _ | exact below4zd (B01.out) _ _ _ _ _
set_option maxRecDepth 100000 in
set_option maxHeartbeats 8000000 in
theorem readTable9_head (s : ByteArray) (hs : s.size ≤ 1048576) (W w : World) (hBW : Below W.heap.size W w) (hR : ImplRead W) (T : Tab) (c2 i2 k2 : Nat) (hr : readT s.data.toList = (T, c2, i2, k2)) {N : List (List UInt8)} {t : List (List (List UInt8))} (hq : csvQ s.data.toList = (N :: t, 0, 0, 0)) (hnl : ∀ r ∈ N :: t, ∀ p ∈ r, p.length ≤ 36000) (hh : ¬ (headF N).1 = 0) :
    Calls Tryz.prog 35 #[.string s] w fun e w' => RdT T c2 i2 k2 w.heap.size e w' ∧ Below w.heap.size w w' := by
  have HR := Lib.hid hr
  have HC : Hid (∀ wz, Below W.heap.size W wz → Calls Tryz.prog 88 #[.string s] wz fun e w' => (∃ v, e = .returned (.tuple #[v, .agg #[.int .i64 ((0 : Nat) : Int), .int .i64 ((0 : Nat) : Int), .int .i64 ((0 : Nat) : Int)]]) ∧ SSOwn w' wz.heap.size v (N :: t)) ∧ Below wz.heap.size wz w') := Lib.hid (fun wz hB => (hR s wz hB (by omega)).mono fun e w' ⟨hp, hB⟩ => ⟨csvPost_at9 hp hq, hB⟩)
  have HQ := Lib.hid hq
  have HBW := Lib.hid hBW
  clear hr hq hR hBW
  have hA := bl_al w (.cells #[.slice none 0 0, .string ⟨#[]⟩, .slice none 0 0, .slice none 0 0] 28)
  have x0 := alloc_blk w #[.slice none 0 0, .string ⟨#[]⟩, .slice none 0 0, .slice none 0 0] 28
  go_enter Tryz.func35, Tryz.ntmps35
  go_wp2_with fail
  refine (HC.out _ (bt HBW.out hA)).mono ?_
  rintro e w1 ⟨⟨v, rfl, ho⟩, hB⟩
  have X0 := Lib.hid (blk_next x0 hB)
  have B01 := Lib.hid (bt hA hB)
  have hsz := B01.out.size
  obtain ⟨g, vc, rfl, hvc, htl, hrows⟩ := ssOwn_rows ho (by simp)
  have HRW := Lib.hid hrows
  obtain ⟨u, hcu, hun⟩ := hrows 0 N rfl
  obtain ⟨na, nc, rfl⟩ := owns_form hun
  have HUN := Lib.hid hun
  have hlu := World.block_lt_of_cell? w1 _ hcu
  have hln : (0 : Int) < (t.length : Int) + 1 := by omega
  have hln0 : ¬ (t.length : Int) + 1 = 0 := by omega
  have hlen : (N :: t).length = t.length + 1 := rfl
  rw [hlen] at hvc htl ⊢
  have HNL := Lib.hid hnl
  clear ho hB x0 hA hrows hun hnl hlen
  have p0 := cell_blk X0.out 0
  have fp0 := free_blk X0.out 0
  have p1 := cell_blk X0.out 1
  have fp1 := free_blk X0.out 1
  have p2 := cell_blk X0.out 2
  have fp2 := free_blk X0.out 2
  have p3 := cell_blk X0.out 3
  have fp3 := free_blk X0.out 3
  have lp := blk_lt X0.out
  go_wp2_with fail
  go_quiet (fail)
  go_wp2_with fail
  refine (implHead9 _ N _ ((strRow_of_owns HUN.out (owns_max HUN.out)).below (below_drewN2 (bl_al w1 (.cells #[.int .i64 0, .int .i64 0, .int .i64 0] 33)) nq)) (fun p hp => by have := HNL.out N (List.mem_cons_self) p hp; omega)).mono ?_
  rintro e w2 ⟨rfl, hB2⟩
  have BQ := bt (below_drewN2 (bl_al w1 (.cells #[.int .i64 0, .int .i64 0, .int .i64 0] 33)) nq) hB2
  have X02 := Lib.hid (blk_next X0.out BQ)
  have B02 := Lib.hid (bt B01.out BQ)
  have B12 := Lib.hid BQ
  clear p0 p1 p2 p3 fp0 fp1 fp2 fp3 lp
  clear BQ hB2 hcu hlu
  rw [errV9_some hh]
  have p0 := cell_blk X02.out 0
  have fp0 := free_blk X02.out 0
  have p1 := cell_blk X02.out 1
  have fp1 := free_blk X02.out 1
  have p2 := cell_blk X02.out 2
  have fp2 := free_blk X02.out 2
  have p3 := cell_blk X02.out 3
  have fp3 := free_blk X02.out 3
  have lp := blk_lt X02.out
  go_wp2_with fail
  refine bodyPost_ret (v := .tuple #[.agg #[.slice none 0 0, .string ⟨#[]⟩, .slice none 0 0, .slice none 0 0], .iface 99 (.agg #[.int .i64 (((headF N).1 : Nat) : Int), .int .i64 0, .int .i64 (((headF N).2 : Nat) : Int)])]) ?_ rfl ⟨zero_rd ((readT_rows HQ.out).trans (tabV_head hh)) HR.out _ (errV9_some hh _ _).symm, ?_⟩
  · rw [results_cell_tmp rfl]
    go_simp
  · first | exact below4z (B02.out) _ _ _ _ | exact below4za (B02.out) _ _ _ _ _ | exact below4zd (B02.out) _ _ _ _ _
set_option maxRecDepth 100000 in
set_option maxHeartbeats 8000000 in
theorem readTable9_many (s : ByteArray) (hs : s.size ≤ 1048576) (W w : World) (hBW : Below W.heap.size W w) (hR : ImplRead W) (T : Tab) (c2 i2 k2 : Nat) (hr : readT s.data.toList = (T, c2, i2, k2)) {N : List (List UInt8)} {t : List (List (List UInt8))} (hq : csvQ s.data.toList = (N :: t, 0, 0, 0)) (hnl : ∀ r ∈ N :: t, ∀ p ∈ r, p.length ≤ 36000) (hh : (headF N).1 = 0) (hi : inZ (t.length : Int) 1 40 = false) :
    Calls Tryz.prog 35 #[.string s] w fun e w' => RdT T c2 i2 k2 w.heap.size e w' ∧ Below w.heap.size w w' := by
  have HI := Lib.hid hi
  clear hi
  have HR := Lib.hid hr
  have HC : Hid (∀ wz, Below W.heap.size W wz → Calls Tryz.prog 88 #[.string s] wz fun e w' => (∃ v, e = .returned (.tuple #[v, .agg #[.int .i64 ((0 : Nat) : Int), .int .i64 ((0 : Nat) : Int), .int .i64 ((0 : Nat) : Int)]]) ∧ SSOwn w' wz.heap.size v (N :: t)) ∧ Below wz.heap.size wz w') := Lib.hid (fun wz hB => (hR s wz hB (by omega)).mono fun e w' ⟨hp, hB⟩ => ⟨csvPost_at9 hp hq, hB⟩)
  have HQ := Lib.hid hq
  have HBW := Lib.hid hBW
  clear hr hq hR hBW
  have hA := bl_al w (.cells #[.slice none 0 0, .string ⟨#[]⟩, .slice none 0 0, .slice none 0 0] 28)
  have x0 := alloc_blk w #[.slice none 0 0, .string ⟨#[]⟩, .slice none 0 0, .slice none 0 0] 28
  go_enter Tryz.func35, Tryz.ntmps35
  go_wp2_with fail
  refine (HC.out _ (bt HBW.out hA)).mono ?_
  rintro e w1 ⟨⟨v, rfl, ho⟩, hB⟩
  have X0 := Lib.hid (blk_next x0 hB)
  have B01 := Lib.hid (bt hA hB)
  have hsz := B01.out.size
  obtain ⟨g, vc, rfl, hvc, htl, hrows⟩ := ssOwn_rows ho (by simp)
  have HRW := Lib.hid hrows
  obtain ⟨u, hcu, hun⟩ := hrows 0 N rfl
  obtain ⟨na, nc, rfl⟩ := owns_form hun
  have HUN := Lib.hid hun
  have hlu := World.block_lt_of_cell? w1 _ hcu
  have hln : (0 : Int) < (t.length : Int) + 1 := by omega
  have hln0 : ¬ (t.length : Int) + 1 = 0 := by omega
  have hlen : (N :: t).length = t.length + 1 := rfl
  rw [hlen] at hvc htl ⊢
  have HNL := Lib.hid hnl
  clear ho hB x0 hA hrows hun hnl hlen
  have p0 := cell_blk X0.out 0
  have fp0 := free_blk X0.out 0
  have p1 := cell_blk X0.out 1
  have fp1 := free_blk X0.out 1
  have p2 := cell_blk X0.out 2
  have fp2 := free_blk X0.out 2
  have p3 := cell_blk X0.out 3
  have fp3 := free_blk X0.out 3
  have lp := blk_lt X0.out
  go_wp2_with fail
  go_quiet (fail)
  go_wp2_with fail
  refine (implHead9 _ N _ ((strRow_of_owns HUN.out (owns_max HUN.out)).below (below_drewN2 (bl_al w1 (.cells #[.int .i64 0, .int .i64 0, .int .i64 0] 33)) nq)) (fun p hp => by have := HNL.out N (List.mem_cons_self) p hp; omega)).mono ?_
  rintro e w2 ⟨rfl, hB2⟩
  have BQ := bt (below_drewN2 (bl_al w1 (.cells #[.int .i64 0, .int .i64 0, .int .i64 0] 33)) nq) hB2
  have X02 := Lib.hid (blk_next X0.out BQ)
  have B02 := Lib.hid (bt B01.out BQ)
  have B12 := Lib.hid BQ
  clear p0 p1 p2 p3 fp0 fp1 fp2 fp3 lp
  clear BQ hB2 hcu hlu
  obtain ⟨hj, hhf⟩ : ∃ b, headF N = (0, b) := ⟨(headF N).2, by rw [← hh]⟩
  rw [hhf, errV9_nil]
  have p0 := cell_blk X02.out 0
  have fp0 := free_blk X02.out 0
  have p1 := cell_blk X02.out 1
  have fp1 := free_blk X02.out 1
  have p2 := cell_blk X02.out 2
  have fp2 := free_blk X02.out 2
  have p3 := cell_blk X02.out 3
  have fp3 := free_blk X02.out 3
  have lp := blk_lt X02.out
  have ht1 : (t.length : Int) + 1 - 1 = t.length := by omega
  go_wp2_with fail
  refine (inRange9 _ _ _ _).mono ?_
  rintro e w3 ⟨rfl, rfl⟩
  rw [HI.out]
  go_wp2_with fail
  refine bodyPost_ret (v := .tuple #[.agg #[.slice none 0 0, .string ⟨#[]⟩, .slice none 0 0, .slice none 0 0], .iface 99 (.agg #[.int .i64 8, .int .i64 0, .int .i64 0])]) ?_ rfl ⟨zero_rd ((readT_rows HQ.out).trans (tabV_many hh HI.out)) HR.out _ rfl, ?_⟩
  · rw [results_cell_tmp rfl]
    go_simp
  · first | exact below4z (B02.out) _ _ _ _ | exact below4za (B02.out) _ _ _ _ _ | exact below4zd (B02.out) _ _ _ _ _
theorem own_cut {w : World} {base g n c k : Nat} {T : TypeId} {xs : List Value} (h : w.ownsRow base T 1 (.slice (some ⟨g, 0, none⟩) n c) n xs) (hk : k ≤ n) : w.ownsRow base T 1 (.slice (some ⟨g, 0, none⟩) k c) k (xs.take k) := by
  have hx := h.1
  rcases h.2 with ⟨h, _⟩ | ⟨g1, c1, cur, h, h2, h3, h4, h5, h6, h7⟩
  · cases h
  · injection h with e1 e2 e3
    subst e3
    refine ⟨by rw [List.length_take]; omega, Or.inr ⟨g1, c, cur, by rw [e1], h2, h3, by omega, h5, h6, ?_⟩⟩
    rw [← h7, List.take_take]
    congr 1
    omega
theorem news_blk {w : World} {b : Nat} {T : TypeId} {x : Value} (h : w.heap[b]? = some (.cells #[x] T (0, 0))) : ∀ (j : Nat) u, [x][j]? = some u → w.cell? ((⟨b, 0, none⟩ : Addr).add j) = some u := by
  intro j u hu
  rw [addr_addV]
  have k := cell_blk h j
  rw [k]
  simpa using hu
theorem cell_set9 {w : World} {g n ob k : Nat} {u v : Value} (h : w.cell? ⟨g, n, none⟩ = some u) (hne : g ≠ ob) : (w.setCell ⟨ob, k, none⟩ v).cell? ⟨g, n, none⟩ = some u := (World.cell?_setCell_far w ⟨ob, k, none⟩ ⟨g, n, none⟩ v (fun e => hne e.symm)).trans h
abbrev SB (ob : Nat) (u2 u3 : Value) (w' : World) : Prop := w'.cell? ⟨ob, 2, none⟩ = some u2 ∧ w'.cell? ⟨ob, 3, none⟩ = some u3
abbrev HGr (gr n : Nat) (x : Int) (w' : World) : Prop := w'.cell? ⟨gr, n, none⟩ = some (.int .i64 x)
theorem SB.of {w2 W : World} {ob gr n : Nat} {p q u2 u3 : Value} {x : Int} {T : Tab} {vs : List Value} {v1 v2 v3 : Value} (h : RtO w2 W ob #[p, q, u2, u3] T vs v1 v2 v3) (hx : W.cell? ⟨gr, n, none⟩ = some (.int .i64 x)) : SB ob u2 u3 W ∧ HGr gr n x W := ⟨⟨cell_blk h.box 2, cell_blk h.box 3⟩, hx⟩
theorem tab_rd {D T : Tab} {c i k : Nat} {w : World} {base : Nat} {vs : List Value} {u1 u2 u3 : Value} (h : (D, 0, 0, 0) = (T, c, i, k)) (ho : TabOwn w base D vs u1 u2 u3) : RdT T c i k base (.returned (.tuple #[.agg #[u1, .string ⟨D.y.toArray⟩, u2, u3], .nilIface])) w := by
  simp only [Prod.mk.injEq] at h
  obtain ⟨rfl, rfl, rfl, rfl⟩ := h
  exact ⟨vs, u1, u2, u3, rfl, ho⟩
theorem own_cap {w : World} {base g n c : Nat} {T : TypeId} {xs : List Value} (h : w.ownsRow base T 1 (.slice (some ⟨g, 0, none⟩) n c) n xs) : n ≤ c := by
  rcases h.2 with ⟨h, _⟩ | ⟨g1, c1, cur, h, _, _, h4, _⟩
  · cases h
  · injection h with _ _ h3
    omega
set_option maxRecDepth 100000 in
set_option maxHeartbeats 8000000 in
theorem readTable9_main (s : ByteArray) (hs : s.size ≤ 1048576) (W w : World) (hBW : Below W.heap.size W w) (hR : ImplRead W) (T : Tab) (c2 i2 k2 : Nat) (hr : readT s.data.toList = (T, c2, i2, k2)) (hL : Lib6 W) {N : List (List UInt8)} {t : List (List (List UInt8))} (hq : csvQ s.data.toList = (N :: t, 0, 0, 0)) (hnl : ∀ r ∈ N :: t, ∀ p ∈ r, p.length ≤ 36000) (hh : (headF N).1 = 0) (hi40 : inZ (t.length : Int) 1 40 = true) :
    Calls Tryz.prog 35 #[.string s] w fun e w' => RdT T c2 i2 k2 w.heap.size e w' ∧ Below w.heap.size w w' := by
  obtain ⟨iI, gi, gz0, gz1, gz2⟩ := info_parts infoInt
  obtain ⟨iL, gj, gy0, gy1, gy2⟩ := info_parts infoSlI
  have hoH := headF_ok hh
  obtain ⟨n, hn⟩ : ∃ n, N.length = n + 1 := ⟨N.length - 1, by omega⟩
  have hn4 : 1 ≤ n ∧ n ≤ 4 := by omega
  have HI := Lib.hid hi40
  have ht40 := inZ_iff.1 hi40
  have HNn := Lib.hid hn
  obtain ⟨y, hy⟩ : ∃ y, N[n]? = some y := ⟨_, List.getElem?_eq_getElem (by omega)⟩
  obtain ⟨G, hG⟩ : ∃ G, rowsG n t 1 [] [] = G := ⟨_, rfl⟩
  have hTV : readT s.data.toList = tabG N n y G := by rw [readT_rows hq, tabV_main hh hi40 hn hy, hG]
  have HTV := Lib.hid hTV
  have HG := Lib.hid hG
  have HY := Lib.hid hy
  clear hi40 hoH hG hTV hy
  have HR := Lib.hid hr
  have HC : Hid (∀ wz, Below W.heap.size W wz → Calls Tryz.prog 88 #[.string s] wz fun e w' => (∃ v, e = .returned (.tuple #[v, .agg #[.int .i64 ((0 : Nat) : Int), .int .i64 ((0 : Nat) : Int), .int .i64 ((0 : Nat) : Int)]]) ∧ SSOwn w' wz.heap.size v (N :: t)) ∧ Below wz.heap.size wz w') := Lib.hid (fun wz hB => (hR s wz hB (by omega)).mono fun e w' ⟨hp, hB⟩ => ⟨csvPost_at9 hp hq, hB⟩)
  have HQ := Lib.hid hq
  have HBW := Lib.hid hBW
  clear hr hq hR hBW
  have hA := bl_al w (.cells #[.slice none 0 0, .string ⟨#[]⟩, .slice none 0 0, .slice none 0 0] 28)
  have x0 := alloc_blk w #[.slice none 0 0, .string ⟨#[]⟩, .slice none 0 0, .slice none 0 0] 28
  go_enter Tryz.func35, Tryz.ntmps35
  go_wp2_with fail
  refine (HC.out _ (bt HBW.out hA)).mono ?_
  rintro e w1 ⟨⟨v, rfl, ho⟩, hB⟩
  have X0 := Lib.hid (blk_next x0 hB)
  have B01 := Lib.hid (bt hA hB)
  have hsz := B01.out.size
  obtain ⟨g, vc, rfl, hvc, htl, hrows⟩ := ssOwn_rows ho (by simp)
  have HRW := Lib.hid hrows
  obtain ⟨u, hcu, hun⟩ := hrows 0 N rfl
  rw [hn] at hun
  obtain ⟨b1, nc, hub, _, _⟩ := World.ownsRow.form hun (by omega)
  subst hub
  have hncap := own_cap hun
  have HUN := Lib.hid hun
  have hsn : StrRow w1 (.slice (some ⟨b1, 0, none⟩) (n + 1) nc) N := by
    have k := hun
    rw [← hn] at k
    have k2 := strRow_of_owns k (by omega)
    rwa [hn] at k2
  have HSN := Lib.hid hsn
  have hcy1 : w1.cell? ⟨b1, n, none⟩ = some (.string ⟨y.toArray⟩) := by
    rw [hun.cellAt n (by omega), strCells, List.getElem?_map, HY.out]
    rfl
  have HCY := Lib.hid hcy1
  clear hsn hn hcy1
  have hlu := World.block_lt_of_cell? w1 _ hcu
  have hln : (0 : Int) < (t.length : Int) + 1 := by omega
  have hln0 : ¬ (t.length : Int) + 1 = 0 := by omega
  have hlen : (N :: t).length = t.length + 1 := rfl
  rw [hlen] at hvc htl ⊢
  have HNL := Lib.hid hnl
  clear ho hB x0 hA hrows hun hnl hlen
  have p0 := cell_blk X0.out 0
  have fp0 := free_blk X0.out 0
  have p1 := cell_blk X0.out 1
  have fp1 := free_blk X0.out 1
  have p2 := cell_blk X0.out 2
  have fp2 := free_blk X0.out 2
  have p3 := cell_blk X0.out 3
  have fp3 := free_blk X0.out 3
  have lp := blk_lt X0.out
  go_wp2_with fail
  go_quiet (fail)
  go_wp2_with fail
  refine (implHead9 _ N _ (HSN.out.below (below_drewN2 (bl_al w1 (.cells #[.int .i64 0, .int .i64 0, .int .i64 0] 33)) nq)) (fun p hp => by have := HNL.out N (List.mem_cons_self) p hp; omega)).mono ?_
  rintro e w2 ⟨rfl, hB2⟩
  have BQ := bt (below_drewN2 (bl_al w1 (.cells #[.int .i64 0, .int .i64 0, .int .i64 0] 33)) nq) hB2
  have X02 := Lib.hid (blk_next X0.out BQ)
  have B02 := Lib.hid (bt B01.out BQ)
  have B12 := Lib.hid BQ
  clear p0 p1 p2 p3 fp0 fp1 fp2 fp3 lp
  clear BQ hB2 hcu hlu
  obtain ⟨hj, hhf⟩ : ∃ b, headF N = (0, b) := ⟨(headF N).2, by rw [← hh]⟩
  rw [hhf, errV9_nil]
  have p0 := cell_blk X02.out 0
  have fp0 := free_blk X02.out 0
  have p1 := cell_blk X02.out 1
  have fp1 := free_blk X02.out 1
  have p2 := cell_blk X02.out 2
  have fp2 := free_blk X02.out 2
  have p3 := cell_blk X02.out 3
  have fp3 := free_blk X02.out 3
  have lp := blk_lt X02.out
  have ht1 : (t.length : Int) + 1 - 1 = t.length := by omega
  have hn1 : (n : Int) + 1 - 1 = n := by omega
  have hwn : wrap64 ((n : Int) + 1 - 1) = n := by unfold wrap64; omega
  go_wp2_with fail
  refine (inRange9 _ _ _ _).mono ?_
  rintro e w3 ⟨rfl, rfl⟩
  rw [HI.out]
  have hcy := (B12.out.cell (World.block_lt_of_cell? w1 _ HCY.out)).trans HCY.out
  have hly := World.block_lt_of_cell? w2 _ hcy
  have hncI : (n : Int) ≤ nc := by omega
  have hn0I : (0 : Int) ≤ n := by omega
  have hnlt : (n : Int) < (n : Int) + 1 := by omega
  go_upto_region 12 with fail
  go_cut [9] (fun v9 wx => ∃ ob : Nat, v9 = .pointer (some ⟨ob, 0, none⟩) ∧ RtO w2 wx ob #[.slice (some ⟨b1, 0, none⟩) n nc, .string ⟨y.toArray⟩, .slice none 0 0, .slice none 0 0] ⟨[], y, [], []⟩ [] (.slice none 0 0) (.slice none 0 0) (.slice none 0 0))
  case first =>
    go_region
    all_goals go_wp2_with fail
    all_goals go_meet
    all_goals (try case rel => exact ⟨_, rfl, ((Below.refl _ _).drew).alloc (Nat.le_refl _) _, alloc_blk w2.drew _ _, ⟨⟨rfl, Or.inl ⟨rfl, rfl⟩⟩, ⟨rfl, Or.inl ⟨rfl, rfl⟩⟩, RowsOwn.nil _ _ _, ⟨rfl, Or.inl ⟨rfl, rfl⟩⟩, by simp⟩, Nat.le_refl _⟩)
  case rest =>
    obtain ⟨ob, rfl, hRO⟩ := hcut
    have HRO := Lib.hid hRO
    clear hRO hcy hly hncI hn0I hnlt
    clear p0 p1 p2 p3 fp0 fp1 fp2 fp3 lp
    have htc : (1 : Int) ≤ (t.length : Int) + 1 := by omega
    have htv : (t.length : Int) + 1 ≤ vc := by omega
    go_wp2_with fail
    go_loopg [10, 11, 12, 13, 67] t.length (fun q _ _ _ _ i_ wr => ∃ (a : Nat) (R : List (List Int)) (Y : List Int) (vs : List Value) (u2 u3 : Value), a ≤ t.length ∧ q = t.length - a ∧ i_ = .int .i64 a ∧ R.length = a ∧ Y.length = a ∧ rowsG n (t.drop a) (a + 1) R Y = G ∧ RtO w2 wr ob #[.slice (some ⟨b1, 0, none⟩) n nc, .string ⟨y.toArray⟩, u2, u3] ⟨[], y, R, Y⟩ vs (.slice none 0 0) u2 u3)
    case atStart => exact ⟨0, [], [], [], _, _, Nat.zero_le _, rfl, rfl, rfl, rfl, HG.out, HRO.out⟩
    case round =>
      clear HRO
      obtain ⟨a, R, Y, vs, u2, u3, ha2, rfl, rfl, hRl, hYl, hrg, hO⟩ := hrel
      have HRG := Lib.hid hrg
      have HO := Lib.hid hO
      have HRl := Lib.hid hRl
      have HYl := Lib.hid hYl
      clear hrg hO hRl hYl
      by_cases hlt : a < t.length
      · have hj1 : (a : Int) < t.length := by omega
        have hj0 : (0 : Int) ≤ a := by omega
        obtain ⟨r, hr9⟩ : ∃ r, t[a]? = some r := ⟨_, List.getElem?_eq_getElem hlt⟩
        have hra : (N :: t)[a + 1]? = some r := by simpa using hr9
        have hdr : t.drop a = r :: t.drop (a + 1) := by
          rw [List.drop_eq_getElem_cons hlt]
          congr 1
          exact (List.getElem?_eq_some_iff.1 hr9).2
        have HD : Hid (rowsG n (r :: t.drop (a + 1)) (a + 1) R Y = G) := Lib.hid (by rw [← hdr]; exact HRG.out)
        obtain ⟨u, hcu1, hur⟩ := HRW.out (a + 1) r hra
        have hB1r := bt B12.out HO.out.bel
        have hcu := (hB1r.cell (World.block_lt_of_cell? w1 _ hcu1)).trans hcu1
        have hcu' : wr.cell? ⟨g, 1 + a, none⟩ = some u := by rw [Nat.add_comm]; exact hcu
        have hlu := World.block_lt_of_cell? wr _ hcu
        obtain ⟨ra, rc, rfl⟩ := owns_form hur
        have HSR : Hid (StrRow wr (.slice ra r.length rc) r) := Lib.hid ((strRow_of_owns hur (owns_max hur)).below hB1r)
        have HNR : Hid (∀ p ∈ r, p.length ≤ 36000) := Lib.hid (fun p hp => HNL.out r (List.mem_of_getElem? hra) p hp)
        have HWr : Hid (Below W.heap.size W wr) := Lib.hid (bt HBW.out (bt B02.out HO.out.bel))
        clear hr9 hra hdr HRG hcu1 hur hB1r
        by_cases hw : r.length = n + 1
        · have HW := Lib.hid hw
          have HRN := Lib.hid (readNum9 W hL (.slice ra r.length rc) r (a + 1) wr HWr.out HSR.out (by omega) (fun p hp => by have := HNR.out p hp; omega))
          rw [hw] at HRN hcu hcu'
          clear hw
          cases hF : fldsG r 0 [] with
          | inr k =>
            rw [hF] at HRN
            have HF9 : Hid (G = .inr (9, a + 1, k)) := Lib.hid (by
              have h2 := HD.out
              rw [rowsG, if_pos HW.out, hF] at h2
              exact h2.symm)
            clear hF
            go_wp2_with fail
            refine HRN.out.mono ?_
            rintro e w5 ⟨hrn, hB5⟩
            obtain rfl : e = _ := hrn
            have X05 := blk_next X02.out (bt HO.out.bel hB5)
            have B05 := Lib.hid (bt B02.out (bt HO.out.bel hB5))
            clear hB5 hcu hcu' hlu
            have p0 := cell_blk X05 0
            have fp0 := free_blk X05 0
            have p1 := cell_blk X05 1
            have fp1 := free_blk X05 1
            have p2 := cell_blk X05 2
            have fp2 := free_blk X05 2
            have p3 := cell_blk X05 3
            have fp3 := free_blk X05 3
            have lp := blk_lt X05
            go_wp2_with fail
            refine bodyPost_ret (v := .tuple #[.agg #[.slice none 0 0, .string ⟨#[]⟩, .slice none 0 0, .slice none 0 0], .iface 99 (.agg #[.int .i64 9, .int .i64 ((a : Int) + 1), .int .i64 (k : Int)])]) ?_ rfl ⟨zero_rd (HTV.out.trans (by rw [HF9.out]; rfl)) HR.out _ rfl, ?_⟩
            · rw [results_cell_tmp rfl]
              go_simp
            · first | exact below4z (B05.out) _ _ _ _ | exact below4za (B05.out) _ _ _ _ _ | exact below4zd (B05.out) _ _ _ _ _
          | inl xs =>
            rw [hF] at HRN
            have hxl := fldsG_len hF
            have HACC := Lib.hid hF
            clear hF
            go_wp2_with fail
            refine HRN.out.mono ?_
            rintro e w5 ⟨⟨v5, hrn, hrow5⟩, hB5⟩
            obtain rfl : e = _ := hrn
            have hxl2 : xs.length = n + 1 := by rw [hxl, HW.out]; simp
            rw [hxl2] at hrow5
            obtain ⟨gr, cr, hvr, _, _⟩ := World.ownsRow.form hrow5 (by omega)
            subst hvr
            have hcr := own_cap hrow5
            have hncr : (n : Int) ≤ cr := by omega
            have hn0 : (0 : Int) ≤ n := by omega
            have hnr : (n : Int) < (n : Int) + 1 := by omega
            obtain ⟨x, hx⟩ : ∃ x, xs[n]? = some x := ⟨_, List.getElem?_eq_getElem (by omega)⟩
            have HXC : Hid ((intCells xs)[n]? = some (.int .i64 x)) := Lib.hid (intCells_at hx)
            have HXG : Hid (x = xs.getD n 0) := Lib.hid (by rw [List.getD_eq_getElem?_getD, hx]; rfl)
            have HTN : Hid ((xs.take n).length = n) := Lib.hid (by rw [List.length_take, hxl2]; omega)
            have HTK : Hid (intCells (xs.take n) = (intCells xs).take n) := Lib.hid (by unfold intCells; rw [List.map_take])
            have HO5 := Lib.hid (HO.out.next hB5)
            have HV1 : Hid (∀ (j : Nat) x g, vs[j]? = some x → x.ownBlock = some g → g < wr.heap.size) := Lib.hid (fun j x g hx hg => (HO.out.own.2.2.1.lt hx hg).2)
            have HV3 : Hid (∀ g, u3.ownBlock = some g → g < wr.heap.size) := Lib.hid (fun g hg => (HO.out.own.2.2.2.1.lt g hg).2)
            have HOB : Hid (ob < wr.heap.size) := Lib.hid (blk_lt HO.out.box)
            have HSW : Hid (w2.heap.size ≤ wr.heap.size) := Lib.hid HO.out.bel.size
            have hR40 : R.length + 1 ≤ 40 := by have := HRl.out; omega
            have hY40 : Y.length + 1 ≤ 40 := by have := HYl.out; omega
            clear hB5 hcu hcu' hlu hx hxl hxl2 HO HRN
            go_upto_region 19 with fail
            have hS0 : SB ob u2 u3 w5.drew ∧ HGr gr n x w5.drew := SB.of (HO5.out.next ((Below.refl _ _).drew)) (((owns_bl hrow5 ((Below.refl _ _).drew)).cellAt n (by omega)).trans HXC.out)
            refine wp_region_noPanic ?_
            refine wp_region_K (S := (SB ob u2 u3)) (H := (HGr gr n x)) (k := 16) (by kernel_rfl) hS0 (fun hHeld => ?_)
            clear hS0
            refine anyK_take (i := 0) (oi := ?o8) (v := ?v8) ?hi8 ?hs8 ?hf8 ?hr8 ?hQ8 ?hw8 ?hy8 ?hS8 ?rest8
            case hi8 => rfl
            case hs8 => kernel_rfl
            case hf8 => kernel_rfl
            case hr8 => kernel_rfl
            case hQ8 => exact fun _ _ _ h => h
            case hw8 => kernel_rfl
            case hS8 => assumption
            case hy8 =>
              refine Or.inl ⟨by kernel_rfl, ?_⟩
              intro w' hSw
              (try dsimp only at hSw)
              go_simp
              (try rfl)
            (try simp only [List.getElem_toArray, List.getElem_cons_zero, Act.put, List.setIfInBounds_toArray, List.set_cons_zero, List.set_cons_succ])
            refine anyK_take (i := 1) (oi := ?o9) (v := ?v9) ?hi9 ?hs9 ?hf9 ?hr9 ?hQ9 ?hw9 ?hy9 ?hS9 ?rest9
            case hi9 => rfl
            case hs9 => kernel_rfl
            case hf9 => kernel_rfl
            case hr9 => kernel_rfl
            case hQ9 => exact fun _ _ _ h => h
            case hw9 => kernel_rfl
            case hS9 => assumption
            case hy9 =>
              refine Or.inl ⟨by kernel_rfl, ?_⟩
              intro w' hSw
              (try dsimp only at hSw)
              go_simp
              (try rfl)
            (try simp only [List.getElem_toArray, List.getElem_cons_succ, List.getElem_cons_zero, Act.put, List.setIfInBounds_toArray, List.set_cons_zero, List.set_cons_succ])
            refine anyK_take (i := 2) (oi := ?o10) (v := ?v10) ?hi10 ?hs10 ?hf10 ?hr10 ?hQ10 ?hw10 ?hy10 ?hS10 ?rest10
            case hi10 => rfl
            case hs10 => kernel_rfl
            case hf10 => kernel_rfl
            case hr10 => kernel_rfl
            case hQ10 => exact fun _ _ _ h => h
            case hw10 => kernel_rfl
            case hS10 => assumption
            case hy10 =>
              refine Or.inl ⟨by kernel_rfl, ?_⟩
              intro w' hSw
              (try dsimp only at hSw)
              go_simp
              (try rfl)
            (try simp only [List.getElem_toArray, List.getElem_cons_succ, List.getElem_cons_zero, Act.put, List.setIfInBounds_toArray, List.set_cons_zero, List.set_cons_succ])
            refine anyK_take (i := 3) (oi := ?o11) (v := ?v11) ?hi11 ?hs11 ?hf11 ?hr11 ?hQ11 ?hw11 ?hy11 ?hS11 ?rest11
            case hi11 => rfl
            case hs11 => kernel_rfl
            case hf11 => kernel_rfl
            case hr11 => kernel_rfl
            case hQ11 => exact fun _ _ _ h => h
            case hw11 => kernel_rfl
            case hS11 => assumption
            case hy11 =>
              refine Or.inl ⟨by kernel_rfl, ?_⟩
              intro w' hSw
              (try dsimp only at hSw)
              go_simp
              (try rfl)
            (try simp only [List.getElem_toArray, List.getElem_cons_succ, List.getElem_cons_zero, Act.put, List.setIfInBounds_toArray, List.set_cons_zero, List.set_cons_succ])
            refine anyK_take (i := 4) (oi := ?o12) (v := ?v12) ?hi12 ?hs12 ?hf12 ?hr12 ?hQ12 ?hw12 ?hy12 ?hS12 ?rest12
            case hi12 => rfl
            case hs12 => kernel_rfl
            case hf12 => kernel_rfl
            case hr12 => kernel_rfl
            case hQ12 => exact fun _ _ _ h => h
            case hw12 => kernel_rfl
            case hS12 => assumption
            case hy12 =>
              refine Or.inl ⟨by kernel_rfl, ?_⟩
              intro w' hSw
              (try dsimp only at hSw)
              go_simp
              (try rfl)
            (try simp only [List.getElem_toArray, List.getElem_cons_succ, List.getElem_cons_zero, Act.put, List.setIfInBounds_toArray, List.set_cons_zero, List.set_cons_succ])
            refine anyK_take (i := 7) (oi := ?o13) (v := ?v13) ?hi13 ?hs13 ?hf13 ?hr13 ?hQ13 ?hw13 ?hy13 ?hS13 ?rest13
            case hi13 => rfl
            case hs13 => kernel_rfl
            case hf13 => kernel_rfl
            case hr13 => kernel_rfl
            case hQ13 => exact fun _ _ _ h => h
            case hw13 => kernel_rfl
            case hS13 => assumption
            case hy13 =>
              refine Or.inl ⟨by kernel_rfl, ?_⟩
              intro w' hSw
              (try dsimp only at hSw)
              go_simp
              (try rfl)
            (try simp only [List.getElem_toArray, List.getElem_cons_succ, List.getElem_cons_zero, Act.put, List.setIfInBounds_toArray, List.set_cons_zero, List.set_cons_succ])
            refine anyK_take (i := 8) (oi := ?o14) (v := ?v14) ?hi14 ?hs14 ?hf14 ?hr14 ?hQ14 ?hw14 ?hy14 ?hS14 ?rest14
            case hi14 => rfl
            case hs14 => kernel_rfl
            case hf14 => kernel_rfl
            case hr14 => kernel_rfl
            case hQ14 => exact fun _ _ _ h => h
            case hw14 => kernel_rfl
            case hS14 => assumption
            case hy14 =>
              refine Or.inl ⟨by kernel_rfl, ?_⟩
              intro w' hSw
              (try dsimp only at hSw)
              go_simp
              (try rfl)
            (try simp only [List.getElem_toArray, List.getElem_cons_succ, List.getElem_cons_zero, Act.put, List.setIfInBounds_toArray, List.set_cons_zero, List.set_cons_succ])
            refine anyK_takeH (i := 9) (oi := ?o15) (v := ?v15) ?hi15 ?hs15 ?hf15 ?hr15 ?hQ15 ?hw15 ?hy15 ?hS15 ?rest15
            case hi15 => rfl
            case hs15 => kernel_rfl
            case hf15 => kernel_rfl
            case hr15 => kernel_rfl
            case hQ15 => exact fun _ _ _ h => h
            case hw15 => kernel_rfl
            case hS15 => assumption
            case hy15 =>
              refine Or.inl ⟨by kernel_rfl, ?_⟩
              intro w' hSw
              (try dsimp only at hSw)
              go_simp
              (try rfl)
            (try simp only [List.getElem_toArray, List.getElem_cons_succ, List.getElem_cons_zero, Act.put, List.setIfInBounds_toArray, List.set_cons_zero, List.set_cons_succ])
            refine anyK_takeH (i := 10) (oi := ?o16) (v := ?v16) ?hi16 ?hs16 ?hf16 ?hr16 ?hQ16 ?hw16 ?hy16 ?hS16 ?rest16
            case hi16 => rfl
            case hs16 => kernel_rfl
            case hf16 => kernel_rfl
            case hr16 => kernel_rfl
            case hQ16 => exact fun _ _ _ h => h
            case hw16 => kernel_rfl
            case hS16 => assumption
            case hy16 =>
              refine Or.inl ⟨by kernel_rfl, ?_⟩
              intro w' hSw
              (try dsimp only at hSw)
              go_simp
              (try rfl)
            (try simp only [List.getElem_toArray, List.getElem_cons_succ, List.getElem_cons_zero, Act.put, List.setIfInBounds_toArray, List.set_cons_zero, List.set_cons_succ])
            refine anyK_takeH (i := 11) (oi := ?o17) (v := ?v17) ?hi17 ?hs17 ?hf17 ?hr17 ?hQ17 ?hw17 ?hy17 ?hS17 ?rest17
            case hi17 => rfl
            case hs17 => kernel_rfl
            case hf17 => kernel_rfl
            case hr17 => kernel_rfl
            case hQ17 => exact fun _ _ _ h => h
            case hw17 => kernel_rfl
            case hS17 => assumption
            case hy17 =>
              refine Or.inl ⟨by kernel_rfl, ?_⟩
              intro w' hSw
              (try dsimp only at hSw)
              go_simp
              (try rfl)
            (try simp only [List.getElem_toArray, List.getElem_cons_succ, List.getElem_cons_zero, Act.put, List.setIfInBounds_toArray, List.set_cons_zero, List.set_cons_succ])
            refine anyK_takeH (i := 12) (oi := ?o18) (v := ?v18) ?hi18 ?hs18 ?hf18 ?hr18 ?hQ18 ?hw18 ?hy18 ?hS18 ?rest18
            case hi18 => rfl
            case hs18 => kernel_rfl
            case hf18 => kernel_rfl
            case hr18 => kernel_rfl
            case hQ18 => exact fun _ _ _ h => h
            case hw18 => kernel_rfl
            case hS18 => assumption
            case hy18 =>
              refine Or.inl ⟨by kernel_rfl, ?_⟩
              intro w' hSw
              (try dsimp only at hSw)
              go_simp
              (try rfl)
            (try simp only [List.getElem_toArray, List.getElem_cons_succ, List.getElem_cons_zero, Act.put, List.setIfInBounds_toArray, List.set_cons_zero, List.set_cons_succ])
            refine anyK_ready (rs := [5, 13]) (by kernel_rfl) (by simp) ?_
            refine allK_cons rfl (fun K hK => ?_) (allK_cons rfl (fun K hK => ?_) allK_nil)
            · go_simp
              have hBw1 : Below w5.heap.size w5 (w5.drew.alloc (.cells #[.slice (some ⟨gr, 0, none⟩) n cr] 26)) := ((Below.refl _ _).drew).alloc (Nat.le_refl _) _
              have HA1 := Lib.hid (HO5.out.next hBw1)
              have hrw1 := owns_bl hrow5 hBw1
              have hbk1 : (w5.drew.alloc (.cells #[.slice (some ⟨gr, 0, none⟩) n cr] 26)).heap[w5.heap.size]? = some (.cells #[.slice (some ⟨gr, 0, none⟩) n cr] 26 (0, 0)) := alloc_blk w5.drew _ _
              refine hK.out _ _ (SB.of HA1.out ((hrw1.cellAt n (by omega)).trans HXC.out)) (fun hHeld => ?_)
              clear hK K
              (try simp only [List.getElem_toArray, List.getElem_cons_succ, List.getElem_cons_zero, Act.put, List.setIfInBounds_toArray, List.set_cons_zero, List.set_cons_succ])
              refine anyK_ready (rs := [6, 13]) (by kernel_rfl) (by simp) ?_
              refine allK_cons rfl (fun K hK => ?_) (allK_cons rfl (fun K hK => ?_) allK_nil)
              · refine step_append_t rfl (.tmp 86) (.tmp 90) 25 rfl w2.heap.size 26 iL (.slice none 0 0) 1 24 Tryz.underlying25 gj gy0 gy1 gy2 rfl (by decide) u2 R.length vs (by simp [Act.eval]) HA1.out.own.2.1 ⟨w5.heap.size, 0, none⟩ 1 1 [.slice (some ⟨gr, 0, none⟩) n cr] (by simp [Act.eval]) rfl (news_blk hbk1) (by intro y hy; simp at hy; subst hy; rfl) (by unfold maxLen; omega) (by omega) HA1.out.bel.size ?_
                intro v8 w8 hown8 hg8
                obtain ⟨a8, c8, rfl⟩ := owns_form hown8
                have HP := Lib.hid (HA1.out.pushR (lo := wr.heap.size) (v := .slice (some ⟨gr, 0, none⟩) n cr) (r := xs.take n) (by rw [HTN.out, HTK.out]; exact World.ownsRow.mono (own_cut hrw1 (Nat.le_succ n)) HSW.out) (fun j x g hx hg => HV1.out j x g hx hg) (fun g hg => (hrow5.lt g hg).1) HV3.out hg8 hown8)
                have hrw8 := owns_keep hrw1 HA1.out.own.2.1 (by decide) hg8
                refine hK.out _ _ (SB.of HP.out ((hrw8.cellAt n (by omega)).trans HXC.out)) (fun hHeld => ?_)
                clear hK K
                (try simp only [List.getElem_toArray, List.getElem_cons_succ, List.getElem_cons_zero, Act.put, List.setIfInBounds_toArray, List.set_cons_zero, List.set_cons_succ])
                refine anyK_take (i := 15) (oi := ?o19) (v := ?v19) ?hi19 ?hs19 ?hf19 ?hr19 ?hQ19 ?hw19 ?hy19 ?hS19 ?rest19
                case hi19 => rfl
                case hs19 => kernel_rfl
                case hf19 => kernel_rfl
                case hr19 => kernel_rfl
                case hQ19 => exact fun _ _ _ h => h
                case hw19 => kernel_rfl
                case hS19 => assumption
                case hy19 =>
                  refine Or.inl ⟨by kernel_rfl, ?_⟩
                  intro w' hSw
                  (try dsimp only at hSw)
                  go_simp
                  (try rfl)
                (try simp only [List.getElem_toArray, List.getElem_cons_succ, List.getElem_cons_zero, Act.put, List.setIfInBounds_toArray, List.set_cons_zero, List.set_cons_succ])
                refine anyK_ready (rs := [13]) (by kernel_rfl) (by simp) ?_
                refine allK_cons rfl (fun K hK => ?_) allK_nil
                go_simp
                have hBq := bl_al w8 (.cells #[.int .i64 x] 3)
                have HQ := Lib.hid (HP.out.next hBq)
                have hrwq := owns_bl hrw8 hBq
                have hbq := alloc_blk w8 #[.int .i64 x] 3
                refine hK.out _ _ (SB.of HQ.out ((hrwq.cellAt n (by omega)).trans HXC.out)) (fun hHeld => ?_)
                clear hK K
                (try simp only [List.getElem_toArray, List.getElem_cons_succ, List.getElem_cons_zero, Act.put, List.setIfInBounds_toArray, List.set_cons_zero, List.set_cons_succ])
                refine anyK_ready (rs := [14]) (by kernel_rfl) (by simp) ?_
                refine allK_cons rfl (fun K hK => ?_) allK_nil
                refine step_append_lies _ rfl (.tmp 93) (.tmp 98) 26 rfl w2.heap.size 3 iI (.int .i64 0) 1 8 Tryz.underlying26 gi gz0 gz1 gz2 rfl (by decide) u3 Y.length (intCells Y) (by simp [Act.eval]) HQ.out.own.2.2.2.1 ⟨w8.heap.size, 0, none⟩ 1 1 [.int .i64 x] (by simp [Act.eval]) rfl (news_blk hbq) (by intro y hy; simp at hy; subst hy; rfl) (by omega) (by unfold maxLen; omega) (by omega) HQ.out.bel.size _ rfl ?_
                intro g9 c9 w9 hown9 hg9 hat9 _
                have HZ := Lib.hid (HQ.out.pushY hg9 hown9 (hat9.imp id (fun e => Nat.le_of_eq e.symm)))
                have hc9 := ((hrwq).cellAt n (by omega)).trans HXC.out
                have hlt9 := World.block_lt_of_cell? _ _ hc9
                have hne9 : gr ≠ ob := fun e => by have := (hrow5.lt gr rfl).1; have := HOB.out; omega
                have hx9 : w9.cell? ⟨gr, n, none⟩ = some (.int .i64 x) := (World.cell?_of_block (hg9.block gr hlt9 (fun e => absurd (HV3.out gr e.symm) (by have := (hrow5.lt gr rfl).1; omega)))).trans hc9
                refine hK.out _ _ (SB.of HZ.out hx9) (fun hHeld => ?_)
                clear hK K
                (try simp only [List.getElem_toArray, List.getElem_cons_succ, List.getElem_cons_zero, Act.put, List.setIfInBounds_toArray, List.set_cons_zero, List.set_cons_succ])
                have d2 := cell_blk HZ.out.box 2
                have e2 := free_blk HZ.out.box 2
                have d3 := cell_blk HZ.out.box 3
                have e3 := free_blk HZ.out.box 3
                have l9 := blk_lt HZ.out.box
                have hx9a : HGr gr n x (w9.setCell ⟨ob, 2, none⟩ (.slice a8 (R.length + 1) c8)) := cell_set9 hx9 hne9
                have hx9b : HGr gr n x ((w9.setCell ⟨ob, 2, none⟩ (.slice a8 (R.length + 1) c8)).setCell ⟨ob, 3, none⟩ (.slice (some ⟨g9, 0, none⟩) (Y.length + 1) c9)) := cell_set9 hx9a hne9
                clear hc9 hlt9 hHeld
                refine anyK_ready (rs := [16]) (by kernel_rfl) (by simp) ?_
                refine allK_past rfl (by kernel_rfl) (fun K hK => ?_)
                go_simp
                refine hK.out _ _ (hx9a) (fun hHeld => ?_)
                clear hK K
                (try simp only [List.getElem_toArray, List.getElem_cons_succ, List.getElem_cons_zero, Act.put, List.setIfInBounds_toArray, List.set_cons_zero, List.set_cons_succ])
                refine anyK_ready (rs := [17]) (by kernel_rfl) (by simp) ?_
                refine allK_past rfl (by kernel_rfl) (fun K hK => ?_)
                go_simp
                refine hK.out _ _ (hx9a) (fun hHeld => ?_)
                clear hK K
                (try simp only [List.getElem_toArray, List.getElem_cons_succ, List.getElem_cons_zero, Act.put, List.setIfInBounds_toArray, List.set_cons_zero, List.set_cons_succ])
                refine anyK_ready (rs := [18]) (by kernel_rfl) (by simp) ?_
                refine allK_past rfl (by kernel_rfl) (fun K hK => ?_)
                go_simp
                refine hK.out _ _ (hx9b) (fun hHeld => ?_)
                clear hK K
                (try simp only [List.getElem_toArray, List.getElem_cons_succ, List.getElem_cons_zero, Act.put, List.setIfInBounds_toArray, List.set_cons_zero, List.set_cons_succ])
                refine anyK_done (by kernel_rfl) ?_ _
                refine NoPanic.normal ?_
                have HF3 := Lib.hid ((HZ.out.set 2 (.slice a8 (R.length + 1) c8)).set 3 (.slice (some ⟨g9, 0, none⟩) (Y.length + 1) c9))
                have HD2 : Hid (rowsG n (t.drop (a + 1)) (a + 1 + 1) (R ++ [xs.take n]) (Y ++ [x]) = G) := Lib.hid (by
                  have h := HD.out
                  rw [rowsG, if_pos HW.out, HACC.out] at h
                  rw [HXG.out]
                  exact h)
                clear HZ d2 e2 d3 e3 l9
                go_wp2_with fail
                go_roundg (t.length - (a + 1))
                case measure => omega
                case rel => exact ⟨a + 1, R ++ [xs.take n], Y ++ [x], vs ++ [.slice (some ⟨gr, 0, none⟩) n cr], _, _, by omega, rfl, by go_num, by rw [List.length_append, HRl.out]; rfl, by rw [List.length_append, HYl.out]; rfl, HD2.out, by simpa using HF3.out⟩
              · go_simp
                have hBw2 : Below w5.heap.size w5 ((w5.drew.alloc (.cells #[.slice (some ⟨gr, 0, none⟩) n cr] 26)).alloc (.cells #[.int .i64 x] 3)) := bt hBw1 (bl_al _ _)
                have HA2 := Lib.hid (HO5.out.next hBw2)
                have hrw2 := owns_bl hrow5 hBw2
                have hbk2 : ((w5.drew.alloc (.cells #[.slice (some ⟨gr, 0, none⟩) n cr] 26)).alloc (.cells #[.int .i64 x] 3)).heap[(w5.heap.size + 1)]? = some (.cells #[.int .i64 x] 3 (0, 0)) := (by have h := alloc_blk (w5.drew.alloc (.cells #[.slice (some ⟨gr, 0, none⟩) n cr] 26)) #[.int .i64 x] 3; simpa using h)
                refine hK.out _ _ (SB.of HA2.out ((hrw2.cellAt n (by omega)).trans HXC.out)) (fun hHeld => ?_)
                clear hK K
                (try simp only [List.getElem_toArray, List.getElem_cons_succ, List.getElem_cons_zero, Act.put, List.setIfInBounds_toArray, List.set_cons_zero, List.set_cons_succ])
                have hbk1b := blk_al hbk1 (.cells #[.int .i64 x] 3)
                refine anyK_ready (rs := [6]) (by kernel_rfl) (by simp) ?_
                refine allK_cons rfl (fun K hK => ?_) allK_nil
                refine step_append_t rfl (.tmp 86) (.tmp 90) 25 rfl w2.heap.size 26 iL (.slice none 0 0) 1 24 Tryz.underlying25 gj gy0 gy1 gy2 rfl (by decide) u2 R.length vs (by simp [Act.eval]) HA2.out.own.2.1 ⟨w5.heap.size, 0, none⟩ 1 1 [.slice (some ⟨gr, 0, none⟩) n cr] (by simp [Act.eval]) rfl (news_blk hbk1b) (by intro y hy; simp at hy; subst hy; rfl) (by unfold maxLen; omega) (by omega) HA2.out.bel.size ?_
                intro v8 w8 hown8 hg8
                obtain ⟨a8, c8, rfl⟩ := owns_form hown8
                have HP := Lib.hid (HA2.out.pushR (lo := wr.heap.size) (v := .slice (some ⟨gr, 0, none⟩) n cr) (r := xs.take n) (by rw [HTN.out, HTK.out]; exact World.ownsRow.mono (own_cut hrw2 (Nat.le_succ n)) HSW.out) (fun j x g hx hg => HV1.out j x g hx hg) (fun g hg => (hrow5.lt g hg).1) HV3.out hg8 hown8)
                have hrw8 := owns_keep hrw2 HA2.out.own.2.1 (by decide) hg8
                have hb13 := (hg8.block _ (blk_lt hbk2) (fun e => cell_apP hbk2 HA2.out.own.2.1 (by decide) e.symm)).trans hbk2
                refine hK.out _ _ (SB.of HP.out ((hrw8.cellAt n (by omega)).trans HXC.out)) (fun hHeld => ?_)
                clear hK K
                (try simp only [List.getElem_toArray, List.getElem_cons_succ, List.getElem_cons_zero, Act.put, List.setIfInBounds_toArray, List.set_cons_zero, List.set_cons_succ])
                refine anyK_take (i := 15) (oi := ?o20) (v := ?v20) ?hi20 ?hs20 ?hf20 ?hr20 ?hQ20 ?hw20 ?hy20 ?hS20 ?rest20
                case hi20 => rfl
                case hs20 => kernel_rfl
                case hf20 => kernel_rfl
                case hr20 => kernel_rfl
                case hQ20 => exact fun _ _ _ h => h
                case hw20 => kernel_rfl
                case hS20 => assumption
                case hy20 =>
                  refine Or.inl ⟨by kernel_rfl, ?_⟩
                  intro w' hSw
                  (try dsimp only at hSw)
                  go_simp
                  (try rfl)
                (try simp only [List.getElem_toArray, List.getElem_cons_succ, List.getElem_cons_zero, Act.put, List.setIfInBounds_toArray, List.set_cons_zero, List.set_cons_succ])
                refine anyK_ready (rs := [14]) (by kernel_rfl) (by simp) ?_
                refine allK_cons rfl (fun K hK => ?_) allK_nil
                refine step_append_lies _ rfl (.tmp 93) (.tmp 98) 26 rfl w2.heap.size 3 iI (.int .i64 0) 1 8 Tryz.underlying26 gi gz0 gz1 gz2 rfl (by decide) u3 Y.length (intCells Y) (by simp [Act.eval]) HP.out.own.2.2.2.1 ⟨(w5.heap.size + 1), 0, none⟩ 1 1 [.int .i64 x] (by simp [Act.eval]) rfl (news_blk hb13) (by intro y hy; simp at hy; subst hy; rfl) (by omega) (by unfold maxLen; omega) (by omega) HP.out.bel.size _ rfl ?_
                intro g9 c9 w9 hown9 hg9 hat9 _
                have HZ := Lib.hid (HP.out.pushY hg9 hown9 (hat9.imp id (fun e => Nat.le_of_eq e.symm)))
                have hc9 := ((hrw8).cellAt n (by omega)).trans HXC.out
                have hlt9 := World.block_lt_of_cell? _ _ hc9
                have hne9 : gr ≠ ob := fun e => by have := (hrow5.lt gr rfl).1; have := HOB.out; omega
                have hx9 : w9.cell? ⟨gr, n, none⟩ = some (.int .i64 x) := (World.cell?_of_block (hg9.block gr hlt9 (fun e => absurd (HV3.out gr e.symm) (by have := (hrow5.lt gr rfl).1; omega)))).trans hc9
                refine hK.out _ _ (SB.of HZ.out hx9) (fun hHeld => ?_)
                clear hK K
                (try simp only [List.getElem_toArray, List.getElem_cons_succ, List.getElem_cons_zero, Act.put, List.setIfInBounds_toArray, List.set_cons_zero, List.set_cons_succ])
                have d2 := cell_blk HZ.out.box 2
                have e2 := free_blk HZ.out.box 2
                have d3 := cell_blk HZ.out.box 3
                have e3 := free_blk HZ.out.box 3
                have l9 := blk_lt HZ.out.box
                have hx9a : HGr gr n x (w9.setCell ⟨ob, 2, none⟩ (.slice a8 (R.length + 1) c8)) := cell_set9 hx9 hne9
                have hx9b : HGr gr n x ((w9.setCell ⟨ob, 2, none⟩ (.slice a8 (R.length + 1) c8)).setCell ⟨ob, 3, none⟩ (.slice (some ⟨g9, 0, none⟩) (Y.length + 1) c9)) := cell_set9 hx9a hne9
                clear hc9 hlt9 hHeld
                refine anyK_ready (rs := [16]) (by kernel_rfl) (by simp) ?_
                refine allK_past rfl (by kernel_rfl) (fun K hK => ?_)
                go_simp
                refine hK.out _ _ (hx9a) (fun hHeld => ?_)
                clear hK K
                (try simp only [List.getElem_toArray, List.getElem_cons_succ, List.getElem_cons_zero, Act.put, List.setIfInBounds_toArray, List.set_cons_zero, List.set_cons_succ])
                refine anyK_ready (rs := [17]) (by kernel_rfl) (by simp) ?_
                refine allK_past rfl (by kernel_rfl) (fun K hK => ?_)
                go_simp
                refine hK.out _ _ (hx9a) (fun hHeld => ?_)
                clear hK K
                (try simp only [List.getElem_toArray, List.getElem_cons_succ, List.getElem_cons_zero, Act.put, List.setIfInBounds_toArray, List.set_cons_zero, List.set_cons_succ])
                refine anyK_ready (rs := [18]) (by kernel_rfl) (by simp) ?_
                refine allK_past rfl (by kernel_rfl) (fun K hK => ?_)
                go_simp
                refine hK.out _ _ (hx9b) (fun hHeld => ?_)
                clear hK K
                (try simp only [List.getElem_toArray, List.getElem_cons_succ, List.getElem_cons_zero, Act.put, List.setIfInBounds_toArray, List.set_cons_zero, List.set_cons_succ])
                refine anyK_done (by kernel_rfl) ?_ _
                refine NoPanic.normal ?_
                have HF3 := Lib.hid ((HZ.out.set 2 (.slice a8 (R.length + 1) c8)).set 3 (.slice (some ⟨g9, 0, none⟩) (Y.length + 1) c9))
                have HD2 : Hid (rowsG n (t.drop (a + 1)) (a + 1 + 1) (R ++ [xs.take n]) (Y ++ [x]) = G) := Lib.hid (by
                  have h := HD.out
                  rw [rowsG, if_pos HW.out, HACC.out] at h
                  rw [HXG.out]
                  exact h)
                clear HZ d2 e2 d3 e3 l9
                go_wp2_with fail
                go_roundg (t.length - (a + 1))
                case measure => omega
                case rel => exact ⟨a + 1, R ++ [xs.take n], Y ++ [x], vs ++ [.slice (some ⟨gr, 0, none⟩) n cr], _, _, by omega, rfl, by go_num, by rw [List.length_append, HRl.out]; rfl, by rw [List.length_append, HYl.out]; rfl, HD2.out, by simpa using HF3.out⟩
            · go_simp
              have hBw3 : Below w5.heap.size w5 (w5.drew.alloc (.cells #[.int .i64 x] 3)) := ((Below.refl _ _).drew).alloc (Nat.le_refl _) _
              have HA3 := Lib.hid (HO5.out.next hBw3)
              have hrw3 := owns_bl hrow5 hBw3
              have hbk3 : (w5.drew.alloc (.cells #[.int .i64 x] 3)).heap[w5.heap.size]? = some (.cells #[.int .i64 x] 3 (0, 0)) := alloc_blk w5.drew _ _
              refine hK.out _ _ (SB.of HA3.out ((hrw3.cellAt n (by omega)).trans HXC.out)) (fun hHeld => ?_)
              clear hK K
              (try simp only [List.getElem_toArray, List.getElem_cons_succ, List.getElem_cons_zero, Act.put, List.setIfInBounds_toArray, List.set_cons_zero, List.set_cons_succ])
              refine anyK_ready (rs := [5]) (by kernel_rfl) (by simp) ?_
              refine allK_cons rfl (fun K hK => ?_) allK_nil
              go_simp
              have hBw4 : Below w5.heap.size w5 ((w5.drew.alloc (.cells #[.int .i64 x] 3)).alloc (.cells #[.slice (some ⟨gr, 0, none⟩) n cr] 26)) := bt hBw3 (bl_al _ _)
              have HA4 := Lib.hid (HO5.out.next hBw4)
              have hrw4 := owns_bl hrow5 hBw4
              have hbk4 : ((w5.drew.alloc (.cells #[.int .i64 x] 3)).alloc (.cells #[.slice (some ⟨gr, 0, none⟩) n cr] 26)).heap[(w5.heap.size + 1)]? = some (.cells #[.slice (some ⟨gr, 0, none⟩) n cr] 26 (0, 0)) := (by have h := alloc_blk (w5.drew.alloc (.cells #[.int .i64 x] 3)) #[.slice (some ⟨gr, 0, none⟩) n cr] 26; simpa using h)
              refine hK.out _ _ (SB.of HA4.out ((hrw4.cellAt n (by omega)).trans HXC.out)) (fun hHeld => ?_)
              clear hK K
              (try simp only [List.getElem_toArray, List.getElem_cons_succ, List.getElem_cons_zero, Act.put, List.setIfInBounds_toArray, List.set_cons_zero, List.set_cons_succ])
              have hbk3b := blk_al hbk3 (.cells #[.slice (some ⟨gr, 0, none⟩) n cr] 26)
              refine anyK_ready (rs := [6]) (by kernel_rfl) (by simp) ?_
              refine allK_cons rfl (fun K hK => ?_) allK_nil
              refine step_append_t rfl (.tmp 86) (.tmp 90) 25 rfl w2.heap.size 26 iL (.slice none 0 0) 1 24 Tryz.underlying25 gj gy0 gy1 gy2 rfl (by decide) u2 R.length vs (by simp [Act.eval]) HA4.out.own.2.1 ⟨(w5.heap.size + 1), 0, none⟩ 1 1 [.slice (some ⟨gr, 0, none⟩) n cr] (by simp [Act.eval]) rfl (news_blk hbk4) (by intro y hy; simp at hy; subst hy; rfl) (by unfold maxLen; omega) (by omega) HA4.out.bel.size ?_
              intro v8 w8 hown8 hg8
              obtain ⟨a8, c8, rfl⟩ := owns_form hown8
              have HP := Lib.hid (HA4.out.pushR (lo := wr.heap.size) (v := .slice (some ⟨gr, 0, none⟩) n cr) (r := xs.take n) (by rw [HTN.out, HTK.out]; exact World.ownsRow.mono (own_cut hrw4 (Nat.le_succ n)) HSW.out) (fun j x g hx hg => HV1.out j x g hx hg) (fun g hg => (hrow5.lt g hg).1) HV3.out hg8 hown8)
              have hrw8 := owns_keep hrw4 HA4.out.own.2.1 (by decide) hg8
              have hb13 := (hg8.block _ (blk_lt hbk3b) (fun e => cell_apP hbk3b HA4.out.own.2.1 (by decide) e.symm)).trans hbk3b
              refine hK.out _ _ (SB.of HP.out ((hrw8.cellAt n (by omega)).trans HXC.out)) (fun hHeld => ?_)
              clear hK K
              (try simp only [List.getElem_toArray, List.getElem_cons_succ, List.getElem_cons_zero, Act.put, List.setIfInBounds_toArray, List.set_cons_zero, List.set_cons_succ])
              refine anyK_take (i := 15) (oi := ?o21) (v := ?v21) ?hi21 ?hs21 ?hf21 ?hr21 ?hQ21 ?hw21 ?hy21 ?hS21 ?rest21
              case hi21 => rfl
              case hs21 => kernel_rfl
              case hf21 => kernel_rfl
              case hr21 => kernel_rfl
              case hQ21 => exact fun _ _ _ h => h
              case hw21 => kernel_rfl
              case hS21 => assumption
              case hy21 =>
                refine Or.inl ⟨by kernel_rfl, ?_⟩
                intro w' hSw
                (try dsimp only at hSw)
                go_simp
                (try rfl)
              (try simp only [List.getElem_toArray, List.getElem_cons_succ, List.getElem_cons_zero, Act.put, List.setIfInBounds_toArray, List.set_cons_zero, List.set_cons_succ])
              refine anyK_ready (rs := [14]) (by kernel_rfl) (by simp) ?_
              refine allK_cons rfl (fun K hK => ?_) allK_nil
              refine step_append_lies _ rfl (.tmp 93) (.tmp 98) 26 rfl w2.heap.size 3 iI (.int .i64 0) 1 8 Tryz.underlying26 gi gz0 gz1 gz2 rfl (by decide) u3 Y.length (intCells Y) (by simp [Act.eval]) HP.out.own.2.2.2.1 ⟨w5.heap.size, 0, none⟩ 1 1 [.int .i64 x] (by simp [Act.eval]) rfl (news_blk hb13) (by intro y hy; simp at hy; subst hy; rfl) (by omega) (by unfold maxLen; omega) (by omega) HP.out.bel.size _ rfl ?_
              intro g9 c9 w9 hown9 hg9 hat9 _
              have HZ := Lib.hid (HP.out.pushY hg9 hown9 (hat9.imp id (fun e => Nat.le_of_eq e.symm)))
              have hc9 := ((hrw8).cellAt n (by omega)).trans HXC.out
              have hlt9 := World.block_lt_of_cell? _ _ hc9
              have hne9 : gr ≠ ob := fun e => by have := (hrow5.lt gr rfl).1; have := HOB.out; omega
              have hx9 : w9.cell? ⟨gr, n, none⟩ = some (.int .i64 x) := (World.cell?_of_block (hg9.block gr hlt9 (fun e => absurd (HV3.out gr e.symm) (by have := (hrow5.lt gr rfl).1; omega)))).trans hc9
              refine hK.out _ _ (SB.of HZ.out hx9) (fun hHeld => ?_)
              clear hK K
              (try simp only [List.getElem_toArray, List.getElem_cons_succ, List.getElem_cons_zero, Act.put, List.setIfInBounds_toArray, List.set_cons_zero, List.set_cons_succ])
              have d2 := cell_blk HZ.out.box 2
              have e2 := free_blk HZ.out.box 2
              have d3 := cell_blk HZ.out.box 3
              have e3 := free_blk HZ.out.box 3
              have l9 := blk_lt HZ.out.box
              have hx9a : HGr gr n x (w9.setCell ⟨ob, 2, none⟩ (.slice a8 (R.length + 1) c8)) := cell_set9 hx9 hne9
              have hx9b : HGr gr n x ((w9.setCell ⟨ob, 2, none⟩ (.slice a8 (R.length + 1) c8)).setCell ⟨ob, 3, none⟩ (.slice (some ⟨g9, 0, none⟩) (Y.length + 1) c9)) := cell_set9 hx9a hne9
              clear hc9 hlt9 hHeld
              refine anyK_ready (rs := [16]) (by kernel_rfl) (by simp) ?_
              refine allK_past rfl (by kernel_rfl) (fun K hK => ?_)
              go_simp
              refine hK.out _ _ (hx9a) (fun hHeld => ?_)
              clear hK K
              (try simp only [List.getElem_toArray, List.getElem_cons_succ, List.getElem_cons_zero, Act.put, List.setIfInBounds_toArray, List.set_cons_zero, List.set_cons_succ])
              refine anyK_ready (rs := [17]) (by kernel_rfl) (by simp) ?_
              refine allK_past rfl (by kernel_rfl) (fun K hK => ?_)
              go_simp
              refine hK.out _ _ (hx9a) (fun hHeld => ?_)
              clear hK K
              (try simp only [List.getElem_toArray, List.getElem_cons_succ, List.getElem_cons_zero, Act.put, List.setIfInBounds_toArray, List.set_cons_zero, List.set_cons_succ])
              refine anyK_ready (rs := [18]) (by kernel_rfl) (by simp) ?_
              refine allK_past rfl (by kernel_rfl) (fun K hK => ?_)
              go_simp
              refine hK.out _ _ (hx9b) (fun hHeld => ?_)
              clear hK K
              (try simp only [List.getElem_toArray, List.getElem_cons_succ, List.getElem_cons_zero, Act.put, List.setIfInBounds_toArray, List.set_cons_zero, List.set_cons_succ])
              refine anyK_done (by kernel_rfl) ?_ _
              refine NoPanic.normal ?_
              have HF3 := Lib.hid ((HZ.out.set 2 (.slice a8 (R.length + 1) c8)).set 3 (.slice (some ⟨g9, 0, none⟩) (Y.length + 1) c9))
              have HD2 : Hid (rowsG n (t.drop (a + 1)) (a + 1 + 1) (R ++ [xs.take n]) (Y ++ [x]) = G) := Lib.hid (by
                have h := HD.out
                rw [rowsG, if_pos HW.out, HACC.out] at h
                rw [HXG.out]
                exact h)
              clear HZ d2 e2 d3 e3 l9
              go_wp2_with fail
              go_roundg (t.length - (a + 1))
              case measure => omega
              case rel => exact ⟨a + 1, R ++ [xs.take n], Y ++ [x], vs ++ [.slice (some ⟨gr, 0, none⟩) n cr], _, _, by omega, rfl, by go_num, by rw [List.length_append, HRl.out]; rfl, by rw [List.length_append, HYl.out]; rfl, HD2.out, by simpa using HF3.out⟩
        · have HRN := Lib.hid (readNum_width9 ra r.length rc (a + 1) (n + 1) hw wr)
          have HF4 : Hid (G = .inr (4, a + 1, 0)) := Lib.hid (by
            have h2 := HD.out
            rw [rowsG, if_neg hw] at h2
            exact h2.symm)
          clear hw
          go_wp2_with fail
          refine HRN.out.mono ?_
          rintro e w5 ⟨rfl, hB5⟩
          have X05 := blk_next X02.out (bt HO.out.bel hB5)
          have B05 := Lib.hid (bt B02.out (bt HO.out.bel hB5))
          clear hB5 hcu hcu' hlu
          have p0 := cell_blk X05 0
          have fp0 := free_blk X05 0
          have p1 := cell_blk X05 1
          have fp1 := free_blk X05 1
          have p2 := cell_blk X05 2
          have fp2 := free_blk X05 2
          have p3 := cell_blk X05 3
          have fp3 := free_blk X05 3
          have lp := blk_lt X05
          go_wp2_with fail
          refine bodyPost_ret (v := .tuple #[.agg #[.slice none 0 0, .string ⟨#[]⟩, .slice none 0 0, .slice none 0 0], .iface 99 (.agg #[.int .i64 4, .int .i64 ((a : Int) + 1), .int .i64 0])]) ?_ rfl ⟨zero_rd (HTV.out.trans (by rw [HF4.out]; rfl)) HR.out _ rfl, ?_⟩
          · rw [results_cell_tmp rfl]
            go_simp
          · first | exact below4z (B05.out) _ _ _ _ | exact below4za (B05.out) _ _ _ _ _ | exact below4zd (B05.out) _ _ _ _ _
      · have hj1 : ¬ (a : Int) < t.length := by omega
        have hae : a = t.length := by omega
        have HF0 : Hid (G = .inl (R, Y)) := Lib.hid (by
          have h := HRG.out
          rw [List.drop_eq_nil_of_le (by omega)] at h
          exact h.symm)
        clear HRG hae
        have hO := HO.out
        obtain ⟨a8, c8, h8⟩ := owns_form hO.own.2.1
        obtain ⟨a9, c9, h9⟩ := owns_form hO.own.2.2.2.1
        subst h8
        subst h9
        have X0r := blk_next X02.out hO.bel
        have B0r := Lib.hid (bt B02.out hO.bel)
        have hbase : w.heap.size ≤ w2.heap.size := B02.out.size
        have hown : TabOwn wr w.heap.size ⟨N.take n, y, R, Y⟩ vs (.slice (some ⟨b1, 0, none⟩) n nc) (.slice a8 R.length c8) (.slice a9 Y.length c9) := by
          refine ⟨?_, World.ownsRow.mono hO.own.2.1 hbase, hO.own.2.2.1.mono hbase, World.ownsRow.mono hO.own.2.2.2.1 hbase, hO.own.2.2.2.2⟩
          have k := own_cut (owns_bl (owns_bl HUN.out B12.out) hO.bel) (Nat.le_succ n)
          have hlt : (N.take n).length = n := by rw [List.length_take, HNn.out]; omega
          show wr.ownsRow w.heap.size 9 1 _ (N.take n).length (strCells (N.take n))
          rw [hlt, show strCells (N.take n) = (strCells N).take n by unfold strCells; rw [List.map_take]]
          exact World.ownsRow.mono k (by simp)
        have N0 := Lib.hid (hown.ne X0r (by decide) (by decide) (by decide))
        have HOW := Lib.hid hown
        have HTT : Hid ((⟨N.take n, y, R, Y⟩, 0, 0, 0) = (T, c2, i2, k2)) := Lib.hid (by rw [← HR.out, HTV.out, HF0.out]; rfl)
        have d0 := cell_blk hO.box 0
        have d1 := cell_blk hO.box 1
        have d2 := cell_blk hO.box 2
        have d3 := cell_blk hO.box 3
        have dl := blk_lt hO.box
        clear hO HO hown hbase
        have p0 := cell_blk X0r 0
        have fp0 := free_blk X0r 0
        have p1 := cell_blk X0r 1
        have fp1 := free_blk X0r 1
        have p2 := cell_blk X0r 2
        have fp2 := free_blk X0r 2
        have p3 := cell_blk X0r 3
        have fp3 := free_blk X0r 3
        have lp := blk_lt X0r
        clear X0r
        go_wp2_with fail
        refine bodyPost_ret (v := .tuple #[.agg #[.slice (some ⟨b1, 0, none⟩) n nc, .string ⟨y.toArray⟩, .slice a8 R.length c8, .slice a9 Y.length c9], .nilIface]) ?_ rfl ⟨tab_rd HTT.out ((((HOW.out.setN N0.out 0 _).setN N0.out 1 _).setN N0.out 2 _).setN N0.out 3 _), ?_⟩
        · rw [results_cell_tmp rfl]
          go_simp
        · exact below4z B0r.out _ _ _ _
end Go.Proofs.YticeagjonfifbaaGreatDoor
