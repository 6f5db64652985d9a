/-
  The reading of a table: the reference's way.
-/
import Derived.Test.YticeagjonfifbaaGreatDoorPk15
import Derived.Test.YticeagjonfifbaaGreatDoorCsvR
namespace Go.Proofs.YticeagjonfifbaaGreatDoor
open Go.RowKit

theorem results_twoT {fn : Func} {p q : Tmp} {ty tz : TypeId} (h : fn.results = #[.cell p ty, .cell q tz]) (tmps : Array Value) (P : Program) (w : World) :
    (results fn tmps).run P w = ((asAddr (tmps.getD p undef)).run P w).andThen fun a w1 => ((loadVar ty a).run P w1).andThen fun x w2 => ((asAddr (tmps.getD q undef)).run P w2).andThen fun b w3 => ((loadVar tz b).run P w3).andThen fun y w4 => .ok (.tuple #[x, y]) w4 := by
  simp only [results, h]
  simp [Sem.run_bind, Result.andThen]
theorem readT_csv {l : List UInt8} {L : List (List (List UInt8))} {c i k : Nat} (h : csvQ l = (L, c, i, k)) (hc : ¬ c = 0) : readT l = (zeroT, c, i, k) := by
  unfold readT
  rw [h, if_neg hc]
theorem readT_rows {l : List UInt8} {L : List (List (List UInt8))} {i k : Nat} (h : csvQ l = (L, 0, i, k)) : readT l = tabV L := by
  unfold readT
  rw [h, if_pos rfl]
theorem tabV_head {N : List (List UInt8)} {t : List (List (List UInt8))} (h : ¬ (headF N).1 = 0) : tabV (N :: t) = (zeroT, (headF N).1, 0, (headF N).2) := by
  rw [tabV, if_neg h]
theorem tabV_many {N : List (List UInt8)} {t : List (List (List UInt8))} (h : (headF N).1 = 0) (hi : inZ (t.length : Int) 1 40 = false) : tabV (N :: t) = (zeroT, 8, 0, 0) := by
  rw [tabV, if_pos h, if_neg (by rw [hi]; decide)]
theorem zero_at {l : List UInt8} {c i k : Nat} (h : readT l = (zeroT, c, i, k)) {T : Tab} {c2 i2 k2 : Nat} (hr : readT l = (T, c2, i2, k2)) (w : World) : RtAt T c2 i2 k2 (.returned (.tuple #[.agg #[.slice none 0 0, .string ⟨#[]⟩, .slice none 0 0, .slice none 0 0], .agg #[.int .i64 (c : Int), .int .i64 (i : Int), .int .i64 (k : Int)]])) w := by
  rw [h] at hr
  simp only [Prod.mk.injEq] at hr
  obtain ⟨rfl, rfl, rfl, rfl⟩ := hr
  exact ⟨_, _, _, rfl, Or.inl ⟨rfl, _, _, rfl⟩, Or.inl ⟨rfl, _, _, rfl⟩, Or.inl ⟨rfl, _, _, rfl⟩⟩

theorem below7 {w w1 : World} (h : Below w.heap.size w w1) (a b c d x y z : Value) : Below w.heap.size w (((((((w1.setCell ⟨w.heap.size, 0, none⟩ a).setCell ⟨w.heap.size, 1, none⟩ b).setCell ⟨w.heap.size, 2, none⟩ c).setCell ⟨w.heap.size, 3, none⟩ d).setCell ⟨w.heap.size + 1, 0, none⟩ x).setCell ⟨w.heap.size + 1, 1, none⟩ y).setCell ⟨w.heap.size + 1, 2, none⟩ z) :=
  ((((((h.setCell (Nat.le_refl _) _).setCell (Nat.le_refl _) _).setCell (Nat.le_refl _) _).setCell (Nat.le_refl _) _).setCell (Nat.le_succ _) _).setCell (Nat.le_succ _) _).setCell (Nat.le_succ _) _
theorem below7d {w w1 : World} (h : Below w.heap.size w w1) (a b c d x y z : Value) (o : Obj) : Below w.heap.size w (((((((((w1.setCell ⟨w.heap.size, 0, none⟩ a).setCell ⟨w.heap.size, 1, none⟩ b).setCell ⟨w.heap.size, 2, none⟩ c).setCell ⟨w.heap.size, 3, none⟩ d).setCell ⟨w.heap.size + 1, 0, none⟩ x).setCell ⟨w.heap.size + 1, 1, none⟩ y).setCell ⟨w.heap.size + 1, 2, none⟩ z).alloc o).drew) :=
  ((below7 h a b c d x y z).alloc (below7 h a b c d x y z).size o).drew
theorem below7a {w w1 : World} (h : Below w.heap.size w w1) (a b c d x y z : Value) (o : Obj) : Below w.heap.size w ((((((((w1.setCell ⟨w.heap.size, 0, none⟩ a).setCell ⟨w.heap.size, 1, none⟩ b).setCell ⟨w.heap.size, 2, none⟩ c).setCell ⟨w.heap.size, 3, none⟩ d).setCell ⟨w.heap.size + 1, 0, none⟩ x).setCell ⟨w.heap.size + 1, 1, none⟩ y).setCell ⟨w.heap.size + 1, 2, none⟩ z).alloc o) :=
  (below7 h a b c d x y z).alloc (below7 h a b c d x y z).size o
theorem owns_max {w : World} {base n : Nat} {T : TypeId} {v : Value} {xs : List Value} (h : w.ownsRow base T 1 v n xs) : n ≤ 9223372036854775807 := by
  rcases h.2 with ⟨_, h0⟩ | ⟨g, cap, cur, _, _, _, hnc, hm, _, _⟩
  · omega
  · unfold maxLen at hm
    omega
theorem SSOwn.rowT {w : World} {base : Nat} {v : Value} {L : List (List (List UInt8))} (h : SSOwn w base v L) : SSRow w v L := by
  have h0 := h
  obtain ⟨vs, ho, hr⟩ := h
  refine h0.row (owns_max ho) fun row hrow => ?_
  obtain ⟨j, hj⟩ := List.getElem?_of_mem hrow
  have hjl := (List.getElem?_eq_some_iff.1 hj).1
  have hjv : j < vs.length := by rw [hr.1, List.length_map]; exact hjl
  have ho2 := hr.2.1 j vs[j] (strCells row) (List.getElem?_eq_getElem hjv) (by rw [List.getElem?_map, hj]; rfl)
  have := owns_max ho2
  rw [strCells_len] at this
  exact this
set_option maxRecDepth 100000 in
set_option maxHeartbeats 8000000 in
theorem specReadTable_csv (s : ByteArray) (w : World) (T : Tab) (c2 i2 k2 : Nat) (hr : readT s.data.toList = (T, c2, i2, k2)) {L : List (List (List UInt8))} {c i k : Nat} (hq : csvQ s.data.toList = (L, c, i, k)) (hc : ¬ c = 0) :
    Calls Tryz.prog 15 #[.string s] w fun e w' => RtAt T c2 i2 k2 e w' ∧ Below w.heap.size w w' := by
  have HR := Lib.hid hr
  clear hr
  have HC : Hid (∀ W, Calls Tryz.prog 45 #[.string s] W fun e w' => (∃ v, e = .returned (.tuple #[v, .agg #[.int .i64 (c : Int), .int .i64 (i : Int), .int .i64 (k : Int)]]) ∧ SSOwn w' W.heap.size v L) ∧ Below W.heap.size W w') := Lib.hid (fun W => (specReadCsv s W).mono fun e w' ⟨⟨v, he, ho⟩, hB⟩ => by
    rw [hq] at he ho
    exact ⟨⟨v, he, ho⟩, hB⟩)
  have HQ := Lib.hid hq
  clear hq
  have hA := bt (bl_al w (.cells #[.slice none 0 0, .string ⟨#[]⟩, .slice none 0 0, .slice none 0 0] 28)) (bl_al _ (.cells #[.int .i64 0, .int .i64 0, .int .i64 0] 33))
  have x0 := blk_al (alloc_blk w #[.slice none 0 0, .string ⟨#[]⟩, .slice none 0 0, .slice none 0 0] 28) (.cells #[.int .i64 0, .int .i64 0, .int .i64 0] 33)
  have x1 := alloc_blk (w.alloc (.cells #[.slice none 0 0, .string ⟨#[]⟩, .slice none 0 0, .slice none 0 0] 28)) #[.int .i64 0, .int .i64 0, .int .i64 0] 33
  simp only [sz_alloc] at x1
  go_enter Tryz.func15, Tryz.ntmps15
  go_wp2_with fail
  refine (HC.out _).mono ?_
  rintro e w1 ⟨⟨v, rfl, ho⟩, hB⟩
  obtain ⟨va, vc, rfl⟩ : ∃ a c, v = .slice a L.length c := by
    obtain ⟨vs, h1, _⟩ := ho
    exact owns_form h1
  have X0 := Lib.hid (blk_next x0 hB)
  have X1 := Lib.hid (blk_next x1 hB)
  have B01 := Lib.hid (bt hA hB)
  have HO := Lib.hid ho
  clear x0 x1 hA hB ho
  have hsz := B01.out.size
  have p0 := cell_blk X0.out 0
  have p1 := cell_blk X0.out 1
  have p2 := cell_blk X0.out 2
  have p3 := cell_blk X0.out 3
  have q0 := cell_blk X1.out 0
  have q1 := cell_blk X1.out 1
  have q2 := cell_blk X1.out 2
  have fp0 := free_blk X0.out 0
  have fp1 := free_blk X0.out 1
  have fp2 := free_blk X0.out 2
  have fp3 := free_blk X0.out 3
  have fq0 := free_blk X1.out 0
  have fq1 := free_blk X1.out 1
  have fq2 := free_blk X1.out 2
  have lp := blk_lt X0.out
  have lq := blk_lt X1.out
  have hc1 : ¬ (c : Int) = 0 := by omega
  go_wp2_with fail
  go_region
  go_wp2_with fail
  refine bodyPost_ret (v := .tuple #[.agg #[.slice none 0 0, .string ⟨#[]⟩, .slice none 0 0, .slice none 0 0], .agg #[.int .i64 (c : Int), .int .i64 (i : Int), .int .i64 (k : Int)]]) ?_ rfl ⟨zero_at (readT_csv HQ.out hc) HR.out _, ?_⟩
  · rw [results_twoT rfl]
    go_simp
  · exact below7d B01.out _ _ _ _ _ _ _ _
set_option maxRecDepth 100000 in
set_option maxHeartbeats 8000000 in
theorem specReadTable_empty (s : ByteArray) (w : World) (T : Tab) (c2 i2 k2 : Nat) (hr : readT s.data.toList = (T, c2, i2, k2)) {i k : Nat} (hq : csvQ s.data.toList = ([], 0, i, k)) :
    Calls Tryz.prog 15 #[.string s] w fun e w' => RtAt T c2 i2 k2 e w' ∧ Below w.heap.size w w' := by
  have HR := Lib.hid hr
  clear hr
  have HC : Hid (∀ W, Calls Tryz.prog 45 #[.string s] W fun e w' => (∃ v, e = .returned (.tuple #[v, .agg #[.int .i64 (0 : Int), .int .i64 (i : Int), .int .i64 (k : Int)]]) ∧ SSOwn w' W.heap.size v []) ∧ Below W.heap.size W w') := Lib.hid (fun W => (specReadCsv s W).mono fun e w' ⟨⟨v, he, ho⟩, hB⟩ => by
    rw [hq] at he ho
    exact ⟨⟨v, he, ho⟩, hB⟩)
  have HQ := Lib.hid hq
  clear hq
  have hA := bt (bl_al w (.cells #[.slice none 0 0, .string ⟨#[]⟩, .slice none 0 0, .slice none 0 0] 28)) (bl_al _ (.cells #[.int .i64 0, .int .i64 0, .int .i64 0] 33))
  have x0 := blk_al (alloc_blk w #[.slice none 0 0, .string ⟨#[]⟩, .slice none 0 0, .slice none 0 0] 28) (.cells #[.int .i64 0, .int .i64 0, .int .i64 0] 33)
  have x1 := alloc_blk (w.alloc (.cells #[.slice none 0 0, .string ⟨#[]⟩, .slice none 0 0, .slice none 0 0] 28)) #[.int .i64 0, .int .i64 0, .int .i64 0] 33
  simp only [sz_alloc] at x1
  go_enter Tryz.func15, Tryz.ntmps15
  go_wp2_with fail
  refine (HC.out _).mono ?_
  rintro e w1 ⟨⟨v, rfl, ho⟩, hB⟩
  obtain ⟨va, vc, rfl⟩ : ∃ a c, v = .slice a 0 c := by
    obtain ⟨vs, h1, _⟩ := ho
    exact owns_form h1
  have X0 := Lib.hid (blk_next x0 hB)
  have X1 := Lib.hid (blk_next x1 hB)
  have B01 := Lib.hid (bt hA hB)
  have HO := Lib.hid ho
  clear x0 x1 hA hB ho
  have hsz := B01.out.size
  have p0 := cell_blk X0.out 0
  have p1 := cell_blk X0.out 1
  have p2 := cell_blk X0.out 2
  have p3 := cell_blk X0.out 3
  have q0 := cell_blk X1.out 0
  have q1 := cell_blk X1.out 1
  have q2 := cell_blk X1.out 2
  have fp0 := free_blk X0.out 0
  have fp1 := free_blk X0.out 1
  have fp2 := free_blk X0.out 2
  have fp3 := free_blk X0.out 3
  have fq0 := free_blk X1.out 0
  have fq1 := free_blk X1.out 1
  have fq2 := free_blk X1.out 2
  have lp := blk_lt X0.out
  have lq := blk_lt X1.out
  go_wp2_with fail
  refine bodyPost_ret (v := .tuple #[.agg #[.slice none 0 0, .string ⟨#[]⟩, .slice none 0 0, .slice none 0 0], .agg #[.int .i64 ((3 : Nat) : Int), .int .i64 ((0 : Nat) : Int), .int .i64 ((0 : Nat) : Int)]]) ?_ rfl ⟨zero_at ((readT_rows HQ.out).trans rfl) HR.out _, ?_⟩
  · rw [results_twoT rfl]
    go_simp
  · exact below7a B01.out _ _ _ _ _ _ _ _
set_option maxRecDepth 100000 in
set_option maxHeartbeats 8000000 in
theorem specReadTable_head (s : ByteArray) (w : World) (T : Tab) (c2 i2 k2 : Nat) (hr : readT s.data.toList = (T, c2, i2, k2)) {N : List (List UInt8)} {t : List (List (List UInt8))} {i k : Nat} (hq : csvQ s.data.toList = (N :: t, 0, i, k)) (hnl : ∀ r ∈ N :: t, ∀ p ∈ r, p.length ≤ 9223372036854775807) (hh : ¬ (headF N).1 = 0) :
    Calls Tryz.prog 15 #[.string s] w fun e w' => RtAt T c2 i2 k2 e w' ∧ Below w.heap.size w w' := by
  have HLN := Lib.hid hnl
  clear hnl
  have HR := Lib.hid hr
  clear hr
  have HC : Hid (∀ W, Calls Tryz.prog 45 #[.string s] W fun e w' => (∃ v, e = .returned (.tuple #[v, .agg #[.int .i64 (0 : Int), .int .i64 (i : Int), .int .i64 (k : Int)]]) ∧ SSOwn w' W.heap.size v (N :: t)) ∧ Below W.heap.size W w') := Lib.hid (fun W => (specReadCsv s W).mono fun e w' ⟨⟨v, he, ho⟩, hB⟩ => by
    rw [hq] at he ho
    exact ⟨⟨v, he, ho⟩, hB⟩)
  have HQ := Lib.hid hq
  clear hq
  have hA := bt (bl_al w (.cells #[.slice none 0 0, .string ⟨#[]⟩, .slice none 0 0, .slice none 0 0] 28)) (bl_al _ (.cells #[.int .i64 0, .int .i64 0, .int .i64 0] 33))
  have x0 := blk_al (alloc_blk w #[.slice none 0 0, .string ⟨#[]⟩, .slice none 0 0, .slice none 0 0] 28) (.cells #[.int .i64 0, .int .i64 0, .int .i64 0] 33)
  have x1 := alloc_blk (w.alloc (.cells #[.slice none 0 0, .string ⟨#[]⟩, .slice none 0 0, .slice none 0 0] 28)) #[.int .i64 0, .int .i64 0, .int .i64 0] 33
  simp only [sz_alloc] at x1
  go_enter Tryz.func15, Tryz.ntmps15
  go_wp2_with fail
  refine (HC.out _).mono ?_
  rintro e w1 ⟨⟨v, rfl, ho⟩, hB⟩
  obtain ⟨va, vc, rfl⟩ : ∃ a c, v = .slice a (t.length + 1) c := by
    obtain ⟨vs, h1, _⟩ := ho
    exact owns_form h1
  have X0 := Lib.hid (blk_next x0 hB)
  have X1 := Lib.hid (blk_next x1 hB)
  have B01 := Lib.hid (bt hA hB)
  have HO := Lib.hid ho
  clear x0 x1 hA hB ho
  have hsz := B01.out.size
  have hln : (0 : Int) < (t.length : Int) + 1 := by omega
  have hln0 : ¬ (t.length : Int) + 1 = 0 := by omega
  obtain ⟨_, _, hav, hlen, hfr⟩ := ssRow_form HO.out.rowT
  have htl : t.length + 1 ≤ 9223372036854775807 := hlen
  clear hlen
  injection hav with hav1 hav2 hav3
  clear hav2
  subst hav1
  subst hav3
  obtain ⟨br, off, u, rfl, hcu, hsn⟩ := hfr 0 N rfl
  have HSN := Lib.hid hsn
  have hcu0 : w1.cell? ⟨br, off, none⟩ = some u := hcu
  have hlu := World.block_lt_of_cell? w1 _ hcu0
  obtain ⟨na, nc, rfl⟩ : ∃ a c, u = .slice a N.length c := by
    obtain ⟨a, c, h, _⟩ := sRow_form hsn
    exact ⟨a, c, h⟩
  clear hfr hcu hsn
  go_wp2_with fail
  obtain ⟨hc, hj, hhf⟩ : ∃ a b, headF N = (a, b) := ⟨_, _, rfl⟩
  refine ((specHead _ N _ (HSN.out.below (bl_al w1 _)) (fun p hp => HLN.out N (List.mem_cons_self) p hp)).mono (R' := fun e w' => e = .returned (.agg #[.int .i64 (hc : Int), .int .i64 ((0 : Nat) : Int), .int .i64 (hj : Int)]) ∧ Below (w1.alloc (.cells #[.int .i64 ((0 : Nat) : Int), .int .i64 (i : Int), .int .i64 (k : Int)] 33)).heap.size (w1.alloc (.cells #[.int .i64 ((0 : Nat) : Int), .int .i64 (i : Int), .int .i64 (k : Int)] 33)) w') (fun e w' ⟨he, hB⟩ => ⟨by rw [he, hhf]; rfl, hB⟩)).mono ?_
  rintro e w2 ⟨rfl, hB2⟩
  have X20 := Lib.hid (blk_next (blk_al X0.out (.cells #[.int .i64 ((0 : Nat) : Int), .int .i64 (i : Int), .int .i64 (k : Int)] 33)) hB2)
  have X21 := Lib.hid (blk_next (blk_al X1.out (.cells #[.int .i64 ((0 : Nat) : Int), .int .i64 (i : Int), .int .i64 (k : Int)] 33)) hB2)
  have XF := Lib.hid (blk_next (alloc_blk w1 #[.int .i64 ((0 : Nat) : Int), .int .i64 (i : Int), .int .i64 (k : Int)] 33) hB2)
  have B02 := Lib.hid (bt B01.out (bt (bl_al w1 (.cells #[.int .i64 ((0 : Nat) : Int), .int .i64 (i : Int), .int .i64 (k : Int)] 33)) hB2))
  have HHF := Lib.hid hhf
  clear hB2 hcu0 hlu hhf
  have r0 := cell_blk XF.out 0
  have r1 := cell_blk XF.out 1
  have r2 := cell_blk XF.out 2
  have fr0 := free_blk XF.out 0
  have fr1 := free_blk XF.out 1
  have fr2 := free_blk XF.out 2
  have lr := blk_lt XF.out
  have hne0 : ¬ w.heap.size = w1.heap.size := by have := blk_lt X0.out; omega
  have hne1 : ¬ w.heap.size + 1 = w1.heap.size := by have := blk_lt X1.out; omega
  have hne2 : ¬ w1.heap.size = w.heap.size := by have := blk_lt X0.out; omega
  have hne3 : ¬ w1.heap.size = w.heap.size + 1 := by have := blk_lt X1.out; omega
  have p0 := cell_blk X20.out 0
  have p1 := cell_blk X20.out 1
  have p2 := cell_blk X20.out 2
  have p3 := cell_blk X20.out 3
  have q0 := cell_blk X21.out 0
  have q1 := cell_blk X21.out 1
  have q2 := cell_blk X21.out 2
  have fp0 := free_blk X20.out 0
  have fp1 := free_blk X20.out 1
  have fp2 := free_blk X20.out 2
  have fp3 := free_blk X20.out 3
  have fq0 := free_blk X21.out 0
  have fq1 := free_blk X21.out 1
  have fq2 := free_blk X21.out 2
  have lp := blk_lt X20.out
  have lq := blk_lt X21.out
  have hc0 : ¬ hc = 0 := by rw [HHF.out] at hh; exact hh
  have hc1 : ¬ (hc : Int) = 0 := by omega
  go_wp2_with fail
  go_region
  go_wp2_with fail
  have hle : w.heap.size ≤ w1.heap.size := B01.out.size
  refine bodyPost_ret (v := .tuple #[.agg #[.slice none 0 0, .string ⟨#[]⟩, .slice none 0 0, .slice none 0 0], .agg #[.int .i64 (hc : Int), .int .i64 ((0 : Nat) : Int), .int .i64 (hj : Int)]]) ?_ rfl ⟨zero_at ((readT_rows HQ.out).trans ((tabV_head hh).trans (by rw [HHF.out]))) HR.out _, ?_⟩
  · rw [results_twoT rfl]
    go_simp
  · exact (below7 (((B02.out.setCell hle _).setCell hle _).setCell hle _) _ _ _ _ _ _ _).drew
set_option maxRecDepth 100000 in
set_option maxHeartbeats 8000000 in
theorem specReadTable_many (s : ByteArray) (w : World) (T : Tab) (c2 i2 k2 : Nat) (hr : readT s.data.toList = (T, c2, i2, k2)) {N : List (List UInt8)} {t : List (List (List UInt8))} {i k : Nat} (hq : csvQ s.data.toList = (N :: t, 0, i, k)) (hnl : ∀ r ∈ N :: t, ∀ p ∈ r, p.length ≤ 9223372036854775807) (hh : (headF N).1 = 0) (hi : inZ (t.length : Int) 1 40 = false) :
    Calls Tryz.prog 15 #[.string s] w fun e w' => RtAt T c2 i2 k2 e w' ∧ Below w.heap.size w w' := by
  have HLN := Lib.hid hnl
  clear hnl
  have HI := Lib.hid hi
  clear hi
  have HR := Lib.hid hr
  clear hr
  have HC : Hid (∀ W, Calls Tryz.prog 45 #[.string s] W fun e w' => (∃ v, e = .returned (.tuple #[v, .agg #[.int .i64 (0 : Int), .int .i64 (i : Int), .int .i64 (k : Int)]]) ∧ SSOwn w' W.heap.size v (N :: t)) ∧ Below W.heap.size W w') := Lib.hid (fun W => (specReadCsv s W).mono fun e w' ⟨⟨v, he, ho⟩, hB⟩ => by
    rw [hq] at he ho
    exact ⟨⟨v, he, ho⟩, hB⟩)
  have HQ := Lib.hid hq
  clear hq
  have hA := bt (bl_al w (.cells #[.slice none 0 0, .string ⟨#[]⟩, .slice none 0 0, .slice none 0 0] 28)) (bl_al _ (.cells #[.int .i64 0, .int .i64 0, .int .i64 0] 33))
  have x0 := blk_al (alloc_blk w #[.slice none 0 0, .string ⟨#[]⟩, .slice none 0 0, .slice none 0 0] 28) (.cells #[.int .i64 0, .int .i64 0, .int .i64 0] 33)
  have x1 := alloc_blk (w.alloc (.cells #[.slice none 0 0, .string ⟨#[]⟩, .slice none 0 0, .slice none 0 0] 28)) #[.int .i64 0, .int .i64 0, .int .i64 0] 33
  simp only [sz_alloc] at x1
  go_enter Tryz.func15, Tryz.ntmps15
  go_wp2_with fail
  refine (HC.out _).mono ?_
  rintro e w1 ⟨⟨v, rfl, ho⟩, hB⟩
  obtain ⟨va, vc, rfl⟩ : ∃ a c, v = .slice a (t.length + 1) c := by
    obtain ⟨vs, h1, _⟩ := ho
    exact owns_form h1
  have X0 := Lib.hid (blk_next x0 hB)
  have X1 := Lib.hid (blk_next x1 hB)
  have B01 := Lib.hid (bt hA hB)
  have HO := Lib.hid ho
  clear x0 x1 hA hB ho
  have hsz := B01.out.size
  have hln : (0 : Int) < (t.length : Int) + 1 := by omega
  have hln0 : ¬ (t.length : Int) + 1 = 0 := by omega
  obtain ⟨_, _, hav, hlen, hfr⟩ := ssRow_form HO.out.rowT
  have htl : t.length + 1 ≤ 9223372036854775807 := hlen
  clear hlen
  injection hav with hav1 hav2 hav3
  clear hav2
  subst hav1
  subst hav3
  obtain ⟨br, off, u, rfl, hcu, hsn⟩ := hfr 0 N rfl
  have HSN := Lib.hid hsn
  have hcu0 : w1.cell? ⟨br, off, none⟩ = some u := hcu
  have hlu := World.block_lt_of_cell? w1 _ hcu0
  obtain ⟨na, nc, rfl⟩ : ∃ a c, u = .slice a N.length c := by
    obtain ⟨a, c, h, _⟩ := sRow_form hsn
    exact ⟨a, c, h⟩
  clear hfr hcu hsn
  go_wp2_with fail
  obtain ⟨hj, hhf⟩ : ∃ b, headF N = (0, b) := ⟨(headF N).2, by rw [← hh]⟩
  refine ((specHead _ N _ (HSN.out.below (bl_al w1 _)) (fun p hp => HLN.out N (List.mem_cons_self) p hp)).mono (R' := fun e w' => e = .returned (.agg #[.int .i64 ((0 : Nat) : Int), .int .i64 ((0 : Nat) : Int), .int .i64 (hj : Int)]) ∧ Below (w1.alloc (.cells #[.int .i64 ((0 : Nat) : Int), .int .i64 (i : Int), .int .i64 (k : Int)] 33)).heap.size (w1.alloc (.cells #[.int .i64 ((0 : Nat) : Int), .int .i64 (i : Int), .int .i64 (k : Int)] 33)) w') (fun e w' ⟨he, hB⟩ => ⟨by rw [he, hhf]; rfl, hB⟩)).mono ?_
  rintro e w2 ⟨rfl, hB2⟩
  have X20 := Lib.hid (blk_next (blk_al X0.out (.cells #[.int .i64 ((0 : Nat) : Int), .int .i64 (i : Int), .int .i64 (k : Int)] 33)) hB2)
  have X21 := Lib.hid (blk_next (blk_al X1.out (.cells #[.int .i64 ((0 : Nat) : Int), .int .i64 (i : Int), .int .i64 (k : Int)] 33)) hB2)
  have XF := Lib.hid (blk_next (alloc_blk w1 #[.int .i64 ((0 : Nat) : Int), .int .i64 (i : Int), .int .i64 (k : Int)] 33) hB2)
  have B02 := Lib.hid (bt B01.out (bt (bl_al w1 (.cells #[.int .i64 ((0 : Nat) : Int), .int .i64 (i : Int), .int .i64 (k : Int)] 33)) hB2))
  have HHF := Lib.hid hhf
  clear hB2 hcu0 hlu hhf
  have r0 := cell_blk XF.out 0
  have r1 := cell_blk XF.out 1
  have r2 := cell_blk XF.out 2
  have fr0 := free_blk XF.out 0
  have fr1 := free_blk XF.out 1
  have fr2 := free_blk XF.out 2
  have lr := blk_lt XF.out
  have hne0 : ¬ w.heap.size = w1.heap.size := by have := blk_lt X0.out; omega
  have hne1 : ¬ w.heap.size + 1 = w1.heap.size := by have := blk_lt X1.out; omega
  have hne2 : ¬ w1.heap.size = w.heap.size := by have := blk_lt X0.out; omega
  have hne3 : ¬ w1.heap.size = w.heap.size + 1 := by have := blk_lt X1.out; omega
  have p0 := cell_blk X20.out 0
  have p1 := cell_blk X20.out 1
  have p2 := cell_blk X20.out 2
  have p3 := cell_blk X20.out 3
  have q0 := cell_blk X21.out 0
  have q1 := cell_blk X21.out 1
  have q2 := cell_blk X21.out 2
  have fp0 := free_blk X20.out 0
  have fp1 := free_blk X20.out 1
  have fp2 := free_blk X20.out 2
  have fp3 := free_blk X20.out 3
  have fq0 := free_blk X21.out 0
  have fq1 := free_blk X21.out 1
  have fq2 := free_blk X21.out 2
  have lp := blk_lt X20.out
  have lq := blk_lt X21.out
  have hle : w.heap.size ≤ w1.heap.size := B01.out.size
  have ht1 : (t.length : Int) + 1 - 1 = t.length := by omega
  go_wp2_with fail
  refine (specIn9 _ _ _ _).mono ?_
  rintro e w3 ⟨rfl, rfl⟩
  rw [HI.out]
  go_wp2_with fail
  refine bodyPost_ret (v := .tuple #[.agg #[.slice none 0 0, .string ⟨#[]⟩, .slice none 0 0, .slice none 0 0], .agg #[.int .i64 ((8 : Nat) : Int), .int .i64 ((0 : Nat) : Int), .int .i64 ((0 : Nat) : Int)]]) ?_ rfl ⟨zero_at ((readT_rows HQ.out).trans (tabV_many hh HI.out)) HR.out _, ?_⟩
  · rw [results_twoT rfl]
    go_simp
  · exact (below7 (((B02.out.setCell hle _).setCell hle _).setCell hle _) _ _ _ _ _ _ _)
end Go.Proofs.YticeagjonfifbaaGreatDoor
