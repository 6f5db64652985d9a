/-
  The walks of the exact laws on CSV; the program's contracts are hypotheses.
-/
import Derived.Test.YtklhkebpgoajgaaDoorBas
import Derived.Test.YtklhkebpgoajgaaDoorRowSK
import Derived.Test.YtklhkebpgoajgaaDoorCsvS
import Derived.Test.YtklhkebpgoajgaaDoorCsvR
import Derived.Test.YtklhkebpgoajgaaDoorCsvQ
namespace Go.Proofs.YtklhkebpgoajgaaDoor
open Go.RowKit

/-- What the program is to answer for a field, for rows, for a text, for two lists. -/
def ImplField (W : World) : Prop := ∀ (s : ByteArray) (w : World), Below W.heap.size W w → s.size ≤ 1048576 → Calls Tryd.prog 18 #[.string s] w fun e w' => e = .returned (.string ⟨(csvF s.data.toList).toArray⟩) ∧ Below w.heap.size w w'
def ImplText (W : World) : Prop := ∀ (w : World) (v : Value) (L : List (List (List UInt8))), Below W.heap.size W w → SSRow w v L → (csvT L).length ≤ 16777216 → L.length ≤ 16777216 → (∀ r ∈ L, r.length ≤ 16777216 ∧ ∀ p ∈ r, p.length ≤ 16777216) → Calls Tryd.prog 10 #[v] w fun e w' => e = .returned (.string ⟨(csvT L).toArray⟩) ∧ Below w.heap.size w w'
def ImplRead (W : World) : Prop := ∀ (s : ByteArray) (w : World), Below W.heap.size W w → s.size ≤ 16777216 → Calls Tryd.prog 11 #[.string s] w fun e w' => CsvPost w s.data.toList e w' ∧ Below w.heap.size w w'
def ImplSame : Prop := ∀ (w : World) (v1 v2 : Value) (L1 L2 : List (List (List UInt8))), SSRow w v1 L1 → SSRow w v2 L2 → L1.length ≤ 16777216 → L2.length ≤ 16777216 → Calls Tryd.prog 13 #[v1, v2] w fun e w' => e = .returned (.bool (sameB L1 L2)) ∧ Below w.heap.size w w'

set_option maxRecDepth 100000 in
theorem lawExCsvField (s : ByteArray) (w : World) (hI : ImplField w) :
    Calls Tryd.prog 5 #[.string s] w fun e w' => e = .returned (.bool true) ∧ Below w.heap.size w w' := by
  by_cases hs : 1048576 < s.size
  · have hs1 : (1048576 : Int) < s.size := by omega
    go_enter Tryd.func5, Tryd.ntmps5
    go_wp2_with fail
    go_ret
    exact ⟨rfl, Below.refl _ _⟩
  · have hs1 : ¬ (1048576 : Int) < s.size := by omega
    go_enter Tryd.func5, Tryd.ntmps5
    go_wp2_with fail
    refine (specCsvField s (by omega) w).mono ?_
    rintro e w1 ⟨rfl, hB1⟩
    go_wp2_with fail
    refine (hI s w1 hB1 (by omega)).mono ?_
    rintro e w2 ⟨rfl, hB2⟩
    go_wp2_with fail
    go_ret
    exact ⟨rfl, bt hB1 hB2⟩

theorem csvT_sz (L : List (List (List UInt8))) : (csvT L).length ≤ 3 * szL L + L.length := by
  induction L with
  | nil => simp [csvT, szL]
  | cons r t ih =>
    have h1 := rowT_w r
    have h2 : fieldsW r = 2 * lensum r + 3 * r.length := by
      clear h1 ih
      induction r with
      | nil => rfl
      | cons f u ihu =>
        have e : lensum (f :: u) = f.length + lensum u := by simp [lensum]
        rw [fieldsW, ihu, e, List.length_cons]
        omega
    have e : szL (r :: t) = (r.length + lensum r) + szL t := by simp [szL]
    rw [csvT, e]
    simp only [List.length_append, List.length_cons]
    omega
theorem lensum_mem {r : List (List UInt8)} {p : List UInt8} (h : p ∈ r) : p.length ≤ lensum r := by
  induction r with
  | nil => cases h
  | cons a t ih =>
    have e : lensum (a :: t) = a.length + lensum t := by simp [lensum]
    rcases List.mem_cons.1 h with rfl | h
    · omega
    · have := ih h
      omega
theorem sum_csvT (L : List (List (List UInt8))) : (L.map List.length).sum ≤ (csvT L).length := by
  induction L with
  | nil => simp [csvT]
  | cons r t ih =>
    have h := rowT_len r
    rw [csvT, List.map_cons, List.sum_cons]
    simp only [List.length_append, List.length_cons]
    omega
theorem csvQ_bound {l : List UInt8} {rows : List (List (List UInt8))} {c a b : Nat} (h : csvQ l = (rows, c, a, b)) : rows.length ≤ 4000 ∧ (csvT rows).length ≤ 36000 ∧ (rows.map List.length).sum ≤ 36000 ∧ (∀ r ∈ rows, r ≠ []) := by
  rw [csvQ] at h
  split at h
  · simp only [Prod.mk.injEq] at h
    obtain ⟨rfl, _⟩ := h
    simp [csvT]
  · rename_i hl
    cases hr : rdCsv l with
    | inl rs =>
      rw [hr] at h
      simp only [Prod.mk.injEq] at h
      obtain ⟨rfl, _⟩ := h
      have hw := rdAll_w _ l [] rs (by omega) hr (by simp)
      have hs := sum_csvT rs
      simp only [csvT, List.length_nil] at hw
      exact ⟨by omega, by omega, by omega, hw.1⟩
    | inr x =>
      obtain ⟨x, y⟩ := x
      rw [hr] at h
      simp only [Prod.mk.injEq] at h
      obtain ⟨rfl, _⟩ := h
      simp [csvT]
/-- What reading ends in, at given answers. -/
def CsvAt (rows : List (List (List UInt8))) (c a b : Nat) (w : World) (e : Ending) (w' : World) : Prop :=
  ∃ v, e = .returned (.tuple #[v, .agg #[.int .i64 c, .int .i64 a, .int .i64 b]]) ∧ SSOwn w' w.heap.size v rows
theorem csvPost_at {w w' : World} {l : List UInt8} {e : Ending} {rows : List (List (List UInt8))} {c a b : Nat} (h : csvQ l = (rows, c, a, b)) (hp : CsvPost w l e w') : CsvAt rows c a b w e w' := by
  obtain ⟨v, he, ho⟩ := hp
  rw [h] at he ho
  exact ⟨v, he, ho⟩

theorem rows_small {rows : List (List (List UInt8))} (h : (rows.map List.length).sum ≤ 36000) : ∀ r ∈ rows, r.length ≤ 9223372036854775807 := fun r hr => by
  have := sum_mem (List.mem_map_of_mem (f := List.length) hr)
  omega
set_option maxRecDepth 100000 in
set_option maxHeartbeats 4000000 in
theorem lawExReadCsv (s : ByteArray) (w : World) (hI : ImplRead w) :
    Calls Tryd.prog 7 #[.string s] w fun e w' => e = .returned (.bool true) ∧ Below w.heap.size w w' := by
  by_cases hs : 1048576 < s.size
  · have hs1 : (1048576 : Int) < s.size := by omega
    go_enter Tryd.func7, Tryd.ntmps7
    go_wp2_with fail
    go_ret
    exact ⟨rfl, Below.refl _ _⟩
  · have hs1 : ¬ (1048576 : Int) < s.size := by omega
    obtain ⟨rows, c, a, b, hq⟩ : ∃ rows c a b, csvQ s.data.toList = (rows, c, a, b) := ⟨_, _, _, _, rfl⟩
    have hbd := csvQ_bound hq
    have hr1 : rows.length ≤ 9223372036854775807 := by omega
    have hr2 := Lib.hid (rows_small hbd.2.2.1)
    have hlen : rows.length ≤ 140737488355328 := by omega
    obtain ⟨ns, hns⟩ : ∃ ns, rows.map List.length = ns := ⟨_, rfl⟩
    have hsum : 1 + ns.sum ≤ 140737488355328 := by rw [← hns]; omega
    have hnl : ns.length ≤ 140737488355328 := by rw [← hns, List.length_map]; omega
    have HNS := Lib.hid hns
    have hS : ∀ W, Calls Tryd.prog 16 #[.string s] W fun e w' => CsvAt rows c a b W e w' ∧ Below W.heap.size W w' := fun W => (specReadCsv s W).mono fun e w' k => ⟨csvPost_at hq k.1, k.2⟩
    have hP : ∀ W, Below w.heap.size w W → Calls Tryd.prog 11 #[.string s] W fun e w' => CsvAt rows c a b W e w' ∧ Below W.heap.size W w' := fun W hW => (hI s W hW (by omega)).mono fun e w' k => ⟨csvPost_at hq k.1, k.2⟩
    have HS := Lib.hid hS
    have HP := Lib.hid hP
    clear hS hP hI hq hbd hns
    go_enter Tryd.func7, Tryd.ntmps7
    go_wp2_with fail
    refine (HS.out w).mono ?_
    rintro e w1 ⟨⟨v1, rfl, ho1⟩, hB1⟩
    have R1 := Lib.hid (ho1.row hr1 hr2.out)
    have T1 := Lib.hid hB1
    clear ho1 hB1
    go_wp2_with fail
    refine (HP.out _ (T1.out.alloc T1.out.size _)).mono ?_
    rintro e w2 ⟨⟨v2, rfl, ho2⟩, hB2⟩
    have x1 := blk_old hB2 (alloc_lt _ _) (alloc_blk w1 #[.int .i64 (c : Int), .int .i64 (a : Int), .int .i64 (b : Int)] 28)
    have hz2 := hB2.size
    simp only [World.alloc, Array.size_push] at hz2
    have B12 : Below w1.heap.size w1 w2 := ((Below.refl _ _).alloc (Nat.le_refl _) _).trans (hB2.mono (by simp))
    have e2 : (w1.alloc (.cells #[.int .i64 (c : Int), .int .i64 (a : Int), .int .i64 (b : Int)] 28)).heap.size = w1.heap.size + 1 := by simp
    rw [e2] at ho2
    have O2 := Lib.hid ho2
    have X1 := Lib.hid x1
    clear hB2 e2 ho2 x1
    go_wp2_with fail
    have hA2 : Below w2.heap.size w2 (w2.alloc (.cells #[.int .i64 (c : Int), .int .i64 (a : Int), .int .i64 (b : Int)] 28)) := (Below.refl _ _).alloc (Nat.le_refl _) _
    refine (eqSS _ v2 v1 rows ((O2.out.below hA2).row hr1 hr2.out) ((R1.out.below B12).below hA2)).mono ?_
    rintro e w3 ⟨rfl, q3, hw3⟩
    have B23 : Below w2.heap.size w2 w3 := by rw [hw3]; exact below_drewN2 hA2 q3
    have x2 : w3.heap[w2.heap.size]? = some (.cells #[.int .i64 (c : Int), .int .i64 (a : Int), .int .i64 (b : Int)] 28 (0, 0)) := by rw [hw3]; exact alloc_blk w2 _ _
    have x1 := blk_next X1.out B23
    have B13 := bt B12 B23
    have O3 := Lib.hid (O2.out.below B23)
    have l1 := blk_lt x1
    have l2 := blk_lt x2
    have c10 := cell_blk x1 0
    have c11 := cell_blk x1 1
    have c12 := cell_blk x1 2
    have c20 := cell_blk x2 0
    have c21 := cell_blk x2 1
    have c22 := cell_blk x2 2
    have X13 := Lib.hid x1
    clear hw3 hA2 x1 x2 B23 B12 O2 X1
    go_wp2_with fail
    refine (eqFa _ _ _ _).mono ?_
    rintro e w4 ⟨rfl, B34⟩
    have B14 := bt B13 B34
    have O4 := Lib.hid (O3.out.below B34)
    have X14 := Lib.hid (blk_next X13.out B34)
    clear B34 B13 O3 X13 c10 c11 c12 c20 c21 c22 l1 l2
    go_wp2_with fail
    have hz4 := B14.size
    have l4 := blk_lt X14.out
    have hm := markSS w4 (w1.heap.size + 1) v2 rows 1 O4.out (by omega) (by omega) hlen (by rw [HNS.out]; exact hsum)
    rw [HNS.out] at hm
    refine hm.mono ?_
    rintro e w5 ⟨rfl, M5, B45⟩
    have B15 := Lib.hid (B14.trans (B45.mono (by omega)))
    have X15 := Lib.hid ((B45.block w1.heap.size (by omega)).trans X14.out)
    have M5h := Lib.hid M5
    clear B45 B14 O4 X14 M5 hm l4 hz4
    go_wp2_with fail
    refine (heldSS w5 v2 ns 1 M5h.out (by omega) hnl hsum).mono ?_
    rintro e w6 ⟨rfl, B56⟩
    have B16 := Lib.hid (bt B15.out B56)
    have X16 := Lib.hid (blk_next X15.out B56)
    have M6 := Lib.hid (M5h.out.below B56)
    clear B56 B15 X15 M5h
    go_wp2_with fail
    refine (HP.out _ (bt T1.out B16.out)).mono ?_
    rintro e w7 ⟨⟨v3, rfl, ho7⟩, B67⟩
    have B17 := Lib.hid (bt B16.out B67)
    have X17 := Lib.hid (blk_next X16.out B67)
    have M7 := Lib.hid (M6.out.below B67)
    have O7 := Lib.hid ho7
    clear B67 B16 X16 M6 ho7
    go_wp2_with fail
    have hA7 : Below w7.heap.size w7 (w7.alloc (.cells #[.int .i64 (c : Int), .int .i64 (a : Int), .int .i64 (b : Int)] 28)) := (Below.refl _ _).alloc (Nat.le_refl _) _
    refine (eqSS _ v3 v1 rows ((O7.out.below hA7).row hr1 hr2.out) ((R1.out.below B17.out).below hA7)).mono ?_
    rintro e w8 ⟨rfl, q8, hw8⟩
    have B78 : Below w7.heap.size w7 w8 := by rw [hw8]; exact below_drewN2 hA7 q8
    have x3 : w8.heap[w7.heap.size]? = some (.cells #[.int .i64 (c : Int), .int .i64 (a : Int), .int .i64 (b : Int)] 28 (0, 0)) := by rw [hw8]; exact alloc_blk w7 _ _
    have x1 := blk_next X17.out B78
    have B18 := bt B17.out B78
    have M8 := Lib.hid (M7.out.below B78)
    have l1 := blk_lt x1
    have l3 := blk_lt x3
    have c10 := cell_blk x1 0
    have c11 := cell_blk x1 1
    have c12 := cell_blk x1 2
    have c30 := cell_blk x3 0
    have c31 := cell_blk x3 1
    have c32 := cell_blk x3 2
    clear hw8 hA7 x1 x3 B78 B17 O7 X17 M7
    go_wp2_with fail
    refine (eqFa _ _ _ _).mono ?_
    rintro e w9 ⟨rfl, B89⟩
    have B19 := bt B18 B89
    have M9 := M8.out.below B89
    clear B89 B18 M8 c10 c11 c12 c30 c31 c32 l1 l3
    go_wp2_with fail
    refine (heldSS w9 v2 ns 1 M9 (by omega) hnl hsum).mono ?_
    rintro e w10 ⟨rfl, B910⟩
    have B110 := bt B19 B910
    clear B910 B19 M9
    go_wp2_with fail
    go_ret
    exact ⟨rfl, bt T1.out B110⟩
end Go.Proofs.YtklhkebpgoajgaaDoor
