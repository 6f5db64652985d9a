/-
  The walks of the laws on CSV at drawn rows and texts; the program's contracts are hypotheses.
-/
import Derived.Test.YtklhkebpgoajgaaDoorLawC7
import Derived.Test.YtklhkebpgoajgaaDoorCsvE
namespace Go.Proofs.YtklhkebpgoajgaaDoor
open Go.RowKit

theorem csvQ_text {rows : List (List (List UInt8))} (h : ∀ r ∈ rows, r ≠ []) (hl : (csvT rows).length ≤ 4000) : csvQ (csvT rows) = (rows, 0, 0, 0) := csvQ_ok (by omega) (rd_csvT h)
theorem csvQ_text_long {rows : List (List (List UInt8))} (hl : ¬ (csvT rows).length ≤ 4000) : csvQ (csvT rows) = ([], 1, 0, 0) := csvQ_long (by omega)
theorem csvF_ge (l : List UInt8) : l.length ≤ (csvF l).length := by
  have : ∀ l : List UInt8, l.length ≤ (dblL l).length := by
    intro l
    induction l with
    | nil => simp [dblL]
    | cons c r ih =>
      rw [dblL]
      split <;> simp only [List.length_cons] <;> omega
  have := this l
  unfold csvF
  split
  · simp only [List.length_cons, List.length_append, List.length_nil]; omega
  · omega
theorem rowT_mem : ∀ (r : List (List UInt8)) (p : List UInt8), p ∈ r → p.length ≤ (rowT r).length
  | [], _, h => by cases h
  | [a], p, h => by
    obtain rfl : p = a := by simpa using h
    rw [rowT]
    exact csvF_ge p
  | a :: b :: u, p, h => by
    have h1 := csvF_ge a
    rw [rowT]
    simp only [List.length_append, List.length_cons]
    rcases List.mem_cons.1 h with rfl | h
    · omega
    · have := rowT_mem (b :: u) p h
      omega
theorem csvT_mem {L : List (List (List UInt8))} {r : List (List UInt8)} (h : r ∈ L) : (rowT r).length + 1 ≤ (csvT L).length := by
  induction L with
  | nil => cases h
  | cons a t ih =>
    rw [csvT]
    simp only [List.length_append, List.length_cons]
    rcases List.mem_cons.1 h with rfl | h
    · omega
    · have := ih h
      omega
theorem text_bounds {L : List (List (List UInt8))} (h : (csvT L).length ≤ 36000) : ∀ r ∈ L, r.length ≤ 16777216 ∧ ∀ p ∈ r, p.length ≤ 16777216 := fun r hr => by
  have h1 := csvT_mem hr
  have h2 := rowT_len r
  refine ⟨by omega, fun p hp => ?_⟩
  have := rowT_mem r p hp
  omega
/-- A fault stands in the text. -/
theorem csvQ_fault {l : List UInt8} {rows : List (List (List UInt8))} {c a b : Nat} (h : csvQ l = (rows, c, a, b)) (hc : ¬ c = 0) : rows = [] ∧ a ≤ l.length ∧ b ≤ l.length := by
  rw [csvQ] at h
  split at h
  · simp only [Prod.mk.injEq] at h
    obtain ⟨rfl, _, rfl, rfl⟩ := h
    exact ⟨rfl, by omega, by omega⟩
  · cases hr : rdCsv l with
    | inl rs =>
      rw [hr] at h
      simp only [Prod.mk.injEq] at h
      exact absurd h.2.1.symm hc
    | inr x =>
      obtain ⟨x, y⟩ := x
      rw [hr] at h
      simp only [Prod.mk.injEq] at h
      obtain ⟨rfl, _, rfl, rfl⟩ := h
      have := rdAll_bad _ l [] x y hr
      simp only [List.length_nil] at this
      exact ⟨rfl, by omega, by omega⟩
theorem ssOwn_form {w : World} {base : Nat} {v : Value} {L : List (List (List UInt8))} (h : SSOwn w base v L) : ∃ a c, v = .slice a L.length c := by
  obtain ⟨vs, ho, _⟩ := h
  exact owns_form ho
theorem readAt {w : World} (hI : ImplRead w) {l : List UInt8} {rows : List (List (List UInt8))} {c a b : Nat} (hl : l.length ≤ 16777216) (hq : csvQ l = (rows, c, a, b)) (W : World) (hW : Below w.heap.size w W) : Calls Tryd.prog 11 #[.string ⟨l.toArray⟩] W fun e w' => CsvAt rows c a b W e w' ∧ Below W.heap.size W w' :=
  (hI ⟨l.toArray⟩ W hW (by rw [toArr_size]; exact hl)).mono fun e w' k => ⟨csvPost_at (l := l) hq k.1, k.2⟩
theorem specReadAt {l : List UInt8} {rows : List (List (List UInt8))} {c a b : Nat} (hq : csvQ l = (rows, c, a, b)) (W : World) : Calls Tryd.prog 16 #[.string ⟨l.toArray⟩] W fun e w' => CsvAt rows c a b W e w' ∧ Below W.heap.size W w' :=
  (specReadCsv ⟨l.toArray⟩ W).mono fun _ _ k => ⟨csvPost_at (l := l) hq k.1, k.2⟩
theorem specSameB (w : World) (v1 v2 : Value) (L : List (List (List UInt8))) (h1 : SSRow w v1 L) (h2 : SSRow w v2 L) :
    Calls Tryd.prog 14 #[v1, v2] w fun e w' => e = .returned (.bool true) ∧ Below w.heap.size w w' :=
  (specSameRows w v1 v2 L L h1 h2).mono fun e w' k => by
    obtain ⟨he, q, hw⟩ := k
    exact ⟨by rw [he, sameB_yes rfl], by rw [hw]; exact below_drewN2 (Below.refl _ _) q⟩

set_option maxRecDepth 100000 in
set_option maxHeartbeats 4000000 in
theorem lawFnCsv (w : World) (v : Value) (n : Nat) (hT : ImplText w) (hR : ImplRead w) (hS : ImplSame) (hb : Bytes w v n) :
    Calls Tryd.prog 3 #[v] w fun e w' => e = .returned (.bool true) ∧ Below w.heap.size w w' := by
  by_cases hbig : 1048576 < n
  · go_enter Tryd.func3, Tryd.ntmps3
    go_wp2_with fail
    refine (big_yes w v n hb hbig).mono ?_
    rintro e w1 ⟨rfl, rfl⟩
    go_wp2_with fail
    go_ret
    exact ⟨rfl, Below.refl _ _⟩
  · have HT := Lib.hid hT
    have HR := Lib.hid hR
    have HS := Lib.hid hS
    clear hT hR hS
    go_enter Tryd.func3, Tryd.ntmps3
    go_wp2_with fail
    refine (big_no w v n hb hbig).mono ?_
    rintro e w0 ⟨rfl, rfl⟩
    go_wp2_with fail
    refine (drawCsvText w v n hb).mono ?_
    rintro e w1 ⟨⟨u, rows, rfl, ho, hg⟩, B01⟩
    have hb9 := rowsGood_text hg
    have hne : Hid (∀ r ∈ rows, r ≠ []) := Lib.hid (fun r hr => (hg.2 r hr).1)
    have hct : (csvT rows).length ≤ 400 := hb9.1
    have R1 := Lib.hid (ho.row (by have := hg.1; omega) hb9.2.1)
    have hrl : rows.length ≤ 3 := hg.1
    have HB9 := Lib.hid hb9.2.1
    have HTB := Lib.hid (text_bounds (L := rows) (by omega))
    have HQ := Lib.hid (csvQ_text hne.out (by omega))
    clear ho hg hb9 hbig hb
    go_wp2_with fail
    refine (HT.out w1 u rows B01 R1.out (by omega) (by omega) HTB.out).mono ?_
    rintro e w2 ⟨rfl, B12⟩
    have B02 := bt B01 B12
    clear B01
    go_wp2_with fail
    refine (readAt HR.out (by omega) HQ.out w2 B02).mono ?_
    rintro e w3 ⟨⟨x, rfl, ho3⟩, B23⟩
    have B13 := bt B12 B23
    have B03 := bt B02 B23
    have O3 := Lib.hid ho3
    clear ho3 B12 B02 B23
    go_wp2_with fail
    have hA3 : Below w3.heap.size w3 (w3.alloc (.cells #[.int .i64 ((0 : Nat) : Int), .int .i64 ((0 : Nat) : Int), .int .i64 ((0 : Nat) : Int)] 28)) := (Below.refl _ _).alloc (Nat.le_refl _) _
    refine (specCsvText _ u rows ((R1.out.below B13).below hA3) (by omega) (fun r hr p hp => by have := (HTB.out r hr).2 p hp; omega)).mono ?_
    rintro e w4 ⟨rfl, B34⟩
    have x4 := blk_next (alloc_blk w3 _ _) B34
    have l4 := blk_lt x4
    have c0 := cell_blk x4 0
    have c1 := cell_blk x4 1
    have c2 := cell_blk x4 2
    have B39 := bt hA3 B34
    have B14 := bt B13 B39
    have B04 := bt B03 B39
    have O4 := Lib.hid (O3.out.below B39)
    clear B34 B39 hA3 x4 O3 B13 B03
    go_wp2_with fail
    refine (HS.out _ x u rows rows (O4.out.row (by omega) HB9.out) (R1.out.below B14) (by omega) (by omega)).mono ?_
    rintro e w5 ⟨rfl, B45⟩
    have hsb : sameB rows rows = true := sameB_yes rfl
    rw [hsb]
    have B15 := bt B14 B45
    have B05 := bt B04 B45
    have O5 := Lib.hid (O4.out.below B45)
    clear B45 B14 B04 O4 c0 c1 c2 l4 hsb
    go_wp2_with fail
    refine (specSameB w5 x u rows (O5.out.row (by omega) HB9.out) (R1.out.below B15)).mono ?_
    rintro e w6 ⟨rfl, B56⟩
    go_wp2_with fail
    go_ret
    exact ⟨rfl, bt B05 B56⟩

set_option maxRecDepth 100000 in
set_option maxHeartbeats 4000000 in
theorem lawFnCsvRead (w : World) (v : Value) (n : Nat) (hT : ImplText w) (hR : ImplRead w) (hb : Bytes w v n) :
    Calls Tryd.prog 4 #[v] w fun e w' => e = .returned (.bool true) ∧ Below w.heap.size w w' := by
  by_cases hbig : 1048576 < n
  · go_enter Tryd.func4, Tryd.ntmps4
    go_wp2_with fail
    refine (big_yes w v n hb hbig).mono ?_
    rintro e w1 ⟨rfl, rfl⟩
    go_wp2_with fail
    go_ret
    exact ⟨rfl, Below.refl _ _⟩
  · have HT := Lib.hid hT
    have HR := Lib.hid hR
    clear hT hR
    go_enter Tryd.func4, Tryd.ntmps4
    go_wp2_with fail
    refine (big_no w v n hb hbig).mono ?_
    rintro e w0 ⟨rfl, rfl⟩
    go_wp2_with fail
    refine (drawReadCsv w v n hb).mono ?_
    rintro e w1 ⟨⟨s, hs, rfl⟩, B01⟩
    obtain ⟨l, rfl⟩ : ∃ l : List UInt8, s = ⟨l.toArray⟩ := ⟨s.data.toList, (mk_toList s).symm⟩
    have hl : l.length ≤ 4100 := by simpa [ByteArray.size] using hs
    have hsz : (⟨l.toArray⟩ : ByteArray).size = l.length := toArr_size l
    obtain ⟨rows, c, a, b, hq⟩ : ∃ rows c a b, csvQ l = (rows, c, a, b) := ⟨_, _, _, _, rfl⟩
    have hbd := csvQ_bound hq
    have hr1 : rows.length ≤ 4000 := hbd.1
    have hct : (csvT rows).length ≤ 36000 := hbd.2.1
    have HNE := Lib.hid hbd.2.2.2
    have HR9 := Lib.hid (rows_small hbd.2.2.1)
    have HTB := Lib.hid (text_bounds hct)
    have HFA := Lib.hid (fun hc => csvQ_fault hq hc)
    have HRD := Lib.hid (readAt HR.out (by omega) hq)
    have HSD := Lib.hid (specReadAt hq)
    generalize (⟨l.toArray⟩ : ByteArray) = s at hs hsz HRD HSD
    have HSZ := Lib.hid hsz
    clear hq hbd hs hbig hb hsz
    go_wp2_with fail
    refine (HRD.out w1 B01).mono ?_
    rintro e w2 ⟨⟨x, rfl, ho2⟩, B12⟩
    have O2 := Lib.hid (ho2.row (by omega) HR9.out)
    have B02 := bt B01 B12
    obtain ⟨ax, cx, hx⟩ := ssOwn_form ho2
    subst hx
    clear ho2 B12 B01
    go_wp2_with fail
    refine (HSD.out _).mono ?_
    rintro e w3 ⟨⟨y, rfl, ho3⟩, B23⟩
    have x2 := blk_old B23 (alloc_lt _ _) (alloc_blk w2 #[.int .i64 (c : Int), .int .i64 (a : Int), .int .i64 (b : Int)] 28)
    have hA2 : Below w2.heap.size w2 (w2.alloc (.cells #[.int .i64 (c : Int), .int .i64 (a : Int), .int .i64 (b : Int)] 28)) := (Below.refl _ _).alloc (Nat.le_refl _) _
    have B29 := bt hA2 B23
    have O3 := Lib.hid (O2.out.below B29)
    have B03 := bt B02 B29
    have l2 := blk_lt x2
    have X2 := Lib.hid x2
    have c0 := cell_blk x2 0
    have c1 := cell_blk x2 1
    have c2 := cell_blk x2 2
    clear ho3 B23 hA2 B29 x2 B02 O2
    by_cases hc0 : c = 0
    · have hnb : (c != c) = false := by simp
      subst hc0
      by_cases hl2 : (csvT rows).length ≤ 4000
      · have HQ2 := Lib.hid (readAt HR.out (by omega) (csvQ_text HNE.out hl2))
        go_wp2_with fail
        have hA3 : Below w3.heap.size w3 (w3.alloc (.cells #[.int .i64 ((0 : Nat) : Int), .int .i64 (a : Int), .int .i64 (b : Int)] 28)) := (Below.refl _ _).alloc (Nat.le_refl _) _
        refine (HT.out _ _ rows (bt B03 hA3) (O3.out.below hA3) (by omega) (by omega) HTB.out).mono ?_
        rintro e w4 ⟨rfl, B34⟩
        have B39 := bt hA3 B34
        have O4 := Lib.hid (O3.out.below B39)
        have B04 := bt B03 B39
        clear B34 hA3 B39 B03 O3 c0 c1 c2 l2
        go_wp2_with fail
        refine (HQ2.out w4 B04).mono ?_
        rintro e w5 ⟨⟨z, rfl, ho5⟩, B45⟩
        have O5 := Lib.hid (O4.out.below B45)
        have Z5 := Lib.hid (ho5.row (by omega) HR9.out)
        have B05 := bt B04 B45
        clear ho5 B45 B04 O4
        go_wp2_with fail
        have hA5 : Below w5.heap.size w5 (w5.alloc (.cells #[.int .i64 ((0 : Nat) : Int), .int .i64 ((0 : Nat) : Int), .int .i64 ((0 : Nat) : Int)] 28)) := (Below.refl _ _).alloc (Nat.le_refl _) _
        refine (specSameB _ z _ rows (Z5.out.below hA5) (O5.out.below hA5)).mono ?_
        rintro e w6 ⟨rfl, B56⟩
        have B06 := bt B05 (bt hA5 B56)
        clear B56 hA5
        go_wp2_with fail
        go_ret
        exact ⟨rfl, B06⟩
      · have HQ2 := Lib.hid (readAt HR.out (by omega) (csvQ_text_long hl2))
        go_wp2_with fail
        have hA3 : Below w3.heap.size w3 (w3.alloc (.cells #[.int .i64 ((0 : Nat) : Int), .int .i64 (a : Int), .int .i64 (b : Int)] 28)) := (Below.refl _ _).alloc (Nat.le_refl _) _
        refine (HT.out _ _ rows (bt B03 hA3) (O3.out.below hA3) (by omega) (by omega) HTB.out).mono ?_
        rintro e w4 ⟨rfl, B34⟩
        have B04 := bt B03 (bt hA3 B34)
        clear B34 hA3 B03 O3 c0 c1 c2 l2
        go_wp2_with fail
        refine (HQ2.out w4 B04).mono ?_
        rintro e w5 ⟨⟨z, rfl, ho5⟩, B45⟩
        have B05 := bt B04 B45
        clear ho5 B45 B04
        go_wp2_with fail
        go_ret
        exact ⟨rfl, B05.alloc B05.size _⟩
    · have hf := HFA.out hc0
      have hra : a ≤ s.size := by rw [HSZ.out]; exact hf.2.1
      have hrb : b ≤ s.size := by rw [HSZ.out]; exact hf.2.2
      have hrn : rows.length = 0 := by rw [hf.1]; rfl
      clear hf
      have hc1 : ¬ (c : Int) = 0 := by omega
      have ha9 : (a : Int) ≤ s.size := by omega
      have hb9 : (b : Int) ≤ s.size := by omega
      rw [hrn]
      clear hrn
      go_wp2_with fail
      go_ret
      exact ⟨rfl, (B03.alloc B03.size _)⟩

end Go.Proofs.YtklhkebpgoajgaaDoor
