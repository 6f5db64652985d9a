/-
  The law on columns: the draw's and the program's contracts are hypotheses.
-/
import Derived.Test.YticeagjonfifbaaTabK
import Derived.Test.YticeagjonfifbaaTabC
import Derived.Test.YticeagjonfifbaaTabM
import Derived.Test.YticeagjonfifbaaArgsB
import Derived.Test.YticeagjonfifbaaLawO9
namespace Go.Proofs.Yticeagjonfifbaa
open Go.RowKit

set_option maxRecDepth 100000 in
theorem smI_zero (w : World) (a b : Option Addr) (c d : Nat) :
    Calls Try.prog 11 #[.slice a 0 c, .slice b 0 d] w fun e w' => e = .returned (.bool true) ∧ w = w' := by
  go_enter Try.func11, Try.ntmps11
  go_wp2_with fail
  go_loop [5] (fun i => i = .int .i64 0) (fun _ => 0)
  case atStart => rfl
  case round =>
    subst hrel
    go_wp2_with fail
    go_ret
    exact ⟨rfl, rfl⟩

set_option maxRecDepth 100000 in
set_option maxHeartbeats 1000000 in
theorem smI_some (w : World) (b1 o1 c1 b2 o2 c2 : Nat) (zs : List Int) (hl : zs.length ≤ 9223372036854775807)
    (h1 : ∀ (j : Nat) z, zs[j]? = some z → w.cell? ⟨b1, o1 + j, none⟩ = some (.int .i64 z)) (h2 : ∀ (j : Nat) z, zs[j]? = some z → w.cell? ⟨b2, o2 + j, none⟩ = some (.int .i64 z)) :
    Calls Try.prog 11 #[.slice (some ⟨b1, o1, none⟩) zs.length c1, .slice (some ⟨b2, o2, none⟩) zs.length c2] w fun e w' => e = .returned (.bool true) ∧ ∃ k, w' = w.drewN k := by
  have H1 := Lib.hid h1
  have H2 := Lib.hid h2
  clear h1 h2
  have HN : Hid (∃ n : Nat, zs.length = n) := ⟨_, rfl⟩
  obtain ⟨n, hn⟩ := HN.out
  rw [hn] at hl ⊢
  have HE := Lib.hid hn
  clear hn HN
  go_enter Try.func11, Try.ntmps11
  go_wp2_with fail
  go_loopw [4, 5] (fun _ i wr => ∃ (k q : Nat), k ≤ n ∧ i = .int .i64 k ∧ wr = w.drewN q) (fun _ i _ => n - (intOf i).toNat)
  case atStart => exact ⟨0, 0, Nat.zero_le _, rfl, rfl⟩
  case round =>
    obtain ⟨k, q, hk, rfl, rfl⟩ := hrel
    by_cases hlt : k < n
    · have hk1 : (k : Int) < n := by omega
      have hk0 : (0 : Int) ≤ k := by omega
      obtain ⟨p, hp⟩ : ∃ p, zs[k]? = some p := ⟨_, List.getElem?_eq_getElem (by rw [HE.out]; exact hlt)⟩
      have hc1 := H1.out k p hp
      have hc2 := H2.out k p hp
      have HP := Lib.hid hp
      clear hp
      go_wp2_with fail
      go_quiet (fail)
      go_wp2_with fail
      go_roundw
      case rel => exact ⟨k + 1, _, by omega, by go_num, rfl⟩
      case measure => simp [intOf]; omega
    · have hk1 : ¬ (k : Int) < n := by omega
      go_wp2_with fail
      go_ret
      exact ⟨rfl, q, rfl⟩

/-- TWO LISTS OF NUMBERS THAT READ ALIKE ARE EQUAL. -/
theorem smI (w : World) (v1 v2 : Value) (zs : List Int) (h1 : IntRow w v1 zs) (h2 : IntRow w v2 zs) :
    Calls Try.prog 11 #[v1, v2] w fun e w' => e = .returned (.bool true) ∧ ∃ k, w' = w.drewN k := by
  rcases h1 with ⟨rfl, a, c, rfl⟩ | ⟨b1, o1, c1, rfl, hl, _, h1⟩
  · rcases h2 with ⟨_, b, d, rfl⟩ | ⟨b2, o2, c2, rfl, _, _, _⟩
    · exact (smI_zero w a b c d).mono fun e w' ⟨he, hw⟩ => ⟨he, 0, hw ▸ rfl⟩
    · exact (smI_zero w a _ c c2).mono fun e w' ⟨he, hw⟩ => ⟨he, 0, hw ▸ rfl⟩
  · rcases h2 with ⟨rfl, b, d, rfl⟩ | ⟨b2, o2, c2, rfl, _, _, h2⟩
    · exact (smI_zero w _ b c1 d).mono fun e w' ⟨he, hw⟩ => ⟨he, 0, hw ▸ rfl⟩
    · exact smI_some w b1 o1 c1 b2 o2 c2 zs hl h1 h2

/-- How small a drawn table is. -/
def SmallT (T : Tab) : Prop := T.ns.length ≤ 1024 ∧ T.rs.length ≤ 1024 ∧ (∀ r ∈ T.rs, r.length ≤ 1024) ∧ T.ys.length ≤ 1024 ∧ (∀ p ∈ T.ns, p.length ≤ 1024) ∧ T.y.length ≤ 1024
def DrawCol : Prop := ∀ (w : World) (v : Value) (n : Nat), Bytes w v n → Calls Try.prog 9 #[v] w fun e w' => (∃ (T : Tab) (u1 u2 u3 : Value) (f : Int), e = .returned (.tuple #[.agg #[u1, .string ⟨T.y.toArray⟩, u2, u3], .int .i64 f]) ∧ TabRow w' T u1 u2 u3 ∧ SmallT T ∧ -9223372036854775808 ≤ f ∧ f ≤ 9223372036854775807) ∧ Below w.heap.size w w'
theorem smI_B (w : World) (v1 v2 : Value) (zs : List Int) (h1 : IntRow w v1 zs) (h2 : IntRow w v2 zs) :
    Calls Try.prog 11 #[v1, v2] w fun e w' => e = .returned (.bool true) ∧ Below w.heap.size w w' :=
  (smI w v1 v2 zs h1 h2).mono fun _ _ ⟨he, q, hq⟩ => ⟨he, hq ▸ below_drewN2 (Below.refl _ _) q⟩

set_option maxRecDepth 100000 in
set_option maxHeartbeats 4000000 in
theorem lawColumn (hD : DrawCol) (hI : ImplColumn) (w : World) (v : Value) (n : Nat) (hb : Bytes w v n) :
    Calls Try.prog 3 #[v] w fun e w' => e = .returned (.bool true) ∧ Below w.heap.size w w' := by
  by_cases hn : 1048576 < n
  · have HK := Lib.hid (big_yes w v n hb hn)
    go_enter Try.func3, Try.ntmps3
    go_wp2_with fail
    refine HK.out.mono ?_
    rintro e w1 ⟨rfl, rfl⟩
    go_wp2_with fail
    go_ret
    exact ⟨rfl, Below.refl _ _⟩
  · have HK := Lib.hid (big_no w v n hb hn)
    have HD := Lib.hid (hD w v n hb)
    have HI := Lib.hid hI
    clear hD hI hb hn
    go_enter Try.func3, Try.ntmps3
    go_wp2_with fail
    refine HK.out.mono ?_
    rintro e w1 ⟨rfl, rfl⟩
    go_wp2_with fail
    refine HD.out.mono ?_
    rintro e w1 ⟨⟨T, u1, u2, u3, f, rfl, hT, hS, f0, f1⟩, B01⟩
    obtain ⟨a1, c1, a2, c2, a3, c3, rfl, rfl, rfl⟩ := hT.form
    obtain ⟨L, hL⟩ : ∃ L, colT T f = L := ⟨_, rfl⟩
    have hLl : L.length ≤ T.rs.length := by rw [← hL]; exact colT_len T f
    obtain ⟨s1, s2, s3, s4, s5, s6⟩ := hS
    have HNL : Hid (∀ p ∈ T.ns, p.length ≤ 9223372036854775807) := Lib.hid (fun p hp => by have := s5 p hp; omega)
    have HYL : Hid (T.y.length ≤ 9223372036854775807) := Lib.hid (by omega)
    have HIc : Hid (∀ (u1 u2 u3 : Value) (w : World), TabRow w T u1 u2 u3 → Calls Try.prog 10 #[.agg #[u1, .string ⟨T.y.toArray⟩, u2, u3], .int .i64 f] w fun e w' => (∃ v, e = .returned v ∧ w'.ownsRow w.heap.size 3 1 v L.length (intCells L)) ∧ Below w.heap.size w w') := Lib.hid (fun u1 u2 u3 w hw => by have := HI.out T u1 u2 u3 f w hw (by omega) (by omega) (fun r hr => by have := s3 r hr; omega) (by omega) HNL.out HYL.out f0 f1; rwa [hL] at this)
    have HSc : Hid (∀ (u1 u2 u3 : Value) (w : World), TabRow w T u1 u2 u3 → Calls Try.prog 12 #[.agg #[u1, .string ⟨T.y.toArray⟩, u2, u3], .int .i64 f] w fun e w' => (∃ v, e = .returned v ∧ w'.ownsRow w.heap.size 3 1 v L.length (intCells L)) ∧ Below w.heap.size w w') := Lib.hid (fun u1 u2 u3 w hw => by have := specColumn T u1 u2 u3 f w hw (by omega); rwa [hL] at this)
    have hLr : L.length ≤ 9223372036854775807 := by omega
    have HF : Hid (L.length = 0 ∨ L.length = T.rs.length) := Lib.hid (by
      rw [← hL]
      unfold colT
      split
      · exact Or.inr (by simp)
      · exact Or.inl rfl)
    have HC : Hid (∀ j z, L[j]? = some z → okT T = true → ∃ (q : Nat) (r : List Int), f = (q : Int) ∧ T.rs[j]? = some r ∧ r[q]? = some z) := Lib.hid (fun j z hz hok => by
      rw [← hL] at hz
      unfold colT at hz
      split at hz
      · rename_i hf
        rw [List.getElem?_map] at hz
        cases hr : T.rs[j]? with
        | none => rw [hr] at hz; cases hz
        | some r =>
          rw [hr] at hz
          obtain rfl : r.getD f.toNat 0 = z := Option.some.inj hz
          have ho := (okT_head hok).2.2.2.2.2.2 j (List.getElem?_eq_some_iff.1 hr).1
          rw [getD_at hr] at ho
          have hq : f.toNat < r.length := by omega
          refine ⟨f.toNat, r, by omega, hr, ?_⟩
          rw [List.getElem?_eq_getElem hq, List.getD_eq_getElem?_getD, List.getElem?_eq_getElem hq]
          rfl
      · simp at hz)
    have hA1 := bl_al w1 (.cells #[.slice a1 T.ns.length c1, .string ⟨T.y.toArray⟩, .slice a2 T.rs.length c2, .slice a3 T.ys.length c3] 28)
    have hB0 := hT.below hA1
    have hx := alloc_blk w1 #[.slice a1 T.ns.length c1, .string ⟨T.y.toArray⟩, .slice a2 T.rs.length c2, .slice a3 T.ys.length c3] 28
    clear HI hL s3 s5
    go_wp2_with fail
    refine (HIc.out _ _ _ _ hB0).mono ?_
    rintro e w2 ⟨⟨vI, rfl, hoI⟩, B12⟩
    have RI2 := Lib.hid (intRow_of_owns hoI hLr)
    obtain ⟨ia, ic, rfl⟩ := owns_form hoI
    have X2 := Lib.hid (blk_next hx B12)
    have R2 := Lib.hid (hB0.below B12)
    have B02 := Lib.hid (bt (bt B01 hA1) B12)
    clear hA1 hB0 hx hoI B12 B01 hT
    have ca0 := cell_blk X2.out 0
    have ca1 := cell_blk X2.out 1
    have ca2 := cell_blk X2.out 2
    have ca3 := cell_blk X2.out 3
    have la := blk_lt X2.out
    go_wp2_with fail
    refine (HSc.out _ _ _ _ R2.out).mono ?_
    rintro e w3 ⟨⟨vS, rfl, hoS⟩, B23⟩
    have RS3 := Lib.hid (intRow_of_owns hoS hLr)
    obtain ⟨sa, sc, rfl⟩ := owns_form hoS
    have RI3 := Lib.hid (RI2.out.below B23)
    have X3 := Lib.hid (blk_next X2.out B23)
    have R3 := Lib.hid (R2.out.below B23)
    have B03 := Lib.hid (bt B02.out B23)
    clear ca0 ca1 ca2 ca3 la
    clear hoS B23 X2 R2 RI2 B02
    go_wp2_with fail
    refine (smI_B _ _ _ L RI3.out RS3.out).mono ?_
    rintro e w4 ⟨rfl, B34⟩
    have RI4 := Lib.hid (RI3.out.below B34)
    have X4 := Lib.hid (blk_next X3.out B34)
    have R4 := Lib.hid (R3.out.below B34)
    have B04 := Lib.hid (bt B03.out B34)
    clear B34 X3 R3 RI3 RS3 B03
    go_wp2_with fail
    go_loopg [6] L.length (fun g i_ wr => ∃ j : Nat, j ≤ L.length ∧ g = L.length - j ∧ i_ = .int .i64 j ∧ Below w4.heap.size w4 wr)
    case atStart => exact ⟨0, Nat.zero_le _, rfl, rfl, Below.refl _ _⟩
    case round =>
      obtain ⟨j, hj, rfl, rfl, hB⟩ := hrel
      have HB := Lib.hid hB
      clear hB
      have X5 := Lib.hid (blk_next X4.out HB.out)
      by_cases hlt : j < L.length
      · have hj1 : (j : Int) < L.length := by omega
        have hj0 : (0 : Int) ≤ j := by omega
        obtain ⟨z, hz⟩ : ∃ z, L[j]? = some z := ⟨_, List.getElem?_eq_getElem hlt⟩
        have HZ := Lib.hid hz
        clear hz
        have ca0 := cell_blk X5.out 0
        have ca1 := cell_blk X5.out 1
        have ca2 := cell_blk X5.out 2
        have ca3 := cell_blk X5.out 3
        have la := blk_lt X5.out
        obtain ⟨r, hr⟩ : ∃ r, okT T = r := ⟨_, rfl⟩
        have HR := Lib.hid hr
        clear hr
        go_wp2_with fail
        refine (specTableOk T _ _ _ _ (R4.out.below HB.out) HYL.out HNL.out r HR).mono ?_
        rintro e w6 ⟨rfl, hB6⟩
        have X6 := Lib.hid (blk_next X5.out hB6)
        have HB6 := Lib.hid (bt HB.out hB6)
        clear ca0 ca1 ca2 ca3 la
        clear hB6 X5 HB
        have HB := HB6
        clear HB6
        have ca0 := cell_blk X6.out 0
        have ca2 := cell_blk X6.out 2
        have la := blk_lt X6.out
        cases r with
        | false =>
          by_cases hz0 : L.length = 0
          · have hz1 : (L.length : Int) = 0 := by omega
            have hz5 : L = [] := List.eq_nil_of_length_eq_zero hz0
            go_wp2_with fail
            go_ret
            exact ⟨rfl, bt B04.out HB.out⟩
          · have hz1 : ¬ (L.length : Int) = 0 := by omega
            have hz2 : (L.length : Int) = T.rs.length := by rcases HF.out with h | h <;> omega
            have hz3 : ¬ T.rs = [] := fun h => by
              have h9 : T.rs.length = 0 := by rw [h]; rfl
              omega
            have hz4 : ¬ L = [] := fun h => hz0 (by rw [h]; rfl)
            go_wp2_with fail
            go_ret
            exact ⟨rfl, bt B04.out HB.out⟩
        | true =>
          obtain ⟨q, row, rfl, hrw, hq⟩ := HC.out j z HZ.out HR.out
          have hqr := (List.getElem?_eq_some_iff.1 hq).1
          have hjr := (List.getElem?_eq_some_iff.1 hrw).1
          have hjr1 : (j : Int) < T.rs.length := by omega
          have hq1 : (q : Int) < row.length := by omega
          have hq0 : (0 : Int) ≤ q := by omega
          obtain ⟨_, _, hia, _, hfi⟩ := intRow_form RI4.out
          injection hia with hia1 _ hia3
          subst hia1
          subst hia3
          obtain ⟨bi, oi, rfl, hci⟩ := hfi j z HZ.out
          obtain ⟨_, _, hra, _, hfr⟩ := iiRow_cells R4.out.2.1
          injection hra with hra1 _ hra3
          subst hra1
          subst hra3
          obtain ⟨b2, o2, u, rfl, hcu, hru⟩ := hfr j row hrw
          obtain ⟨ar, cr, rfl, _, hfx⟩ := intRow_form hru
          obtain ⟨b4, o4, rfl, hcz⟩ := hfx q z hq
          have k1 := (HB.out.cell (p := ⟨bi, oi + j, none⟩) (World.block_lt_of_cell? w4 _ hci)).trans hci
          have k2 := (HB.out.cell (p := ⟨b2, o2 + j, none⟩) (World.block_lt_of_cell? w4 _ hcu)).trans hcu
          have k3 := (HB.out.cell (p := ⟨b4, o4 + q, none⟩) (World.block_lt_of_cell? w4 _ hcz)).trans hcz
          clear hfi hfr hfx hci hcu hru hcz hq hrw
          go_wp2_with fail
          go_region
          go_wp2_with fail
          go_roundg (L.length - (j + 1))
          case measure => omega
          case rel => exact ⟨j + 1, by omega, rfl, by go_num, HB.out.drew⟩
      · have hj1 : ¬ (j : Int) < L.length := by omega
        have ca0 := cell_blk X5.out 0
        have ca2 := cell_blk X5.out 2
        have la := blk_lt X5.out
        by_cases hz0 : L.length = 0
        · have hz1 : (L.length : Int) = 0 := by omega
          have hz5 : L = [] := List.eq_nil_of_length_eq_zero hz0
          go_wp2_with fail
          go_ret
          exact ⟨rfl, bt B04.out HB.out⟩
        · have hz1 : ¬ (L.length : Int) = 0 := by omega
          have hz2 : (L.length : Int) = T.rs.length := by rcases HF.out with h | h <;> omega
          have hz3 : ¬ T.rs = [] := fun h => by
            have h9 : T.rs.length = 0 := by rw [h]; rfl
            omega
          have hz4 : ¬ L = [] := fun h => hz0 (by rw [h]; rfl)
          go_wp2_with fail
          go_ret
          exact ⟨rfl, bt B04.out HB.out⟩
end Go.Proofs.Yticeagjonfifbaa
