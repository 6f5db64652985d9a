/-
  The exact laws on sorted lists and cuts: the program's contracts are hypotheses.
-/
import Derived.Test.YtekdlkakcclejaaSrtV
import Derived.Test.YtekdlkakcclejaaRowII
import Derived.Test.YtekdlkakcclejaaTabS
import Derived.Test.YtekdlkakcclejaaArgsB
namespace Go.Proofs.Ytekdlkakcclejaa
open Go.RowKit

/-- What the program is to answer. -/
def ImplSort : Prop := ∀ (zs : List Int) (u : Value) (w : World), IntRow w u zs → zs.length ≤ 1048576 → Calls Try.prog 11 #[u] w fun e w' => (∃ v, e = .returned v ∧ w'.ownsRow w.heap.size 3 1 v (sortZ zs).length (intCells (sortZ zs))) ∧ Below w.heap.size w w'
def ImplDist : Prop := ∀ (zs : List Int) (u : Value) (w : World), IntRow w u zs → zs.length ≤ 1048576 → Calls Try.prog 12 #[u] w fun e w' => (∃ v, e = .returned v ∧ w'.ownsRow w.heap.size 3 1 v (distZ zs).length (intCells (distZ zs))) ∧ Below w.heap.size w w'
def ImplCuts : Prop := ∀ (zs : List Int) (b : Int) (u : Value) (w : World), IntRow w u zs → zs.length ≤ 1048576 → Calls Try.prog 17 #[u, .int .i64 b] w fun e w' => (∃ v, e = .returned v ∧ w'.ownsRow w.heap.size 3 1 v (cutsZ zs b).length (intCells (cutsZ zs b))) ∧ Below w.heap.size w w'
def ImplCutsOk : Prop := ∀ (zs : List Int) (u : Value) (w : World), IntRow w u zs → zs.length ≤ 1048576 → Calls Try.prog 27 #[u] w fun e w' => e = .returned (.bool (cutsB zs)) ∧ Below w.heap.size w w'
set_option maxRecDepth 100000 in
set_option maxHeartbeats 4000000 in
theorem lawExSortInts (hI : ImplSort) (zs : List Int) (u : Value) (w : World) (h : IntRow w u zs) :
    Calls Try.prog 5 #[u] w fun e w' => e = .returned (.bool true) ∧ Below w.heap.size w w' := by
  obtain ⟨a, c, rfl, hl9, _⟩ := intRow_form h
  by_cases hov : 1048576 < zs.length
  · have hov1 : (1048576 : Int) < zs.length := by omega
    go_enter Try.func5, Try.ntmps5
    go_wp2_with fail
    go_ret
    exact ⟨rfl, Below.refl _ _⟩
  · have hov1 : ¬ (1048576 : Int) < zs.length := by omega
    have hle : zs.length ≤ 1048576 := by omega
    have h0 := Lib.hid h
    obtain ⟨L, hL⟩ : ∃ L, sortZ zs = L := ⟨_, rfl⟩
    have hLl : L.length ≤ 1048576 := by
      have := sortZ_len zs
      rw [hL] at this
      omega
    have hLr : L.length ≤ 9223372036854775807 := by omega
    have HI : Hid (∀ (u : Value) (w : World), IntRow w u zs → Calls Try.prog 11 #[u] w fun e w' => (∃ v, e = .returned v ∧ w'.ownsRow w.heap.size 3 1 v (L).length (intCells (L))) ∧ Below w.heap.size w w') := Lib.hid (fun u w hw => by have := hI zs u w hw hle; rwa [hL] at this)
    have HS : Hid (∀ (u : Value) (w : World), IntRow w u zs → Calls Try.prog 21 #[u] w fun e w' => (∃ v, e = .returned v ∧ w'.ownsRow w.heap.size 3 1 v (L).length (intCells (L))) ∧ Below w.heap.size w w') := Lib.hid (fun u w hw => by have := specSortInts zs u w hw hle; rwa [hL] at this)
    have HT : Hid (∀ (w : World), IntRow w (.slice a zs.length c) zs → Calls Try.prog 22 #[.slice a zs.length c] w fun e w' => ∃ v, e = .returned v ∧ w'.ownsRow w.heap.size 3 1 v zs.length (intCells zs) ∧ Below w.heap.size w w') := Lib.hid (fun w hw => toI w _ zs hw hle)
    have hk1 : ¬ (1 : Int) + zs.length < 0 := by omega
    have hk2 : ¬ (1 : Int) + L.length < 0 := by omega
    clear h hI hL hov
    go_enter Try.func5, Try.ntmps5
    go_wp2_with fail
    refine (HT.out w h0.out).mono ?_
    rintro e w1 ⟨v1, rfl, ho1, B1⟩
    have R1 := Lib.hid (intRow_of_owns ho1 hl9)
    have B01 := Lib.hid B1
    clear ho1 B1
    go_wp2_with fail
    refine (HS.out v1 w1 R1.out).mono ?_
    rintro e w2 ⟨⟨vS, rfl, hoS⟩, B2⟩
    have B02 := Lib.hid (bt B01.out B2)
    have RS := Lib.hid (intRow_of_owns hoS hLr)
    clear hoS B2 B01 R1
    go_wp2_with fail
    refine (HT.out w2 (h0.out.below B02.out)).mono ?_
    rintro e w3 ⟨v3, rfl, ho3, B3⟩
    have O3 := Lib.hid ho3
    have RS3 := Lib.hid (RS.out.below B3)
    have B03 := Lib.hid (bt B02.out B3)
    have B23 := Lib.hid B3
    clear ho3 B3
    go_wp2_with fail
    refine (HI.out v3 w3 (intRow_of_owns O3.out hl9)).mono ?_
    rintro e w4 ⟨⟨vI, rfl, hoI⟩, B4⟩
    have OI := Lib.hid hoI
    have O4 := Lib.hid (owns_bl O3.out B4)
    have RS4 := Lib.hid (RS3.out.below B4)
    have B04 := Lib.hid (bt B03.out B4)
    have B24 := Lib.hid (bt B23.out B4)
    have B34 := Lib.hid B4
    clear hoI B4
    go_wp2_with fail
    refine (eqI _ _ _ L (intRow_of_owns OI.out hLr) RS4.out).mono ?_
    rintro e w5 ⟨rfl, z5, hz5⟩
    have B45 : Below w4.heap.size w4 w5 := hz5 ▸ below_drewN2 (Below.refl _ _) z5
    have B05 := Lib.hid (bt B04.out B45)
    have B5h := Lib.hid B45
    clear hz5 B45
    go_wp2_with fail
    refine (HT.out w5 (h0.out.below B05.out)).mono ?_
    rintro e w6 ⟨v6, rfl, ho6, B56⟩
    have B46 := Lib.hid (bt B5h.out B56)
    have B06 := Lib.hid (bt B05.out B56)
    have O6 := Lib.hid (owns_bl O4.out B46.out)
    have R6 := Lib.hid (intRow_of_owns ho6 hl9)
    clear ho6 B56 B5h B05
    go_wp2_with fail
    refine (eqI _ _ _ zs (intRow_of_owns O6.out hl9) R6.out).mono ?_
    rintro e w7 ⟨rfl, z7, hz7⟩
    have B67 : Below w6.heap.size w6 w7 := hz7 ▸ below_drewN2 (Below.refl _ _) z7
    have B47 := Lib.hid (bt B46.out B67)
    have B07 := Lib.hid (bt B06.out B67)
    have O7 := Lib.hid (owns_bl O6.out B67)
    have OI7 := Lib.hid (owns_bl OI.out B47.out)
    have B27 := Lib.hid (bt B24.out B47.out)
    clear hz7 B67 B46 B06 O6 R6 OI O4 RS4 B04
    go_wp2_with fail
    refine (markI _ w2.heap.size zs.length 1 _ _ O7.out (by omega) (by omega)).mono ?_
    rintro e w8 ⟨rfl, hM8, hg8⟩
    have B78 : Below w2.heap.size w7 w8 := (Below.refl w2.heap.size w7).grown hg8 B27.out.size (fun g hg => (O7.out.lt g hg).1)
    have OI8 := Lib.hid (owns_far OI7.out hg8 (fun g e e2 => by
      have h1 := (O3.out.lt g e).2
      have h2 := (OI7.out.lt g e2).1
      omega))
    have B28 := Lib.hid (B27.out.trans B78)
    have RS8 := Lib.hid (RS.out.below B28.out)
    have B08 := Lib.hid (B07.out.trans (B78.mono B02.out.size))
    have B38s : Hid (w3.heap.size ≤ w8.heap.size) := Lib.hid (Nat.le_trans (Nat.le_trans B34.out.size B47.out.size) B78.size)
    clear hM8 hg8 B78 O7 OI7 B27 B07
    go_wp2_with fail
    refine (eqI _ _ _ L (intRow_of_owns OI8.out hLr) RS8.out).mono ?_
    rintro e w9 ⟨rfl, z9, hz9⟩
    have B89 : Below w8.heap.size w8 w9 := hz9 ▸ below_drewN2 (Below.refl _ _) z9
    have OI9 := Lib.hid (owns_bl OI8.out B89)
    have B29 := Lib.hid (bt B28.out B89)
    have B09 := Lib.hid (bt B08.out B89)
    have B39s : Hid (w3.heap.size ≤ w9.heap.size) := Lib.hid (Nat.le_trans B38s.out B89.size)
    clear hz9 B89 OI8 B28 B08 RS8 B38s
    go_wp2_with fail
    refine (markI _ w3.heap.size L.length 1 _ _ OI9.out (by omega) (by omega)).mono ?_
    rintro e w10 ⟨rfl, hM10, hg10⟩
    have B9a : Below w3.heap.size w9 w10 := (Below.refl w3.heap.size w9).grown hg10 B39s.out (fun g hg => (OI9.out.lt g hg).1)
    have M10 := Lib.hid (intRow_of_owns (zs := marksI 1 L.length) (by rw [marksI_len]; exact hM10) (by rw [marksI_len]; exact hLr))
    have B2a := Lib.hid (B29.out.trans (B9a.mono B23.out.size))
    have RSa := Lib.hid (RS.out.below B2a.out)
    have B0a := Lib.hid (B09.out.trans (B9a.mono B03.out.size))
    clear hM10 hg10 B9a OI9 B29 B09
    go_wp2_with fail
    refine (heldIB _ _ L.length 1 M10.out (by omega) (by omega)).mono ?_
    rintro e w11 ⟨rfl, B11⟩
    have M11 := Lib.hid (M10.out.below B11)
    have RSb := Lib.hid (RSa.out.below B11)
    have B0b := Lib.hid (bt B0a.out B11)
    clear B11 M10 RSa B0a B2a
    go_wp2_with fail
    refine (HT.out w11 (h0.out.below B0b.out)).mono ?_
    rintro e w12 ⟨v12, rfl, ho12, B12⟩
    have R12 := Lib.hid (intRow_of_owns ho12 hl9)
    have M12 := Lib.hid (M11.out.below B12)
    have RSc := Lib.hid (RSb.out.below B12)
    have B0c := Lib.hid (bt B0b.out B12)
    clear ho12 B12 M11 RSb B0b
    go_wp2_with fail
    refine (HI.out v12 w12 R12.out).mono ?_
    rintro e w13 ⟨⟨vH, rfl, hoH⟩, B13⟩
    have RH := Lib.hid (intRow_of_owns hoH hLr)
    have M13 := Lib.hid (M12.out.below B13)
    have RSd := Lib.hid (RSc.out.below B13)
    have B0d := Lib.hid (bt B0c.out B13)
    clear hoH B13 M12 RSc B0c R12
    go_wp2_with fail
    refine (eqI _ _ _ L RH.out RSd.out).mono ?_
    rintro e w14 ⟨rfl, z14, hz14⟩
    have B14 : Below w13.heap.size w13 w14 := hz14 ▸ below_drewN2 (Below.refl _ _) z14
    have M14 := Lib.hid (M13.out.below B14)
    have B0e := Lib.hid (bt B0d.out B14)
    clear hz14 B14 M13 RSd RH B0d
    go_wp2_with fail
    refine (heldIB _ _ L.length 1 M14.out (by omega) (by omega)).mono ?_
    rintro e w15 ⟨rfl, B15⟩
    go_wp2_with fail
    go_ret
    exact ⟨rfl, bt B0e.out B15⟩
set_option maxRecDepth 100000 in
set_option maxHeartbeats 4000000 in
theorem lawExDistinct (hI : ImplDist) (zs : List Int) (u : Value) (w : World) (h : IntRow w u zs) :
    Calls Try.prog 6 #[u] w fun e w' => e = .returned (.bool true) ∧ Below w.heap.size w w' := by
  obtain ⟨a, c, rfl, hl9, _⟩ := intRow_form h
  by_cases hov : 1048576 < zs.length
  · have hov1 : (1048576 : Int) < zs.length := by omega
    go_enter Try.func6, Try.ntmps6
    go_wp2_with fail
    go_ret
    exact ⟨rfl, Below.refl _ _⟩
  · have hov1 : ¬ (1048576 : Int) < zs.length := by omega
    have hle : zs.length ≤ 1048576 := by omega
    have h0 := Lib.hid h
    obtain ⟨L, hL⟩ : ∃ L, distZ zs = L := ⟨_, rfl⟩
    have hLl : L.length ≤ 1048576 := by
      have := distZ_len zs
      rw [hL] at this
      omega
    have hLr : L.length ≤ 9223372036854775807 := by omega
    have HI : Hid (∀ (u : Value) (w : World), IntRow w u zs → Calls Try.prog 12 #[u] w fun e w' => (∃ v, e = .returned v ∧ w'.ownsRow w.heap.size 3 1 v (L).length (intCells (L))) ∧ Below w.heap.size w w') := Lib.hid (fun u w hw => by have := hI zs u w hw hle; rwa [hL] at this)
    have HS : Hid (∀ (u : Value) (w : World), IntRow w u zs → Calls Try.prog 14 #[u] w fun e w' => (∃ v, e = .returned v ∧ w'.ownsRow w.heap.size 3 1 v (L).length (intCells (L))) ∧ Below w.heap.size w w') := Lib.hid (fun u w hw => by have := specDistinct zs u w hw hle; rwa [hL] at this)
    have HT : Hid (∀ (w : World), IntRow w (.slice a zs.length c) zs → Calls Try.prog 22 #[.slice a zs.length c] w fun e w' => ∃ v, e = .returned v ∧ w'.ownsRow w.heap.size 3 1 v zs.length (intCells zs) ∧ Below w.heap.size w w') := Lib.hid (fun w hw => toI w _ zs hw hle)
    have hk1 : ¬ (1 : Int) + zs.length < 0 := by omega
    have hk2 : ¬ (1 : Int) + L.length < 0 := by omega
    clear h hI hL hov
    go_enter Try.func6, Try.ntmps6
    go_wp2_with fail
    refine (HT.out w h0.out).mono ?_
    rintro e w1 ⟨v1, rfl, ho1, B1⟩
    have R1 := Lib.hid (intRow_of_owns ho1 hl9)
    have B01 := Lib.hid B1
    clear ho1 B1
    go_wp2_with fail
    refine (HS.out v1 w1 R1.out).mono ?_
    rintro e w2 ⟨⟨vS, rfl, hoS⟩, B2⟩
    have B02 := Lib.hid (bt B01.out B2)
    have RS := Lib.hid (intRow_of_owns hoS hLr)
    clear hoS B2 B01 R1
    go_wp2_with fail
    refine (HT.out w2 (h0.out.below B02.out)).mono ?_
    rintro e w3 ⟨v3, rfl, ho3, B3⟩
    have O3 := Lib.hid ho3
    have RS3 := Lib.hid (RS.out.below B3)
    have B03 := Lib.hid (bt B02.out B3)
    have B23 := Lib.hid B3
    clear ho3 B3
    go_wp2_with fail
    refine (HI.out v3 w3 (intRow_of_owns O3.out hl9)).mono ?_
    rintro e w4 ⟨⟨vI, rfl, hoI⟩, B4⟩
    have OI := Lib.hid hoI
    have O4 := Lib.hid (owns_bl O3.out B4)
    have RS4 := Lib.hid (RS3.out.below B4)
    have B04 := Lib.hid (bt B03.out B4)
    have B24 := Lib.hid (bt B23.out B4)
    have B34 := Lib.hid B4
    clear hoI B4
    go_wp2_with fail
    refine (eqI _ _ _ L (intRow_of_owns OI.out hLr) RS4.out).mono ?_
    rintro e w5 ⟨rfl, z5, hz5⟩
    have B45 : Below w4.heap.size w4 w5 := hz5 ▸ below_drewN2 (Below.refl _ _) z5
    have B05 := Lib.hid (bt B04.out B45)
    have B5h := Lib.hid B45
    clear hz5 B45
    go_wp2_with fail
    refine (HT.out w5 (h0.out.below B05.out)).mono ?_
    rintro e w6 ⟨v6, rfl, ho6, B56⟩
    have B46 := Lib.hid (bt B5h.out B56)
    have B06 := Lib.hid (bt B05.out B56)
    have O6 := Lib.hid (owns_bl O4.out B46.out)
    have R6 := Lib.hid (intRow_of_owns ho6 hl9)
    clear ho6 B56 B5h B05
    go_wp2_with fail
    refine (eqI _ _ _ zs (intRow_of_owns O6.out hl9) R6.out).mono ?_
    rintro e w7 ⟨rfl, z7, hz7⟩
    have B67 : Below w6.heap.size w6 w7 := hz7 ▸ below_drewN2 (Below.refl _ _) z7
    have B47 := Lib.hid (bt B46.out B67)
    have B07 := Lib.hid (bt B06.out B67)
    have O7 := Lib.hid (owns_bl O6.out B67)
    have OI7 := Lib.hid (owns_bl OI.out B47.out)
    have B27 := Lib.hid (bt B24.out B47.out)
    clear hz7 B67 B46 B06 O6 R6 OI O4 RS4 B04
    go_wp2_with fail
    refine (markI _ w2.heap.size zs.length 1 _ _ O7.out (by omega) (by omega)).mono ?_
    rintro e w8 ⟨rfl, hM8, hg8⟩
    have B78 : Below w2.heap.size w7 w8 := (Below.refl w2.heap.size w7).grown hg8 B27.out.size (fun g hg => (O7.out.lt g hg).1)
    have OI8 := Lib.hid (owns_far OI7.out hg8 (fun g e e2 => by
      have h1 := (O3.out.lt g e).2
      have h2 := (OI7.out.lt g e2).1
      omega))
    have B28 := Lib.hid (B27.out.trans B78)
    have RS8 := Lib.hid (RS.out.below B28.out)
    have B08 := Lib.hid (B07.out.trans (B78.mono B02.out.size))
    have B38s : Hid (w3.heap.size ≤ w8.heap.size) := Lib.hid (Nat.le_trans (Nat.le_trans B34.out.size B47.out.size) B78.size)
    clear hM8 hg8 B78 O7 OI7 B27 B07
    go_wp2_with fail
    refine (eqI _ _ _ L (intRow_of_owns OI8.out hLr) RS8.out).mono ?_
    rintro e w9 ⟨rfl, z9, hz9⟩
    have B89 : Below w8.heap.size w8 w9 := hz9 ▸ below_drewN2 (Below.refl _ _) z9
    have OI9 := Lib.hid (owns_bl OI8.out B89)
    have B29 := Lib.hid (bt B28.out B89)
    have B09 := Lib.hid (bt B08.out B89)
    have B39s : Hid (w3.heap.size ≤ w9.heap.size) := Lib.hid (Nat.le_trans B38s.out B89.size)
    clear hz9 B89 OI8 B28 B08 RS8 B38s
    go_wp2_with fail
    refine (markI _ w3.heap.size L.length 1 _ _ OI9.out (by omega) (by omega)).mono ?_
    rintro e w10 ⟨rfl, hM10, hg10⟩
    have B9a : Below w3.heap.size w9 w10 := (Below.refl w3.heap.size w9).grown hg10 B39s.out (fun g hg => (OI9.out.lt g hg).1)
    have M10 := Lib.hid (intRow_of_owns (zs := marksI 1 L.length) (by rw [marksI_len]; exact hM10) (by rw [marksI_len]; exact hLr))
    have B2a := Lib.hid (B29.out.trans (B9a.mono B23.out.size))
    have RSa := Lib.hid (RS.out.below B2a.out)
    have B0a := Lib.hid (B09.out.trans (B9a.mono B03.out.size))
    clear hM10 hg10 B9a OI9 B29 B09
    go_wp2_with fail
    refine (heldIB _ _ L.length 1 M10.out (by omega) (by omega)).mono ?_
    rintro e w11 ⟨rfl, B11⟩
    have M11 := Lib.hid (M10.out.below B11)
    have RSb := Lib.hid (RSa.out.below B11)
    have B0b := Lib.hid (bt B0a.out B11)
    clear B11 M10 RSa B0a B2a
    go_wp2_with fail
    refine (HT.out w11 (h0.out.below B0b.out)).mono ?_
    rintro e w12 ⟨v12, rfl, ho12, B12⟩
    have R12 := Lib.hid (intRow_of_owns ho12 hl9)
    have M12 := Lib.hid (M11.out.below B12)
    have RSc := Lib.hid (RSb.out.below B12)
    have B0c := Lib.hid (bt B0b.out B12)
    clear ho12 B12 M11 RSb B0b
    go_wp2_with fail
    refine (HI.out v12 w12 R12.out).mono ?_
    rintro e w13 ⟨⟨vH, rfl, hoH⟩, B13⟩
    have RH := Lib.hid (intRow_of_owns hoH hLr)
    have M13 := Lib.hid (M12.out.below B13)
    have RSd := Lib.hid (RSc.out.below B13)
    have B0d := Lib.hid (bt B0c.out B13)
    clear hoH B13 M12 RSc B0c R12
    go_wp2_with fail
    refine (eqI _ _ _ L RH.out RSd.out).mono ?_
    rintro e w14 ⟨rfl, z14, hz14⟩
    have B14 : Below w13.heap.size w13 w14 := hz14 ▸ below_drewN2 (Below.refl _ _) z14
    have M14 := Lib.hid (M13.out.below B14)
    have B0e := Lib.hid (bt B0d.out B14)
    clear hz14 B14 M13 RSd RH B0d
    go_wp2_with fail
    refine (heldIB _ _ L.length 1 M14.out (by omega) (by omega)).mono ?_
    rintro e w15 ⟨rfl, B15⟩
    go_wp2_with fail
    go_ret
    exact ⟨rfl, bt B0e.out B15⟩
set_option maxRecDepth 100000 in
set_option maxHeartbeats 4000000 in
theorem lawExCutsOf (hI : ImplCuts) (zs : List Int) (b : Int) (u : Value) (w : World) (h : IntRow w u zs) :
    Calls Try.prog 7 #[u, .int .i64 b] w fun e w' => e = .returned (.bool true) ∧ Below w.heap.size w w' := by
  obtain ⟨a, c, rfl, hl9, _⟩ := intRow_form h
  by_cases hov : 1048576 < zs.length
  · have hov1 : (1048576 : Int) < zs.length := by omega
    go_enter Try.func7, Try.ntmps7
    go_wp2_with fail
    go_ret
    exact ⟨rfl, Below.refl _ _⟩
  · have hov1 : ¬ (1048576 : Int) < zs.length := by omega
    have hle : zs.length ≤ 1048576 := by omega
    have h0 := Lib.hid h
    obtain ⟨L, hL⟩ : ∃ L, cutsZ zs b = L := ⟨_, rfl⟩
    have hLl : L.length ≤ 1048576 := by
      have := cutsZ_len zs b
      rw [hL] at this
      omega
    have hLr : L.length ≤ 9223372036854775807 := by omega
    have HI : Hid (∀ (u : Value) (w : World), IntRow w u zs → Calls Try.prog 17 #[u, .int .i64 b] w fun e w' => (∃ v, e = .returned v ∧ w'.ownsRow w.heap.size 3 1 v (L).length (intCells (L))) ∧ Below w.heap.size w w') := Lib.hid (fun u w hw => by have := hI zs b u w hw hle; rwa [hL] at this)
    have HS : Hid (∀ (u : Value) (w : World), IntRow w u zs → Calls Try.prog 19 #[u, .int .i64 b] w fun e w' => (∃ v, e = .returned v ∧ w'.ownsRow w.heap.size 3 1 v (L).length (intCells (L))) ∧ Below w.heap.size w w') := Lib.hid (fun u w hw => by have := specCutsOf zs b u w hw hle; rwa [hL] at this)
    have HT : Hid (∀ (w : World), IntRow w (.slice a zs.length c) zs → Calls Try.prog 22 #[.slice a zs.length c] w fun e w' => ∃ v, e = .returned v ∧ w'.ownsRow w.heap.size 3 1 v zs.length (intCells zs) ∧ Below w.heap.size w w') := Lib.hid (fun w hw => toI w _ zs hw hle)
    have hk1 : ¬ (1 : Int) + zs.length < 0 := by omega
    have hk2 : ¬ (1 : Int) + L.length < 0 := by omega
    clear h hI hL hov
    go_enter Try.func7, Try.ntmps7
    go_wp2_with fail
    refine (HT.out w h0.out).mono ?_
    rintro e w1 ⟨v1, rfl, ho1, B1⟩
    have R1 := Lib.hid (intRow_of_owns ho1 hl9)
    have B01 := Lib.hid B1
    clear ho1 B1
    go_wp2_with fail
    refine (HS.out v1 w1 R1.out).mono ?_
    rintro e w2 ⟨⟨vS, rfl, hoS⟩, B2⟩
    have B02 := Lib.hid (bt B01.out B2)
    have RS := Lib.hid (intRow_of_owns hoS hLr)
    clear hoS B2 B01 R1
    go_wp2_with fail
    refine (HT.out w2 (h0.out.below B02.out)).mono ?_
    rintro e w3 ⟨v3, rfl, ho3, B3⟩
    have O3 := Lib.hid ho3
    have RS3 := Lib.hid (RS.out.below B3)
    have B03 := Lib.hid (bt B02.out B3)
    have B23 := Lib.hid B3
    clear ho3 B3
    go_wp2_with fail
    refine (HI.out v3 w3 (intRow_of_owns O3.out hl9)).mono ?_
    rintro e w4 ⟨⟨vI, rfl, hoI⟩, B4⟩
    have OI := Lib.hid hoI
    have O4 := Lib.hid (owns_bl O3.out B4)
    have RS4 := Lib.hid (RS3.out.below B4)
    have B04 := Lib.hid (bt B03.out B4)
    have B24 := Lib.hid (bt B23.out B4)
    have B34 := Lib.hid B4
    clear hoI B4
    go_wp2_with fail
    refine (eqI _ _ _ L (intRow_of_owns OI.out hLr) RS4.out).mono ?_
    rintro e w5 ⟨rfl, z5, hz5⟩
    have B45 : Below w4.heap.size w4 w5 := hz5 ▸ below_drewN2 (Below.refl _ _) z5
    have B05 := Lib.hid (bt B04.out B45)
    have B5h := Lib.hid B45
    clear hz5 B45
    go_wp2_with fail
    refine (HT.out w5 (h0.out.below B05.out)).mono ?_
    rintro e w6 ⟨v6, rfl, ho6, B56⟩
    have B46 := Lib.hid (bt B5h.out B56)
    have B06 := Lib.hid (bt B05.out B56)
    have O6 := Lib.hid (owns_bl O4.out B46.out)
    have R6 := Lib.hid (intRow_of_owns ho6 hl9)
    clear ho6 B56 B5h B05
    go_wp2_with fail
    refine (eqI _ _ _ zs (intRow_of_owns O6.out hl9) R6.out).mono ?_
    rintro e w7 ⟨rfl, z7, hz7⟩
    have B67 : Below w6.heap.size w6 w7 := hz7 ▸ below_drewN2 (Below.refl _ _) z7
    have B47 := Lib.hid (bt B46.out B67)
    have B07 := Lib.hid (bt B06.out B67)
    have O7 := Lib.hid (owns_bl O6.out B67)
    have OI7 := Lib.hid (owns_bl OI.out B47.out)
    have B27 := Lib.hid (bt B24.out B47.out)
    clear hz7 B67 B46 B06 O6 R6 OI O4 RS4 B04
    go_wp2_with fail
    refine (markI _ w2.heap.size zs.length 1 _ _ O7.out (by omega) (by omega)).mono ?_
    rintro e w8 ⟨rfl, hM8, hg8⟩
    have B78 : Below w2.heap.size w7 w8 := (Below.refl w2.heap.size w7).grown hg8 B27.out.size (fun g hg => (O7.out.lt g hg).1)
    have OI8 := Lib.hid (owns_far OI7.out hg8 (fun g e e2 => by
      have h1 := (O3.out.lt g e).2
      have h2 := (OI7.out.lt g e2).1
      omega))
    have B28 := Lib.hid (B27.out.trans B78)
    have RS8 := Lib.hid (RS.out.below B28.out)
    have B08 := Lib.hid (B07.out.trans (B78.mono B02.out.size))
    have B38s : Hid (w3.heap.size ≤ w8.heap.size) := Lib.hid (Nat.le_trans (Nat.le_trans B34.out.size B47.out.size) B78.size)
    clear hM8 hg8 B78 O7 OI7 B27 B07
    go_wp2_with fail
    refine (eqI _ _ _ L (intRow_of_owns OI8.out hLr) RS8.out).mono ?_
    rintro e w9 ⟨rfl, z9, hz9⟩
    have B89 : Below w8.heap.size w8 w9 := hz9 ▸ below_drewN2 (Below.refl _ _) z9
    have OI9 := Lib.hid (owns_bl OI8.out B89)
    have B29 := Lib.hid (bt B28.out B89)
    have B09 := Lib.hid (bt B08.out B89)
    have B39s : Hid (w3.heap.size ≤ w9.heap.size) := Lib.hid (Nat.le_trans B38s.out B89.size)
    clear hz9 B89 OI8 B28 B08 RS8 B38s
    go_wp2_with fail
    refine (markI _ w3.heap.size L.length 1 _ _ OI9.out (by omega) (by omega)).mono ?_
    rintro e w10 ⟨rfl, hM10, hg10⟩
    have B9a : Below w3.heap.size w9 w10 := (Below.refl w3.heap.size w9).grown hg10 B39s.out (fun g hg => (OI9.out.lt g hg).1)
    have M10 := Lib.hid (intRow_of_owns (zs := marksI 1 L.length) (by rw [marksI_len]; exact hM10) (by rw [marksI_len]; exact hLr))
    have B2a := Lib.hid (B29.out.trans (B9a.mono B23.out.size))
    have RSa := Lib.hid (RS.out.below B2a.out)
    have B0a := Lib.hid (B09.out.trans (B9a.mono B03.out.size))
    clear hM10 hg10 B9a OI9 B29 B09
    go_wp2_with fail
    refine (heldIB _ _ L.length 1 M10.out (by omega) (by omega)).mono ?_
    rintro e w11 ⟨rfl, B11⟩
    have M11 := Lib.hid (M10.out.below B11)
    have RSb := Lib.hid (RSa.out.below B11)
    have B0b := Lib.hid (bt B0a.out B11)
    clear B11 M10 RSa B0a B2a
    go_wp2_with fail
    refine (HT.out w11 (h0.out.below B0b.out)).mono ?_
    rintro e w12 ⟨v12, rfl, ho12, B12⟩
    have R12 := Lib.hid (intRow_of_owns ho12 hl9)
    have M12 := Lib.hid (M11.out.below B12)
    have RSc := Lib.hid (RSb.out.below B12)
    have B0c := Lib.hid (bt B0b.out B12)
    clear ho12 B12 M11 RSb B0b
    go_wp2_with fail
    refine (HI.out v12 w12 R12.out).mono ?_
    rintro e w13 ⟨⟨vH, rfl, hoH⟩, B13⟩
    have RH := Lib.hid (intRow_of_owns hoH hLr)
    have M13 := Lib.hid (M12.out.below B13)
    have RSd := Lib.hid (RSc.out.below B13)
    have B0d := Lib.hid (bt B0c.out B13)
    clear hoH B13 M12 RSc B0c R12
    go_wp2_with fail
    refine (eqI _ _ _ L RH.out RSd.out).mono ?_
    rintro e w14 ⟨rfl, z14, hz14⟩
    have B14 : Below w13.heap.size w13 w14 := hz14 ▸ below_drewN2 (Below.refl _ _) z14
    have M14 := Lib.hid (M13.out.below B14)
    have B0e := Lib.hid (bt B0d.out B14)
    clear hz14 B14 M13 RSd RH B0d
    go_wp2_with fail
    refine (heldIB _ _ L.length 1 M14.out (by omega) (by omega)).mono ?_
    rintro e w15 ⟨rfl, B15⟩
    go_wp2_with fail
    go_ret
    exact ⟨rfl, bt B0e.out B15⟩
set_option maxRecDepth 100000 in
set_option maxHeartbeats 4000000 in
theorem lawExCutsOk (hI : ImplCutsOk) (zs : List Int) (u : Value) (w : World) (h : IntRow w u zs) :
    Calls Try.prog 8 #[u] w fun e w' => e = .returned (.bool true) ∧ Below w.heap.size w w' := by
  obtain ⟨a, c, rfl, hl9, _⟩ := intRow_form h
  by_cases hov : 1048576 < zs.length
  · have hov1 : (1048576 : Int) < zs.length := by omega
    go_enter Try.func8, Try.ntmps8
    go_wp2_with fail
    go_ret
    exact ⟨rfl, Below.refl _ _⟩
  · have hov1 : ¬ (1048576 : Int) < zs.length := by omega
    have hle : zs.length ≤ 1048576 := by omega
    have h0 := Lib.hid h
    obtain ⟨q, hq⟩ : ∃ q, cutsB zs = q := ⟨_, rfl⟩
    have HI : Hid (∀ (u : Value) (w : World), IntRow w u zs → Calls Try.prog 27 #[u] w fun e w' => e = .returned (.bool q) ∧ Below w.heap.size w w') := Lib.hid (fun u w hw => by have := hI zs u w hw hle; rwa [hq] at this)
    have HS : Hid (∀ (u : Value) (w : World), IntRow w u zs → Calls Try.prog 26 #[u] w fun e w' => e = .returned (.bool q) ∧ Below w.heap.size w w') := Lib.hid (fun u w hw => by have := specCutsOk zs u w hw hle; rwa [hq] at this)
    have HT : Hid (∀ (w : World), IntRow w (.slice a zs.length c) zs → Calls Try.prog 22 #[.slice a zs.length c] w fun e w' => ∃ v, e = .returned v ∧ w'.ownsRow w.heap.size 3 1 v zs.length (intCells zs) ∧ Below w.heap.size w w') := Lib.hid (fun w hw => toI w _ zs hw hle)
    clear h hI hq hov
    go_enter Try.func8, Try.ntmps8
    go_wp2_with fail
    refine (HT.out w h0.out).mono ?_
    rintro e w1 ⟨v1, rfl, ho1, B1⟩
    have R1 := Lib.hid (intRow_of_owns ho1 hl9)
    have B01 := Lib.hid B1
    clear ho1 B1
    go_wp2_with fail
    refine (HS.out v1 w1 R1.out).mono ?_
    rintro e w2 ⟨rfl, B2⟩
    have B02 := Lib.hid (bt B01.out B2)
    clear B2 B01 R1
    go_wp2_with fail
    refine (HT.out w2 (h0.out.below B02.out)).mono ?_
    rintro e w3 ⟨v3, rfl, ho3, B3⟩
    have O3 := Lib.hid ho3
    have B03 := Lib.hid (bt B02.out B3)
    clear ho3 B3
    go_wp2_with fail
    refine (HI.out v3 w3 (intRow_of_owns O3.out hl9)).mono ?_
    rintro e w4 ⟨rfl, B4⟩
    have O4 := Lib.hid (owns_bl O3.out B4)
    have B04 := Lib.hid (bt B03.out B4)
    clear B4
    cases q <;> (
      go_wp2_with fail
      refine (HT.out w4 (h0.out.below B04.out)).mono ?_
      rintro e w6 ⟨v6, rfl, ho6, B46⟩
      have B06 := Lib.hid (bt B04.out B46)
      have O6 := Lib.hid (owns_bl O4.out B46)
      have R6 := Lib.hid (intRow_of_owns ho6 hl9)
      clear ho6 B46
      go_wp2_with fail
      refine (eqI _ _ _ zs (intRow_of_owns O6.out hl9) R6.out).mono ?_
      rintro e w7 ⟨rfl, z7, hz7⟩
      have B67 : Below w6.heap.size w6 w7 := hz7 ▸ below_drewN2 (Below.refl _ _) z7
      clear hz7
      go_wp2_with fail
      go_ret
      exact ⟨rfl, bt B06.out B67⟩)
end Go.Proofs.Ytekdlkakcclejaa
