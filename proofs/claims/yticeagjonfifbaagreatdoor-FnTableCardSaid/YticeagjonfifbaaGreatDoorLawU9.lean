/-
  The law on tables' texts: the draws' and the program's contracts are hypotheses.
-/
import Derived.Test.YticeagjonfifbaaGreatDoorPk15
import Derived.Test.YticeagjonfifbaaGreatDoorPk13
import Derived.Test.YticeagjonfifbaaGreatDoorTabX
import Derived.Test.YticeagjonfifbaaGreatDoorPk12
namespace Go.Proofs.YticeagjonfifbaaGreatDoor
open Go.RowKit

/-- How small a drawn table is. -/
def SmallTU (T : Tab) : Prop := T.ns.length ≤ 1024 ∧ T.rs.length ≤ 1024 ∧ (∀ r ∈ T.rs, r.length ≤ 1024) ∧ T.ys.length ≤ 1024 ∧ (∀ p ∈ T.ns, p.length ≤ 1024) ∧ T.y.length ≤ 1024
def DrawTabU : Prop := ∀ (w : World) (v : Value) (n : Nat), Bytes w v n → Calls Tryz.prog 7 #[v] w fun e w' => (∃ (T : Tab) (u1 u2 u3 : Value), e = .returned (.agg #[u1, .string ⟨T.y.toArray⟩, u2, u3]) ∧ TabRow w' T u1 u2 u3 ∧ SmallTU T) ∧ Below w.heap.size w w'
def DrawRdTabU : Prop := ∀ (w : World) (v : Value) (n : Nat), Bytes w v n → Calls Tryz.prog 14 #[v] w fun e w' => (∃ s : ByteArray, e = .returned (.string s) ∧ s.size ≤ 1048576) ∧ Below w.heap.size w w'
/-- What the program is to answer for a table that is small enough. -/
def FitT (T : Tab) : Prop := T.ns.length ≤ 1048576 ∧ T.rs.length ≤ 1048576 ∧ (∀ r ∈ T.rs, r.length ≤ 1048576) ∧ T.ys.length ≤ 1048576 ∧ (∀ p ∈ T.ns, p.length ≤ 9223372036854775807) ∧ T.y.length ≤ 9223372036854775807
def ImplTextU (W : World) : Prop := ∀ (w : World), Below W.heap.size W w → ∀ (T : Tab) (u1 u2 u3 : Value), TabRow w T u1 u2 u3 → FitT T → Calls Tryz.prog 8 #[.agg #[u1, .string ⟨T.y.toArray⟩, u2, u3]] w fun e w' => e = .returned (.string ⟨(tabT T).toArray⟩) ∧ Below w.heap.size w w'
def ImplOkU : Prop := ∀ (T : Tab) (u1 u2 u3 : Value) (w : World), TabRow w T u1 u2 u3 → FitT T → Calls Tryz.prog 10 #[.agg #[u1, .string ⟨T.y.toArray⟩, u2, u3]] w fun e w' => e = .returned (.bool (okT T)) ∧ Below w.heap.size w w'
def ImplSameU : Prop := ∀ (A B : Tab) (u1 u2 u3 v1 v2 v3 : Value) (w : World), TabRow w A u1 u2 u3 → TabRow w B v1 v2 v3 → FitT A → FitT B → Calls Tryz.prog 13 #[.agg #[u1, .string ⟨A.y.toArray⟩, u2, u3], .agg #[v1, .string ⟨B.y.toArray⟩, v2, v3]] w fun e w' => e = .returned (.bool (sameT A B)) ∧ Below w.heap.size w w'
theorem tabT_ne {T : Tab} (h : okT T = true) : tabT T ≠ [] := by
  rw [tabT, if_pos h]
  unfold rowsTx
  intro e
  have := congrArg List.length e
  simp [csvT] at this
theorem sameT_self (T : Tab) : sameT T T = true := sameT_iff.2 rfl

set_option maxRecDepth 100000 in
set_option maxHeartbeats 8000000 in
theorem lawTable (hD : DrawTabU) (hE : DrawRdTabU) (hSp : SpecReadT) (hO : ImplOkU) (hS : ImplSameU) (w : World) (hT : ImplTextU w) (hI : ImplReadT w) (v : Value) (n : Nat) (hb : Bytes w v n) :
    Calls Tryz.prog 3 #[v] w fun e w' => e = .returned (.bool true) ∧ Below w.heap.size w w' := by
  by_cases hn : 1048576 < n
  · have HK := Lib.hid (big_yes w v n hb hn)
    go_enter Tryz.func3, Tryz.ntmps3
    go_wp2_with fail
    refine HK.out.mono ?_
    rintro e w1 ⟨rfl, rfl⟩
    go_wp2_with fail
    go_ret
    exact ⟨rfl, Below.refl _ _⟩
  · have HK := Lib.hid (big_no w v n hb hn)
    have HD := Lib.hid (hD w v n hb)
    have HE := Lib.hid hE
    have HSp := Lib.hid hSp
    have HT := Lib.hid hT
    have HO := Lib.hid hO
    have HS := Lib.hid hS
    have HI := Lib.hid hI
    have HBy := Lib.hid hb
    clear hD hE hSp hT hO hS hI hb hn
    go_enter Tryz.func3, Tryz.ntmps3
    go_wp2_with fail
    refine HK.out.mono ?_
    rintro e w1 ⟨rfl, rfl⟩
    go_wp2_with fail
    refine HD.out.mono ?_
    rintro e w1 ⟨⟨T, u1, u2, u3, rfl, hT, hS⟩, B01⟩
    obtain ⟨a1, c1, a2, c2, a3, c3, rfl, rfl, rfl⟩ := hT.form
    obtain ⟨s1, s2, s3, s4, s5, s6⟩ := hS
    have HNL : Hid (∀ p ∈ T.ns, p.length ≤ 9223372036854775807) := Lib.hid (fun p hp => by have := s5 p hp; omega)
    have HYL : Hid (T.y.length ≤ 9223372036854775807) := Lib.hid (by omega)
    have HFT : Hid (FitT T) := Lib.hid ⟨by omega, by omega, fun r hr => by have := s3 r hr; omega, by omega, HNL.out, HYL.out⟩
    clear s3 s5
    have hA1 := bl_al w1 (.cells #[.slice a1 T.ns.length c1, .string ⟨T.y.toArray⟩, .slice a2 T.rs.length c2, .slice a3 T.ys.length c3] 28)
    have hx := alloc_blk w1 #[.slice a1 T.ns.length c1, .string ⟨T.y.toArray⟩, .slice a2 T.rs.length c2, .slice a3 T.ys.length c3] 28
    obtain ⟨st, hst⟩ : ∃ st : ByteArray, (⟨(tabT T).toArray⟩ : ByteArray) = st := ⟨_, rfl⟩
    obtain ⟨b, hbk⟩ : ∃ b, okT T = b := ⟨_, rfl⟩
    have hB0 := hT.below hA1
    have HT2 := Lib.hid (HT.out _ (bt B01 hA1) T _ _ _ hB0 HFT.out)
    rw [hst] at HT2
    go_wp2_with fail
    refine HT2.out.mono ?_
    rintro e w2 ⟨rfl, B12⟩
    have X2 := Lib.hid (blk_next hx B12)
    have R2 := Lib.hid (hB0.below B12)
    have B02 := Lib.hid (bt (bt B01 hA1) B12)
    clear hA1 hB0 hx B12 B01 hT HT2 HT
    have HS2 := Lib.hid (fun w h => specTabText T (.slice a1 T.ns.length c1) (.slice a2 T.rs.length c2) (.slice a3 T.ys.length c3) w h HYL.out HNL.out)
    rw [hst] at HS2
    have ca0 := cell_blk X2.out 0
    have ca1 := cell_blk X2.out 1
    have ca2 := cell_blk X2.out 2
    have ca3 := cell_blk X2.out 3
    have la := blk_lt X2.out
    go_wp2_with fail
    refine (HS2.out _ R2.out).mono ?_
    rintro e w3 ⟨rfl, B23⟩
    have X3 := Lib.hid (blk_next X2.out B23)
    have R3 := Lib.hid (R2.out.below B23)
    have B03 := Lib.hid (bt B02.out B23)
    clear ca0 ca1 ca2 ca3 la B23 X2 R2 B02 HS2
    have HO2 := Lib.hid (fun w h => HO.out T (.slice a1 T.ns.length c1) (.slice a2 T.rs.length c2) (.slice a3 T.ys.length c3) w h HFT.out)
    rw [hbk] at HO2
    have HST := Lib.hid hst
    have HBK := Lib.hid hbk
    clear hst hbk
    have ca0 := cell_blk X3.out 0
    have ca1 := cell_blk X3.out 1
    have ca2 := cell_blk X3.out 2
    have ca3 := cell_blk X3.out 3
    have la := blk_lt X3.out
    cases b with
    | false =>
      obtain rfl : st = ⟨#[]⟩ := by rw [← HST.out, tabT, if_neg (by rw [HBK.out]; decide)]
      have hemp : (⟨#[]⟩ : ByteArray).toList.isEmpty = true := by rw [Lib.toList_data]; rfl
      clear HST
      go_wp2_with fail
      refine (HO2.out _ R3.out).mono ?_
      rintro e w4 ⟨rfl, B34⟩
      have X4 := Lib.hid (blk_next X3.out B34)
      have R4 := Lib.hid (R3.out.below B34)
      have B04 := Lib.hid (bt B03.out B34)
      clear ca0 ca1 ca2 ca3 la B34 X3 R3 B03
      go_wp2_with fail
      refine (HE.out _ v n (HBy.out.mono B04.out)).mono ?_
      rintro e wd ⟨⟨u, rfl, hul⟩, BD⟩
      have B0d := Lib.hid (bt B04.out BD)
      clear BD
      obtain ⟨T2, c, i, k, hq⟩ : ∃ T2 c i k, readT u.data.toList = (T2, c, i, k) := ⟨_, _, _, _, rfl⟩
      have hsm2 := Lib.hid (readT_small hq)
      obtain ⟨m1, m2, _, m4, _⟩ := hsm2.out
      have HP2 := Lib.hid (fun W hW => HI.out W hW u T2 c i k hul hq)
      have HS2 := Lib.hid (fun W => HSp.out u W T2 c i k hq)
      by_cases hc : c = 0
      · subst hc
        have hok := readT_ok (l := u.data.toList) (by rw [hq])
        rw [hq] at hok
        have HOK := Lib.hid (show okT T2 = true from hok)
        have HN2 : Hid ((∀ p ∈ T2.ns, p.length ≤ 9223372036854775807) ∧ T2.y.length ≤ 9223372036854775807) := Lib.hid ⟨fun p hp => by have := names_mem HOK.out p (by simp [hp]); omega, by have := names_mem HOK.out T2.y (by simp); omega⟩
        clear hq hok
        go_wp2_with fail
        refine (HP2.out _ B0d.out).mono ?_
        rintro e we ⟨⟨vs7, y71, y72, y73, rfl, OY⟩, BE⟩
        have ry := OY.row (by omega) (by omega) (fun r hr => by have := hsm2.out.2.2.1 r hr; omega) (by omega)
        obtain ⟨y1, z1, y2, z2, y3, z3, rfl, rfl, rfl⟩ := ry.form
        have RY := Lib.hid ry
        clear ry OY
        go_wp2_with fail
        have hAl := bt (bl_al we (.cells #[.slice y1 T2.ns.length z1, .string ⟨T2.y.toArray⟩, .slice y2 T2.rs.length z2, .slice y3 T2.ys.length z3] 28)) (bl_al _ (.cells #[.int .i64 ((0 : Nat) : Int), .int .i64 (i : Int), .int .i64 (k : Int)] 33))
        refine (HS2.out _).mono ?_
        rintro e wf ⟨⟨x71, x72, x73, rfl, RZ⟩, BF⟩
        obtain ⟨g1, h1, g2, h2, g3, h3, rfl, rfl, rfl⟩ := RZ.form
        have X7 := Lib.hid (blk_next (blk_al (alloc_blk we #[.slice y1 T2.ns.length z1, .string ⟨T2.y.toArray⟩, .slice y2 T2.rs.length z2, .slice y3 T2.ys.length z3] 28) (.cells #[.int .i64 ((0 : Nat) : Int), .int .i64 (i : Int), .int .i64 (k : Int)] 33)) BF)
        have x8 := blk_next (alloc_blk (we.alloc (.cells #[.slice y1 T2.ns.length z1, .string ⟨T2.y.toArray⟩, .slice y2 T2.rs.length z2, .slice y3 T2.ys.length z3] 28)) #[.int .i64 ((0 : Nat) : Int), .int .i64 (i : Int), .int .i64 (k : Int)] 33) BF
        simp only [sz_alloc] at x8
        have X8 := Lib.hid x8
        have RY2 := Lib.hid ((RY.out.below hAl).below BF)
        have B0f := Lib.hid (bt (bt (bt B0d.out BE) hAl) BF)
        clear x8 hAl BF BE RY RZ
        have p0 := cell_blk X7.out 0
        have p1 := cell_blk X7.out 1
        have p2 := cell_blk X7.out 2
        have p3 := cell_blk X7.out 3
        have pl := blk_lt X7.out
        have q0 := cell_blk X8.out 0
        have q1 := cell_blk X8.out 1
        have q2 := cell_blk X8.out 2
        have ql := blk_lt X8.out
        go_wp2_with fail
        refine (specTableOk T2 _ _ _ _ (RY2.out.below (bt (bl_al wf _) (bl_al _ _))) HN2.out.2 HN2.out.1 true HOK).mono ?_
        rintro e wg ⟨rfl, BG⟩
        have X9 := Lib.hid (blk_next (blk_al (blk_al X7.out _) _) BG)
        have RY3 := Lib.hid ((RY2.out.below (bt (bl_al wf _) (bl_al _ _))).below BG)
        have B0g := Lib.hid (bt (bt B0f.out (bt (bl_al wf _) (bl_al _ _))) BG)
        clear p0 p1 p2 p3 pl
        clear q0 q1 q2 ql
        clear BG X7 X8 RY2 B0f
        have p0 := cell_blk X9.out 0
        have p1 := cell_blk X9.out 1
        have p2 := cell_blk X9.out 2
        have p3 := cell_blk X9.out 3
        have pl := blk_lt X9.out
        go_wp2_with fail
        refine (HO.out T2 _ _ _ _ RY3.out ⟨by omega, by omega, fun r hr => by have := hsm2.out.2.2.1 r hr; omega, by omega, HN2.out.1, HN2.out.2⟩).mono ?_
        rintro e wh ⟨rfl, BH⟩
        rw [HOK.out]
        go_wp2_with fail
        go_ret
        exact ⟨rfl, bt B0g.out BH⟩
      · have hc1 : ¬ (c : Int) = 0 := by omega
        clear hq
        go_wp2_with fail
        refine (HP2.out _ B0d.out).mono ?_
        rintro e we ⟨⟨vs7, y71, y72, y73, rfl, OY⟩, BE⟩
        have ry := OY.row (by omega) (by omega) (fun r hr => by have := hsm2.out.2.2.1 r hr; omega) (by omega)
        obtain ⟨y1, z1, y2, z2, y3, z3, rfl, rfl, rfl⟩ := ry.form
        have RY := Lib.hid ry
        clear ry OY
        go_wp2_with fail
        have hAl := bt (bl_al we (.cells #[.slice y1 T2.ns.length z1, .string ⟨T2.y.toArray⟩, .slice y2 T2.rs.length z2, .slice y3 T2.ys.length z3] 28)) (bl_al _ (.cells #[.int .i64 (c : Int), .int .i64 (i : Int), .int .i64 (k : Int)] 33))
        refine (HS2.out _).mono ?_
        rintro e wf ⟨⟨x71, x72, x73, rfl, RZ⟩, BF⟩
        obtain ⟨g1, h1, g2, h2, g3, h3, rfl, rfl, rfl⟩ := RZ.form
        have X7 := Lib.hid (blk_next (blk_al (alloc_blk we #[.slice y1 T2.ns.length z1, .string ⟨T2.y.toArray⟩, .slice y2 T2.rs.length z2, .slice y3 T2.ys.length z3] 28) (.cells #[.int .i64 (c : Int), .int .i64 (i : Int), .int .i64 (k : Int)] 33)) BF)
        have x8 := blk_next (alloc_blk (we.alloc (.cells #[.slice y1 T2.ns.length z1, .string ⟨T2.y.toArray⟩, .slice y2 T2.rs.length z2, .slice y3 T2.ys.length z3] 28)) #[.int .i64 (c : Int), .int .i64 (i : Int), .int .i64 (k : Int)] 33) BF
        simp only [sz_alloc] at x8
        have X8 := Lib.hid x8
        have RY2 := Lib.hid ((RY.out.below hAl).below BF)
        have B0f := Lib.hid (bt (bt (bt B0d.out BE) hAl) BF)
        clear x8 hAl BF BE RY RZ
        have p0 := cell_blk X7.out 0
        have p1 := cell_blk X7.out 1
        have p2 := cell_blk X7.out 2
        have p3 := cell_blk X7.out 3
        have pl := blk_lt X7.out
        have q0 := cell_blk X8.out 0
        have q1 := cell_blk X8.out 1
        have q2 := cell_blk X8.out 2
        have ql := blk_lt X8.out
        go_wp2_with fail
        go_ret
        exact ⟨rfl, bt B0f.out (bt (bl_al wf _) (bl_al _ _))⟩
    | true =>
      have hne := tabT_ne HBK.out
      have hdt : st.data.toList = tabT T := by rw [← HST.out]
      have hemp : st.toList.isEmpty = false := by
        rw [Lib.toList_data, hdt]
        cases h : tabT T with
        | nil => exact absurd h hne
        | cons a t => rfl
      by_cases hlen : st.size ≤ 4000
      · have hlen1 : (st.size : Int) ≤ 4000 := by omega
        have hrd : readT st.data.toList = (T, 0, 0, 0) := by
          rw [hdt]
          refine readT_text HBK.out ?_
          rw [← hdt, ← Lib.size_eq]
          exact hlen
        have HP1 := Lib.hid (fun W hW => HI.out W hW st T 0 0 0 (by omega) hrd)
        clear hrd hdt hne
        go_wp2_with fail
        refine (HO2.out _ R3.out).mono ?_
        rintro e w4 ⟨rfl, B34⟩
        have X4 := Lib.hid (blk_next X3.out B34)
        have R4 := Lib.hid (R3.out.below B34)
        have B04 := Lib.hid (bt B03.out B34)
        clear ca0 ca1 ca2 ca3 la B34 X3 R3 B03
        go_wp2_with fail
        refine (HP1.out _ B04.out).mono ?_
        rintro e w5 ⟨⟨vs5, d51, d52, d53, rfl, OX⟩, B45⟩
        have rx := OX.row (by omega) (by omega) (fun r hr => Nat.le_trans (HFT.out.2.2.1 r hr) (by omega)) (by omega)
        obtain ⟨d1, k1, d2, k2, d3, k3, rfl, rfl, rfl⟩ := rx.form
        have hAl := bt (bl_al w5 (.cells #[.slice d1 T.ns.length k1, .string ⟨T.y.toArray⟩, .slice d2 T.rs.length k2, .slice d3 T.ys.length k3] 28)) (bl_al _ (.cells #[.int .i64 ((0 : Nat) : Int), .int .i64 ((0 : Nat) : Int), .int .i64 ((0 : Nat) : Int)] 33))
        have BT := bt B45 hAl
        have X5 := Lib.hid (blk_next X4.out BT)
        have R5 := Lib.hid (R4.out.below BT)
        have RX5 := Lib.hid (rx.below hAl)
        have xx := blk_al (alloc_blk w5 #[.slice d1 T.ns.length k1, .string ⟨T.y.toArray⟩, .slice d2 T.rs.length k2, .slice d3 T.ys.length k3] 28) (.cells #[.int .i64 ((0 : Nat) : Int), .int .i64 ((0 : Nat) : Int), .int .i64 ((0 : Nat) : Int)] 33)
        have xf := alloc_blk (w5.alloc (.cells #[.slice d1 T.ns.length k1, .string ⟨T.y.toArray⟩, .slice d2 T.rs.length k2, .slice d3 T.ys.length k3] 28)) #[.int .i64 ((0 : Nat) : Int), .int .i64 ((0 : Nat) : Int), .int .i64 ((0 : Nat) : Int)] 33
        simp only [sz_alloc] at xf
        have XX := Lib.hid xx
        have XF := Lib.hid xf
        have B05 := Lib.hid (bt B04.out BT)
        have X5w := Lib.hid (blk_next X4.out B45)
        clear rx OX hAl BT xx xf X4 R4 B04 B45
        have p0 := cell_blk X5w.out 0
        have p1 := cell_blk X5w.out 1
        have p2 := cell_blk X5w.out 2
        have p3 := cell_blk X5w.out 3
        have pl := blk_lt X5w.out
        go_wp2_with fail
        refine (specSameTable T T _ _ _ _ _ _ _ RX5.out R5.out).mono ?_
        rintro e w6 ⟨rfl, B56⟩
        rw [sameT_self]
        have X6 := Lib.hid (blk_next X5.out B56)
        have XX6 := Lib.hid (blk_next XX.out B56)
        have R6 := Lib.hid (R5.out.below B56)
        have RX6 := Lib.hid (RX5.out.below B56)
        have B06 := Lib.hid (bt B05.out B56)
        clear p0 p1 p2 p3 pl
        clear X5w B56 X5 XX XF R5 RX5 B05
        have p0 := cell_blk X6.out 0
        have p1 := cell_blk X6.out 1
        have p2 := cell_blk X6.out 2
        have p3 := cell_blk X6.out 3
        have pl := blk_lt X6.out
        have q0 := cell_blk XX6.out 0
        have q1 := cell_blk XX6.out 1
        have q2 := cell_blk XX6.out 2
        have q3 := cell_blk XX6.out 3
        have ql := blk_lt XX6.out
        go_wp2_with fail
        refine (HS.out T T _ _ _ _ _ _ _ RX6.out R6.out HFT.out HFT.out).mono ?_
        rintro e w7 ⟨rfl, B67⟩
        rw [sameT_self]
        have B07 := Lib.hid (bt B06.out B67)
        clear p0 p1 p2 p3 pl
        clear q0 q1 q2 q3 ql
        clear B67 X6 XX6 R6 RX6 B06
        go_wp2_with fail
        refine (HE.out _ v n (HBy.out.mono B07.out)).mono ?_
        rintro e wd ⟨⟨u, rfl, hul⟩, BD⟩
        have B0d := Lib.hid (bt B07.out BD)
        clear BD
        obtain ⟨T2, c, i, k, hq⟩ : ∃ T2 c i k, readT u.data.toList = (T2, c, i, k) := ⟨_, _, _, _, rfl⟩
        have hsm2 := Lib.hid (readT_small hq)
        obtain ⟨m1, m2, _, m4, _⟩ := hsm2.out
        have HP2 := Lib.hid (fun W hW => HI.out W hW u T2 c i k hul hq)
        have HS2 := Lib.hid (fun W => HSp.out u W T2 c i k hq)
        by_cases hc : c = 0
        · subst hc
          have hok := readT_ok (l := u.data.toList) (by rw [hq])
          rw [hq] at hok
          have HOK := Lib.hid (show okT T2 = true from hok)
          have HN2 : Hid ((∀ p ∈ T2.ns, p.length ≤ 9223372036854775807) ∧ T2.y.length ≤ 9223372036854775807) := Lib.hid ⟨fun p hp => by have := names_mem HOK.out p (by simp [hp]); omega, by have := names_mem HOK.out T2.y (by simp); omega⟩
          clear hq hok
          go_wp2_with fail
          refine (HP2.out _ B0d.out).mono ?_
          rintro e we ⟨⟨vs7, y71, y72, y73, rfl, OY⟩, BE⟩
          have ry := OY.row (by omega) (by omega) (fun r hr => by have := hsm2.out.2.2.1 r hr; omega) (by omega)
          obtain ⟨y1, z1, y2, z2, y3, z3, rfl, rfl, rfl⟩ := ry.form
          have RY := Lib.hid ry
          clear ry OY
          go_wp2_with fail
          have hAl := bt (bl_al we (.cells #[.slice y1 T2.ns.length z1, .string ⟨T2.y.toArray⟩, .slice y2 T2.rs.length z2, .slice y3 T2.ys.length z3] 28)) (bl_al _ (.cells #[.int .i64 ((0 : Nat) : Int), .int .i64 (i : Int), .int .i64 (k : Int)] 33))
          refine (HS2.out _).mono ?_
          rintro e wf ⟨⟨x71, x72, x73, rfl, RZ⟩, BF⟩
          obtain ⟨g1, h1, g2, h2, g3, h3, rfl, rfl, rfl⟩ := RZ.form
          have X7 := Lib.hid (blk_next (blk_al (alloc_blk we #[.slice y1 T2.ns.length z1, .string ⟨T2.y.toArray⟩, .slice y2 T2.rs.length z2, .slice y3 T2.ys.length z3] 28) (.cells #[.int .i64 ((0 : Nat) : Int), .int .i64 (i : Int), .int .i64 (k : Int)] 33)) BF)
          have x8 := blk_next (alloc_blk (we.alloc (.cells #[.slice y1 T2.ns.length z1, .string ⟨T2.y.toArray⟩, .slice y2 T2.rs.length z2, .slice y3 T2.ys.length z3] 28)) #[.int .i64 ((0 : Nat) : Int), .int .i64 (i : Int), .int .i64 (k : Int)] 33) BF
          simp only [sz_alloc] at x8
          have X8 := Lib.hid x8
          have RY2 := Lib.hid ((RY.out.below hAl).below BF)
          have B0f := Lib.hid (bt (bt (bt B0d.out BE) hAl) BF)
          clear x8 hAl BF BE RY RZ
          have p0 := cell_blk X7.out 0
          have p1 := cell_blk X7.out 1
          have p2 := cell_blk X7.out 2
          have p3 := cell_blk X7.out 3
          have pl := blk_lt X7.out
          have q0 := cell_blk X8.out 0
          have q1 := cell_blk X8.out 1
          have q2 := cell_blk X8.out 2
          have ql := blk_lt X8.out
          go_wp2_with fail
          refine (specTableOk T2 _ _ _ _ (RY2.out.below (bt (bl_al wf _) (bl_al _ _))) HN2.out.2 HN2.out.1 true HOK).mono ?_
          rintro e wg ⟨rfl, BG⟩
          have X9 := Lib.hid (blk_next (blk_al (blk_al X7.out _) _) BG)
          have RY3 := Lib.hid ((RY2.out.below (bt (bl_al wf _) (bl_al _ _))).below BG)
          have B0g := Lib.hid (bt (bt B0f.out (bt (bl_al wf _) (bl_al _ _))) BG)
          clear p0 p1 p2 p3 pl
          clear q0 q1 q2 ql
          clear BG X7 X8 RY2 B0f
          have p0 := cell_blk X9.out 0
          have p1 := cell_blk X9.out 1
          have p2 := cell_blk X9.out 2
          have p3 := cell_blk X9.out 3
          have pl := blk_lt X9.out
          go_wp2_with fail
          refine (HO.out T2 _ _ _ _ RY3.out ⟨by omega, by omega, fun r hr => by have := hsm2.out.2.2.1 r hr; omega, by omega, HN2.out.1, HN2.out.2⟩).mono ?_
          rintro e wh ⟨rfl, BH⟩
          rw [HOK.out]
          go_wp2_with fail
          go_ret
          exact ⟨rfl, bt B0g.out BH⟩
        · have hc1 : ¬ (c : Int) = 0 := by omega
          clear hq
          go_wp2_with fail
          refine (HP2.out _ B0d.out).mono ?_
          rintro e we ⟨⟨vs7, y71, y72, y73, rfl, OY⟩, BE⟩
          have ry := OY.row (by omega) (by omega) (fun r hr => by have := hsm2.out.2.2.1 r hr; omega) (by omega)
          obtain ⟨y1, z1, y2, z2, y3, z3, rfl, rfl, rfl⟩ := ry.form
          have RY := Lib.hid ry
          clear ry OY
          go_wp2_with fail
          have hAl := bt (bl_al we (.cells #[.slice y1 T2.ns.length z1, .string ⟨T2.y.toArray⟩, .slice y2 T2.rs.length z2, .slice y3 T2.ys.length z3] 28)) (bl_al _ (.cells #[.int .i64 (c : Int), .int .i64 (i : Int), .int .i64 (k : Int)] 33))
          refine (HS2.out _).mono ?_
          rintro e wf ⟨⟨x71, x72, x73, rfl, RZ⟩, BF⟩
          obtain ⟨g1, h1, g2, h2, g3, h3, rfl, rfl, rfl⟩ := RZ.form
          have X7 := Lib.hid (blk_next (blk_al (alloc_blk we #[.slice y1 T2.ns.length z1, .string ⟨T2.y.toArray⟩, .slice y2 T2.rs.length z2, .slice y3 T2.ys.length z3] 28) (.cells #[.int .i64 (c : Int), .int .i64 (i : Int), .int .i64 (k : Int)] 33)) BF)
          have x8 := blk_next (alloc_blk (we.alloc (.cells #[.slice y1 T2.ns.length z1, .string ⟨T2.y.toArray⟩, .slice y2 T2.rs.length z2, .slice y3 T2.ys.length z3] 28)) #[.int .i64 (c : Int), .int .i64 (i : Int), .int .i64 (k : Int)] 33) BF
          simp only [sz_alloc] at x8
          have X8 := Lib.hid x8
          have RY2 := Lib.hid ((RY.out.below hAl).below BF)
          have B0f := Lib.hid (bt (bt (bt B0d.out BE) hAl) BF)
          clear x8 hAl BF BE RY RZ
          have p0 := cell_blk X7.out 0
          have p1 := cell_blk X7.out 1
          have p2 := cell_blk X7.out 2
          have p3 := cell_blk X7.out 3
          have pl := blk_lt X7.out
          have q0 := cell_blk X8.out 0
          have q1 := cell_blk X8.out 1
          have q2 := cell_blk X8.out 2
          have ql := blk_lt X8.out
          go_wp2_with fail
          go_ret
          exact ⟨rfl, bt B0f.out (bt (bl_al wf _) (bl_al _ _))⟩
      · have hlen1 : ¬ (st.size : Int) ≤ 4000 := by omega
        go_wp2_with fail
        refine (HO2.out _ R3.out).mono ?_
        rintro e w4 ⟨rfl, B34⟩
        have X4 := Lib.hid (blk_next X3.out B34)
        have R4 := Lib.hid (R3.out.below B34)
        have B04 := Lib.hid (bt B03.out B34)
        clear ca0 ca1 ca2 ca3 la B34 X3 R3 B03
        go_wp2_with fail
        refine (HE.out _ v n (HBy.out.mono B04.out)).mono ?_
        rintro e wd ⟨⟨u, rfl, hul⟩, BD⟩
        have B0d := Lib.hid (bt B04.out BD)
        clear BD
        obtain ⟨T2, c, i, k, hq⟩ : ∃ T2 c i k, readT u.data.toList = (T2, c, i, k) := ⟨_, _, _, _, rfl⟩
        have hsm2 := Lib.hid (readT_small hq)
        obtain ⟨m1, m2, _, m4, _⟩ := hsm2.out
        have HP2 := Lib.hid (fun W hW => HI.out W hW u T2 c i k hul hq)
        have HS2 := Lib.hid (fun W => HSp.out u W T2 c i k hq)
        by_cases hc : c = 0
        · subst hc
          have hok := readT_ok (l := u.data.toList) (by rw [hq])
          rw [hq] at hok
          have HOK := Lib.hid (show okT T2 = true from hok)
          have HN2 : Hid ((∀ p ∈ T2.ns, p.length ≤ 9223372036854775807) ∧ T2.y.length ≤ 9223372036854775807) := Lib.hid ⟨fun p hp => by have := names_mem HOK.out p (by simp [hp]); omega, by have := names_mem HOK.out T2.y (by simp); omega⟩
          clear hq hok
          go_wp2_with fail
          refine (HP2.out _ B0d.out).mono ?_
          rintro e we ⟨⟨vs7, y71, y72, y73, rfl, OY⟩, BE⟩
          have ry := OY.row (by omega) (by omega) (fun r hr => by have := hsm2.out.2.2.1 r hr; omega) (by omega)
          obtain ⟨y1, z1, y2, z2, y3, z3, rfl, rfl, rfl⟩ := ry.form
          have RY := Lib.hid ry
          clear ry OY
          go_wp2_with fail
          have hAl := bt (bl_al we (.cells #[.slice y1 T2.ns.length z1, .string ⟨T2.y.toArray⟩, .slice y2 T2.rs.length z2, .slice y3 T2.ys.length z3] 28)) (bl_al _ (.cells #[.int .i64 ((0 : Nat) : Int), .int .i64 (i : Int), .int .i64 (k : Int)] 33))
          refine (HS2.out _).mono ?_
          rintro e wf ⟨⟨x71, x72, x73, rfl, RZ⟩, BF⟩
          obtain ⟨g1, h1, g2, h2, g3, h3, rfl, rfl, rfl⟩ := RZ.form
          have X7 := Lib.hid (blk_next (blk_al (alloc_blk we #[.slice y1 T2.ns.length z1, .string ⟨T2.y.toArray⟩, .slice y2 T2.rs.length z2, .slice y3 T2.ys.length z3] 28) (.cells #[.int .i64 ((0 : Nat) : Int), .int .i64 (i : Int), .int .i64 (k : Int)] 33)) BF)
          have x8 := blk_next (alloc_blk (we.alloc (.cells #[.slice y1 T2.ns.length z1, .string ⟨T2.y.toArray⟩, .slice y2 T2.rs.length z2, .slice y3 T2.ys.length z3] 28)) #[.int .i64 ((0 : Nat) : Int), .int .i64 (i : Int), .int .i64 (k : Int)] 33) BF
          simp only [sz_alloc] at x8
          have X8 := Lib.hid x8
          have RY2 := Lib.hid ((RY.out.below hAl).below BF)
          have B0f := Lib.hid (bt (bt (bt B0d.out BE) hAl) BF)
          clear x8 hAl BF BE RY RZ
          have p0 := cell_blk X7.out 0
          have p1 := cell_blk X7.out 1
          have p2 := cell_blk X7.out 2
          have p3 := cell_blk X7.out 3
          have pl := blk_lt X7.out
          have q0 := cell_blk X8.out 0
          have q1 := cell_blk X8.out 1
          have q2 := cell_blk X8.out 2
          have ql := blk_lt X8.out
          go_wp2_with fail
          refine (specTableOk T2 _ _ _ _ (RY2.out.below (bt (bl_al wf _) (bl_al _ _))) HN2.out.2 HN2.out.1 true HOK).mono ?_
          rintro e wg ⟨rfl, BG⟩
          have X9 := Lib.hid (blk_next (blk_al (blk_al X7.out _) _) BG)
          have RY3 := Lib.hid ((RY2.out.below (bt (bl_al wf _) (bl_al _ _))).below BG)
          have B0g := Lib.hid (bt (bt B0f.out (bt (bl_al wf _) (bl_al _ _))) BG)
          clear p0 p1 p2 p3 pl
          clear q0 q1 q2 ql
          clear BG X7 X8 RY2 B0f
          have p0 := cell_blk X9.out 0
          have p1 := cell_blk X9.out 1
          have p2 := cell_blk X9.out 2
          have p3 := cell_blk X9.out 3
          have pl := blk_lt X9.out
          go_wp2_with fail
          refine (HO.out T2 _ _ _ _ RY3.out ⟨by omega, by omega, fun r hr => by have := hsm2.out.2.2.1 r hr; omega, by omega, HN2.out.1, HN2.out.2⟩).mono ?_
          rintro e wh ⟨rfl, BH⟩
          rw [HOK.out]
          go_wp2_with fail
          go_ret
          exact ⟨rfl, bt B0g.out BH⟩
        · have hc1 : ¬ (c : Int) = 0 := by omega
          clear hq
          go_wp2_with fail
          refine (HP2.out _ B0d.out).mono ?_
          rintro e we ⟨⟨vs7, y71, y72, y73, rfl, OY⟩, BE⟩
          have ry := OY.row (by omega) (by omega) (fun r hr => by have := hsm2.out.2.2.1 r hr; omega) (by omega)
          obtain ⟨y1, z1, y2, z2, y3, z3, rfl, rfl, rfl⟩ := ry.form
          have RY := Lib.hid ry
          clear ry OY
          go_wp2_with fail
          have hAl := bt (bl_al we (.cells #[.slice y1 T2.ns.length z1, .string ⟨T2.y.toArray⟩, .slice y2 T2.rs.length z2, .slice y3 T2.ys.length z3] 28)) (bl_al _ (.cells #[.int .i64 (c : Int), .int .i64 (i : Int), .int .i64 (k : Int)] 33))
          refine (HS2.out _).mono ?_
          rintro e wf ⟨⟨x71, x72, x73, rfl, RZ⟩, BF⟩
          obtain ⟨g1, h1, g2, h2, g3, h3, rfl, rfl, rfl⟩ := RZ.form
          have X7 := Lib.hid (blk_next (blk_al (alloc_blk we #[.slice y1 T2.ns.length z1, .string ⟨T2.y.toArray⟩, .slice y2 T2.rs.length z2, .slice y3 T2.ys.length z3] 28) (.cells #[.int .i64 (c : Int), .int .i64 (i : Int), .int .i64 (k : Int)] 33)) BF)
          have x8 := blk_next (alloc_blk (we.alloc (.cells #[.slice y1 T2.ns.length z1, .string ⟨T2.y.toArray⟩, .slice y2 T2.rs.length z2, .slice y3 T2.ys.length z3] 28)) #[.int .i64 (c : Int), .int .i64 (i : Int), .int .i64 (k : Int)] 33) BF
          simp only [sz_alloc] at x8
          have X8 := Lib.hid x8
          have RY2 := Lib.hid ((RY.out.below hAl).below BF)
          have B0f := Lib.hid (bt (bt (bt B0d.out BE) hAl) BF)
          clear x8 hAl BF BE RY RZ
          have p0 := cell_blk X7.out 0
          have p1 := cell_blk X7.out 1
          have p2 := cell_blk X7.out 2
          have p3 := cell_blk X7.out 3
          have pl := blk_lt X7.out
          have q0 := cell_blk X8.out 0
          have q1 := cell_blk X8.out 1
          have q2 := cell_blk X8.out 2
          have ql := blk_lt X8.out
          go_wp2_with fail
          go_ret
          exact ⟨rfl, bt B0f.out (bt (bl_al wf _) (bl_al _ _))⟩
end Go.Proofs.YticeagjonfifbaaGreatDoor
