/-
  The draws of right tables.
-/
import Derived.Test.YtgknkjiifcnkpaaPk5
import Derived.Test.YtgknkjiifcnkpaaTabS
import Derived.Deep.DeepCutAuto
import Derived.Maps.AppendAt
namespace Go.Proofs.Ytgknkjiifcnkpaa
open Go.RowKit

/-- The names of a drawn table. -/
def names9 (n : Nat) : List (List UInt8) := [[97], [98], [99, 50], [100]].take n
theorem names9_len {n : Nat} (h : n ≤ 4) : (names9 n).length = n := by
  unfold names9
  rw [List.length_take]
  exact Nat.min_eq_left h
def RowsR (n : Nat) (R : List (List Int)) : Prop := ∀ r ∈ R, r.length = n ∧ r.all valB = true
theorem okT_mk9 {n : Nat} (h1 : 1 ≤ n) (h4 : n ≤ 4) {R : List (List Int)} {Y : List Int} (hm : 1 ≤ R.length ∧ R.length ≤ 40) (hy : Y.length = R.length) (hR : RowsR n R) (hY : Y.all valB = true) : okT ⟨names9 n, [121], R, Y⟩ = true := by
  have hl := names9_len h4
  have hA : nameB [121] = true := by decide +kernel
  have hB : hasB (names9 n) [121] = false := by
    rcases (by omega : n = 1 ∨ n = 2 ∨ n = 3 ∨ n = 4) with rfl | rfl | rfl | rfl <;> decide +kernel
  have hC : ∀ i, i < n → nameAt ⟨names9 n, [121], R, Y⟩ i = true := by
    intro i hi
    show (nameB ((names9 n).getD i []) && !hasB ((names9 n).take i) ((names9 n).getD i [])) = true
    rcases (by omega : n = 1 ∨ n = 2 ∨ n = 3 ∨ n = 4) with rfl | rfl | rfl | rfl <;> rcases (by omega : i = 0 ∨ i = 1 ∨ i = 2 ∨ i = 3) with rfl | rfl | rfl | rfl <;> first | omega | decide +kernel
  simp only [okT, headB, Bool.and_eq_true, inZ_iff, List.all_eq_true, List.mem_range, decide_eq_true_eq, Bool.not_eq_true', hl]
  refine ⟨⟨⟨⟨⟨⟨by omega, hA⟩, hB⟩, by omega⟩, hy⟩, hC⟩, fun i hi => ?_⟩
  have e1 : R.getD i [] = R[i] := by rw [List.getD_eq_getElem?_getD, List.getElem?_eq_getElem hi]; rfl
  have hm := hR R[i] (List.getElem_mem hi)
  have hiy : i < Y.length := by omega
  have e2 : Y.getD i 0 = Y[i] := by rw [List.getD_eq_getElem?_getD, List.getElem?_eq_getElem hiy]; rfl
  simp only [rowAt, e1, e2, hl, hm.1, hm.2, List.all_eq_true.1 hY Y[i] (List.getElem_mem hiy)]
  simp
theorem rowsR_snoc {n : Nat} {R : List (List Int)} {r : List Int} (h : RowsR n R) (h1 : r.length = n) (h2 : r.all valB = true) : RowsR n (R ++ [r]) := by
  intro x hx
  rcases List.mem_append.1 hx with hx | hx
  · exact h x hx
  · obtain rfl : x = r := by simpa using hx
    exact ⟨h1, h2⟩
theorem all_snoc9 {r : List Int} {z : Int} (h : r.all valB = true) (hz : valB z = true) : (r ++ [z]).all valB = true := by
  rw [List.all_append, h]
  simpa using hz
/-- What a draw of a table answers. -/
def TabOut9 (W w : World) (p : Nat) (P : Tab → Prop) (e : Ending) (w' : World) : Prop :=
  ∃ T vs u1 u2 u3, e = .returned (.agg #[u1, .string ⟨T.y.toArray⟩, u2, u3]) ∧ TabOwn w' w.heap.size T vs u1 u2 u3 ∧ P T ∧ Cur W w' p ∧ w.grownBy w' (some p)
theorem addr_addD (b j : Nat) : ((⟨b, 0, none⟩ : Addr).add j) = ⟨b, j, none⟩ := by
  have h : ((⟨b, 0, none⟩ : Addr).add j) = ⟨b, 0 + j, none⟩ := by unfold Addr.add; split <;> simp_all
  rwa [Nat.zero_add] at h
theorem strCells_cellD (L : List (List UInt8)) : ∀ u ∈ strCells L, u.oneCell' = true := by
  intro u hu
  obtain ⟨x, _, rfl⟩ := List.mem_map.1 hu
  rfl
theorem names_cells {w : World} {n : Nat} (j : Nat) (u : Value) (h : (strCells (names9 n))[j]? = some u) : (w.alloc (.cells #[.string ⟨#[97]⟩, .string ⟨#[98]⟩, .string ⟨#[99, 50]⟩, .string ⟨#[100]⟩] 9)).cell? ((⟨w.heap.size, 0, none⟩ : Addr).add j) = some u := by
  rw [addr_addD, cell_blk (alloc_blk w _ _)]
  rw [strCells, names9, List.map_take, List.getElem?_take] at h
  split at h
  · simpa using h
  · cases h
/-- The way to a table whose rows are to be drawn. -/
theorem drT_start {W w w3 : World} {p n : Nat} {a1 : Option Addr} {c1 : Nat} (hc : Cur W w3 p) (hg : w.grownBy w3 (some p)) (ho : w3.ownsRow w.heap.size 9 1 (.slice a1 n c1) n (strCells (names9 n))) (hn : n ≤ 4) (hx : w3.heap[w.heap.size]? = some (.cells #[.slice none 0 0, .string ⟨#[]⟩, .slice none 0 0, .slice none 0 0] 34 (0, 0))) (hs : W.heap.size ≤ w.heap.size) :
    DrT W w (w3.alloc (.cells #[.slice a1 n c1, .string ⟨#[121]⟩, (.slice none 0 0), (.slice none 0 0)] 34)) p w.heap.size w3.heap.size #[.slice a1 n c1, .string ⟨#[121]⟩, (.slice none 0 0), (.slice none 0 0)] ⟨names9 n, [121], [], []⟩ [] (.slice a1 n c1) (.slice none 0 0) (.slice none 0 0) := by
  have hl := names9_len hn
  refine ⟨hc.alloc _, grownBy_trans hg (grow_al _ _ _), alloc_blk w3 _ _, ⟨?_, ⟨rfl, Or.inl ⟨rfl, rfl⟩⟩, RowsOwn.nil _ _ _, ⟨rfl, Or.inl ⟨rfl, rfl⟩⟩, by simp⟩, hg.size, blk_al hx _, Nat.le_refl _, ?_, hs⟩
  · show World.ownsRow _ _ _ 1 _ (names9 n).length _
    rw [hl]
    exact owns_bl ho (bl_al _ _)
  · have := blk_lt hx
    omega
theorem owns_drawI {W wr w' : World} {p b n : Nat} {v : Value} {xs : List Value} (h : wr.ownsRow b 3 1 v n xs) (hc : Cur W wr p) (hg : wr.grownBy w' (some p)) : w'.ownsRow b 3 1 v n xs := by
  obtain ⟨cs, hb⟩ := hc.blkT
  have hT : 3 ≠ 80 := by decide
  exact owns_far h hg (fun g e => by obtain rfl := Option.some.inj e; exact own_ne_blk h hb hT)
theorem results_oneD {fn : Func} {p : Tmp} {ty : TypeId} (h : fn.results = #[.cell p ty]) (tmps : Array Value) (P : Program) (w : World) :
    (results fn tmps).run P w = ((asAddr (tmps.getD p undef)).run P w).andThen fun a w1 => (loadVar ty a).run P w1 := by
  simp only [results, h]
  simp [Sem.run_bind, Result.andThen]
theorem fb_snoc9 {row : List Int} {x : Int} (h : ∀ x9 : Int, row[0]? = some x9 → -1500 ≤ x9 ∧ x9 ≤ 1500) (hx : -1500 ≤ x ∧ x ≤ 1500) : ∀ x9 : Int, (row ++ [x])[0]? = some x9 → -1500 ≤ x9 ∧ x9 ≤ 1500 := by
  intro x9 h9
  cases row with
  | nil =>
    obtain rfl : x = x9 := by simpa using h9
    exact hx
  | cons y t => exact h x9 (by simpa using h9)
set_option maxRecDepth 100000 in
set_option maxHeartbeats 8000000 in
theorem l9Right (W w : World) (p : Nat) (hc : Cur W w p) :
    Calls Try.prog 81 #[.pointer (some ⟨p, 0, none⟩)] w fun e w' => TabOut9 W w p (fun T => okT T = true ∧ T.ns.length ≤ 3) e w' := by
  obtain ⟨iS, hi, hz0, hz1, hz2⟩ := info_parts infoStr
  obtain ⟨iI, gi, gz0, gz1, gz2⟩ := info_parts infoInt
  obtain ⟨iL, gj, gy0, gy1, gy2⟩ := info_parts infoSlI
  have hWw : W.heap.size ≤ w.heap.size := hc.2.1.size
  have x0 := alloc_blk w #[.slice none 0 0, .string ⟨#[]⟩, .slice none 0 0, .slice none 0 0] 34
  go_enter Try.func81, Try.ntmps81
  go_wp2_with fail
  refine (l1Below W _ p 3 (by omega) (by omega) (hc.alloc _)).mono ?_
  rintro e w1 ⟨⟨n0, hn0, rfl⟩, hc1, hg1⟩
  obtain ⟨cs0, hb0⟩ := (hc.alloc (.cells #[.slice none 0 0, .string ⟨#[]⟩, .slice none 0 0, .slice none 0 0] 34)).blkT
  have x1 := blk_far x0 hb0 (by decide) hg1
  have hs1 : w.heap.size ≤ w1.heap.size := Nat.le_of_lt (blk_lt x1)
  have HG1 := Lib.hid (grownBy_trans (grow_al w (.cells #[.slice none 0 0, .string ⟨#[]⟩, .slice none 0 0, .slice none 0 0] 34) (some p)) hg1)
  obtain ⟨n, hn⟩ : ∃ n : Nat, n = n0 + 1 := ⟨_, rfl⟩
  have hw1 : (1 : Int) + n0 = n := by omega
  have hn1 : 1 ≤ n := by omega
  have hn4 : n ≤ 4 := by omega
  have hn4i : (n : Int) ≤ 4 := by omega
  have HN3 : Hid ((names9 n).length ≤ 3) := Lib.hid (by rw [names9_len hn4]; omega)
  have hn0i : (0 : Int) ≤ n := by omega
  have hO : ((w1.alloc (.cells #[] 9)).alloc (.cells #[.string ⟨#[97]⟩, .string ⟨#[98]⟩, .string ⟨#[99, 50]⟩, .string ⟨#[100]⟩] 9)).ownsRow w.heap.size 9 1 (.slice (some ⟨w1.heap.size, 0, none⟩) 0 0) 0 [] := owns_bl (World.ownsRow_made w1 #[] 0 hs1 (by unfold maxLen; omega) (by simp)) (bl_al _ _)
  have HW1 := Lib.hid hw1
  clear hn hn0 hb0 hg1 hc
  go_wp2_with (at_builtin; refine wpList_append_own _ rfl _ _ 31 rfl w.heap.size 9 iS (.string ByteArray.empty) 1 16 Try.underlying31 hi hz0 hz1 hz2 rfl (by decide) _ _ _ rfl hO ⟨w1.heap.size + 1, 0, none⟩ n 4 (strCells (names9 n)) rfl ?a1 ?a2 ?a3 ?a4 ?a5 ?a6 ?_)
  case a1 => rw [strCells_len, names9_len hn4, Nat.mul_one]
  case a2 => exact fun j u hj => (by have h := names_cells (w := w1.alloc (.cells #[] 9)) j u hj; rwa [sz_alloc] at h)
  case a3 => exact strCells_cellD _
  case a4 => unfold maxLen; omega
  case a5 => omega
  case a6 => simp only [sz_alloc]; omega
  intro v3 w3 hown3 hg3 _
  obtain ⟨a1, c1, rfl⟩ := owns_form hown3
  have hpw := hc1.lt
  have hc3 := ((hc1.alloc (.cells #[] 9)).alloc (.cells #[.string ⟨#[97]⟩, .string ⟨#[98]⟩, .string ⟨#[99, 50]⟩, .string ⟨#[100]⟩] 9)).grownT hg3 (fun k hk => by
    have hkk : w1.heap.size = k := Option.some.inj hk
    subst hkk
    exact ⟨hc1.2.1.size, by omega⟩)
  have hx3 : w3.heap[w.heap.size]? = some (.cells #[.slice none 0 0, .string ⟨#[]⟩, .slice none 0 0, .slice none 0 0] 34 (0, 0)) := by
    have hlx := blk_lt x1
    rw [hg3.block w.heap.size (by simp only [sz_alloc]; omega) (fun e => by have := Option.some.inj e; simp only at this; omega)]
    exact blk_al (blk_al x1 _) _
  have hg13 := grownBy_farT (grownBy_trans HG1.out (grownBy_trans (grow_al w1 (.cells #[] 9) (some p)) (grow_al _ (.cells #[.string ⟨#[97]⟩, .string ⟨#[98]⟩, .string ⟨#[99, 50]⟩, .string ⟨#[100]⟩] 9) (some p)))) hg3 (fun k hk => by
    have hkk : w1.heap.size = k := Option.some.inj hk
    omega)
  have HD := Lib.hid (drT_start hc3 hg13 hown3 hn4 hx3 hWw)
  clear hown3 hg3 hg13 hc3 hx3 x1 x0 hc1 hO hw1 hpw HG1
  go_wp2_with fail
  refine (l1Below W _ p 9 (by omega) (by omega) HD.out.cur).mono ?_
  rintro e w4 ⟨⟨m0, hm0, rfl⟩, hc4, hg4⟩
  have HD4 := Lib.hid (HD.out.draw hc4 hg4)
  clear hc4 hg4 HD
  obtain ⟨m1, hm1⟩ : ∃ m : Nat, m = m0 + 1 := ⟨_, rfl⟩
  have hw2 : (1 : Int) + m0 = m1 := by omega
  have hm11 : 1 ≤ m1 := by omega
  have hm40 : m1 ≤ 40 := by omega
  clear hm1 hm0
  go_wp2_with fail
  refine (l1Once W _ p 10 (by omega) (by omega) HD4.out.cur).mono ?_
  rintro e w5 ⟨⟨b5, rfl⟩, hc5, hg5⟩
  have HD5 := Lib.hid (HD4.out.draw hc5 hg5)
  clear hc5 hg5 HD4 hw2
  go_upto_if 25 with fail
  go_cut [5] (fun v5 wx => ∃ m : Nat, v5 = .int .i64 m ∧ 1 ≤ m ∧ m ≤ 40 ∧ DrT W w wx p w.heap.size w3.heap.size #[.slice a1 n c1, .string ⟨#[121]⟩, (.slice none 0 0), (.slice none 0 0)] ⟨names9 n, [121], [], []⟩ [] (.slice a1 n c1) (.slice none 0 0) (.slice none 0 0))
  case first =>
    cases b5 with
    | false =>
      go_wp2_with fail
      go_meet
      case rel => exact ⟨m1, rfl, hm11, hm40, HD5.out⟩
    | true =>
      go_wp2_with fail
      refine (l1Below W _ p 40 (by omega) (by omega) HD5.out.cur).mono ?_
      rintro e w6 ⟨⟨m2, hm2, rfl⟩, hc6, hg6⟩
      have HD6 := Lib.hid (HD5.out.draw hc6 hg6)
      clear hc6 hg6 HD5
      obtain ⟨m3, hm3⟩ : ∃ m : Nat, m = m2 + 1 := ⟨_, rfl⟩
      have hw3 : (1 : Int) + m2 = m3 := by omega
      have hm31 : 1 ≤ m3 := by omega
      have hm34 : m3 ≤ 40 := by omega
      clear hm3 hm2
      go_wp2_with fail
      go_meet
      case rel => exact ⟨m3, rfl, hm31, hm34, HD6.out⟩
  case rest =>
    obtain ⟨m, rfl, hmm1, hmm40, hDc⟩ := hcut
    have HDc := Lib.hid hDc
    clear hDc HD5 hm11 hm40
    obtain ⟨ob, hob⟩ : ∃ b, w3.heap.size = b := ⟨_, rfl⟩
    rw [hob] at HDc ⊢
    clear hob
    go_wp2_with fail
    refine (l1Once W _ p 12 (by omega) (by omega) HDc.out.cur).mono ?_
    rintro e w7 ⟨⟨far, rfl⟩, hc7, hg7⟩
    have HD7 := Lib.hid (HDc.out.draw hc7 hg7)
    clear hc7 hg7 HDc
    cases far with
    | true =>
      go_wp2_with fail
      go_loopg [7, 8, 9, 10, 11] m (fun g_ i_ _ _ _ _ wr => ∃ (j : Nat) (R : List (List Int)) (Y : List Int) (vs : List Value) (u2 u3 : Value), g_ = m - j ∧ i_ = .int .i64 j ∧ j ≤ m ∧ R.length = j ∧ Y.length = j ∧ RowsR n R ∧ Y.all valB = true ∧ DrT W w wr p w.heap.size ob #[.slice a1 n c1, .string ⟨#[121]⟩, u2, u3] ⟨names9 n, [121], R, Y⟩ vs (.slice a1 n c1) u2 u3)
      case atStart => exact ⟨0, [], [], [], _, _, rfl, rfl, Nat.zero_le _, rfl, rfl, by simp [RowsR], rfl, HD7.out⟩
      case round =>
        clear HD7
        obtain ⟨j, R, Y, vs, u2, u3, rfl, rfl, hj, hRl, hYl, hRR, hYY, hD⟩ := hrel
        have HRR := Lib.hid hRR
        have HYY := Lib.hid hYY
        have HRl := Lib.hid hRl
        have HYl := Lib.hid hYl
        clear hRR hYY hRl hYl
        by_cases hlt : j < m
        · have hj1 : (j : Int) < m := by omega
          obtain ⟨lo0, hC0⟩ : ∃ lo0, DrR W w (wr.alloc (.cells #[] 3)) p w.heap.size ob lo0 #[.slice a1 n c1, .string ⟨#[121]⟩, u2, u3] ⟨names9 n, [121], R, Y⟩ vs (.slice a1 n c1) u2 u3 (.slice (some ⟨wr.heap.size, 0, none⟩) 0 0) [] := ⟨_, hD.start⟩
          clear hD
          go_wp2_with fail
          go_loopg [8, 9, 10] n (fun g_ v_ k_ _ wi => ∃ (q : Nat) (row : List Int), g_ = n - q ∧ k_ = .int .i64 q ∧ q ≤ n ∧ row.length = q ∧ row.all valB = true ∧ DrR W w wi p w.heap.size ob lo0 #[.slice a1 n c1, .string ⟨#[121]⟩, u2, u3] ⟨names9 n, [121], R, Y⟩ vs (.slice a1 n c1) u2 u3 v_ row)
          case atStart => exact ⟨0, [], rfl, rfl, Nat.zero_le _, rfl, rfl, hC0⟩
          case round =>
            clear hC0
            obtain ⟨q, row, rfl, rfl, hq, hrw, hva, hC⟩ := hrel
            have HRW := Lib.hid hrw
            have HVA := Lib.hid hva
            have hrw9 : row.length ≤ 4 := by omega
            obtain ⟨ar, cr, hvr⟩ := owns_form hC.row
            subst hvr
            clear hrw hva
            by_cases hqm : q < n
            · have hq1 : (q : Int) < n := by omega
              have HC := Lib.hid hC
              clear hC
              go_wp2_with fail
              refine (l6SmallV W _ p HC.out.cur).mono ?_
              rintro e w2 ⟨⟨z, rfl, hz⟩, hc2, hg2⟩
              have HC2 := Lib.hid (HC.out.draw hc2 hg2)
              clear HC hc2 hg2
              go_wp2_with (at_builtin; refine wpList_append_own _ rfl _ _ 24 rfl lo0 3 iI (.int .i64 0) 1 8 Try.underlying24 gi gz0 gz1 gz2 rfl (by decide) _ _ _ rfl (HC2.out.row.alloc _) ⟨w2.heap.size, 0, none⟩ 1 1 [.int .i64 z] rfl rfl ?a1 ?b1 ?c1 ?d1 ?e1 ?_)
              try (case a1 => exact news_one)
              case b1 => first | (intro u hu; simp at hu; subst hu; rfl) | rfl
              case c1 => unfold maxLen; omega
              case d1 => omega
              case e1 => have := HC2.out.hi; (try simp); omega
              intro v4 w4 hown4 hg4 _
              have HC4 := Lib.hid ((HC2.out.laid (.cells #[.int .i64 z] 3)).app hg4 hown4)
              clear hown4 hg4 HC2
              go_wp2_with fail
              go_roundg (n - (q + 1))
              case measure => omega
              case rel => exact ⟨q + 1, row ++ [z], rfl, by go_num, by omega, by rw [List.length_append, HRW.out]; rfl, all_snoc9 HVA.out hz, HC4.out⟩
            · have hq1 : ¬ (q : Int) < n := by omega
              have hqn : q = n := by omega
              have HC := Lib.hid hC
              clear hC
              have hr2 : wr.ownsRow w.heap.size 24 1 u2 R.length vs := HC.out.st.own.2.1
              have p2 := cell_blk HC.out.st.box 2
              have f2 := free_blk HC.out.st.box 2
              have lp := blk_lt HC.out.st.box
              have hRlen : R.length ≤ 40 := by rw [HRl.out]; omega
              go_wp2_with (at_builtin; refine wpList_append_own _ rfl _ _ 32 rfl w.heap.size 24 iL (.slice none 0 0) 1 24 Try.underlying32 gj gy0 gy1 gy2 rfl (by decide) _ _ _ rfl (hr2.alloc _) ⟨wr.heap.size, 0, none⟩ 1 1 [.slice ar row.length cr] rfl rfl ?a2 ?b2 ?c2 ?d2 ?e2 ?_)
              try (case a2 => exact news_one)
              case b2 => first | (intro u hu; simp at hu; subst hu; rfl) | rfl
              case c2 => unfold maxLen; omega
              case d2 => omega
              case e2 => have := HC.out.st.grown.size; (try simp); omega
              intro v3 w3 hown3 hg3 _
              obtain ⟨a8, c8, hv3⟩ := owns_form hown3
              subst hv3
              have HP := Lib.hid ((HC.out.laid (.cells #[.slice ar row.length cr] 24)).push hg3 hown3)
              clear hown3 hg3 hr2 p2 f2 lp HC
              have d2 := cell_blk HP.out.box 2
              have e2 := free_blk HP.out.box 2
              have ld := blk_lt HP.out.box
              have HS : Hid (DrT W w (w3.setCell ⟨ob, 2, none⟩ (.slice a8 (R.length + 1) c8)) p w.heap.size ob #[.slice a1 n c1, .string ⟨#[121]⟩, (.slice a8 (R.length + 1) c8), u3] ⟨names9 n, [121], R ++ [row], Y⟩ (vs ++ [.slice ar row.length cr]) (.slice a1 n c1) (.slice a8 (R.length + 1) c8) u3) := Lib.hid (HP.out.set 2 (.slice a8 (R.length + 1) c8))
              clear HP
              go_wp2_with fail
              refine (l6SmallV W _ p HS.out.cur).mono ?_
              rintro e w4 ⟨⟨z2, rfl, hz2⟩, hc4, hg4⟩
              have HT := Lib.hid (HS.out.draw hc4 hg4)
              clear hc4 hg4 HS d2 e2 ld
              have hy3 : w4.ownsRow w.heap.size 3 1 u3 Y.length (intCells Y) := HT.out.own.2.2.2.1
              have q3 := cell_blk HT.out.box 3
              have g3 := free_blk HT.out.box 3
              have lq := blk_lt HT.out.box
              have hYlen : Y.length ≤ 40 := by rw [HYl.out]; omega
              go_wp2_with (at_builtin; refine wpList_append_own_at _ rfl _ _ 24 rfl w.heap.size 3 iI (.int .i64 0) 1 8 Try.underlying24 gi gz0 gz1 gz2 rfl (by decide) _ _ _ rfl (hy3.alloc _) ⟨w4.heap.size, 0, none⟩ 1 1 [.int .i64 z2] rfl rfl ?a3 ?b3 ?c3 ?d3 ?e3 ?_)
              try (case a3 => exact news_one)
              case b3 => first | (intro u hu; simp at hu; subst hu; rfl) | rfl
              case c3 => unfold maxLen; omega
              case d3 => omega
              case e3 => have := HT.out.grown.size; (try simp); omega
              intro v5 w9 hown9 hg9 _ hat9
              obtain ⟨gy, cy, hv5⟩ := Go.Joins.ownsRow_form hown9 (by omega)
              subst hv5
              have HZ := Lib.hid ((HT.out.laid (.cells #[.int .i64 z2] 3)).pushY hg9 hown9 (by
                rcases hat9 with h | h
                · exact Or.inl h.symm
                · exact Or.inr (by have e9 : gy = w4.heap.size + 1 := Option.some.inj h; rw [sz_alloc]; omega)))
              clear hown9 hg9 hat9 hy3 q3 g3 lq hYlen
              have d3 := cell_blk HZ.out.box 3
              have e3 := free_blk HZ.out.box 3
              have ld := blk_lt HZ.out.box
              go_wp2_with fail
              go_roundg (m - (j + 1))
              case measure => omega
              case rel => exact ⟨j + 1, R ++ [row], Y ++ [z2], vs ++ [.slice ar row.length cr], .slice a8 (R.length + 1) c8, .slice (some ⟨gy, 0, none⟩) (Y.length + 1) cy, rfl, by go_num, by omega, by rw [List.length_append, HRl.out]; rfl, by rw [List.length_append, HYl.out]; rfl, rowsR_snoc HRR.out (by rw [HRW.out]; exact hqn) HVA.out, all_snoc9 HYY.out hz2, HZ.out.set 3 _⟩
        · have hj1 : ¬ (j : Int) < m := by omega
          have hjm : j = m := by omega
          have o2 : wr.ownsRow w.heap.size 24 1 u2 R.length vs := hD.own.2.1
          have o3 : wr.ownsRow w.heap.size 3 1 u3 Y.length (intCells Y) := hD.own.2.2.2.1
          obtain ⟨a2, c2, h2⟩ := owns_form o2
          obtain ⟨a3, c3, h3⟩ := owns_form o3
          subst h2
          subst h3
          clear o2 o3
          have HOK : Hid (okT ⟨names9 n, [121], R, Y⟩ = true ∧ (names9 n).length ≤ 3) := Lib.hid ⟨okT_mk9 hn1 hn4 (by rw [HRl.out]; omega) (by rw [HRl.out, HYl.out]) HRR.out HYY.out, HN3.out⟩
          have HEX := Lib.hid (hD.exit (.slice a1 n c1) (.string ⟨#[121]⟩) (.slice a2 R.length c2) (.slice a3 Y.length c3))
          have p0 := cell_blk hD.res 0
          have p1 := cell_blk hD.res 1
          have p2 := cell_blk hD.res 2
          have p3 := cell_blk hD.res 3
          have f0 := free_blk hD.res 0
          have f1 := free_blk hD.res 1
          have f2 := free_blk hD.res 2
          have f3 := free_blk hD.res 3
          have lp := blk_lt hD.res
          have q0 := cell_blk hD.box 0
          have q1 := cell_blk hD.box 1
          have q2 := cell_blk hD.box 2
          have q3 := cell_blk hD.box 3
          have lq := blk_lt hD.box
          have hne := hD.ne
          clear hD hjm
          go_wp2_with fail
          refine bodyPost_ret (v := .agg #[.slice a1 n c1, .string ⟨#[121]⟩, .slice a2 R.length c2, .slice a3 Y.length c3]) ?_ rfl ⟨⟨names9 n, [121], R, Y⟩, vs, .slice a1 n c1, .slice a2 R.length c2, .slice a3 Y.length c3, rfl, HEX.out.1, HOK.out, HEX.out.2⟩
          rw [results_oneD rfl]
          go_simp
    | false =>
      go_wp2_with fail
      go_loopg [7, 8, 9, 10, 11] m (fun g_ i_ _ _ _ _ wr => ∃ (j : Nat) (R : List (List Int)) (Y : List Int) (vs : List Value) (u2 u3 : Value), g_ = m - j ∧ i_ = .int .i64 j ∧ j ≤ m ∧ R.length = j ∧ Y.length = j ∧ RowsR n R ∧ Y.all valB = true ∧ DrT W w wr p w.heap.size ob #[.slice a1 n c1, .string ⟨#[121]⟩, u2, u3] ⟨names9 n, [121], R, Y⟩ vs (.slice a1 n c1) u2 u3)
      case atStart => exact ⟨0, [], [], [], _, _, rfl, rfl, Nat.zero_le _, rfl, rfl, by simp [RowsR], rfl, HD7.out⟩
      case round =>
        clear HD7
        obtain ⟨j, R, Y, vs, u2, u3, rfl, rfl, hj, hRl, hYl, hRR, hYY, hD⟩ := hrel
        have HRR := Lib.hid hRR
        have HYY := Lib.hid hYY
        have HRl := Lib.hid hRl
        have HYl := Lib.hid hYl
        clear hRR hYY hRl hYl
        by_cases hlt : j < m
        · have hj1 : (j : Int) < m := by omega
          obtain ⟨lo0, hC0⟩ : ∃ lo0, DrR W w (wr.alloc (.cells #[] 3)) p w.heap.size ob lo0 #[.slice a1 n c1, .string ⟨#[121]⟩, u2, u3] ⟨names9 n, [121], R, Y⟩ vs (.slice a1 n c1) u2 u3 (.slice (some ⟨wr.heap.size, 0, none⟩) 0 0) [] := ⟨_, hD.start⟩
          clear hD
          go_wp2_with fail
          go_loopg [8, 9, 10] n (fun g_ v_ k_ _ wi => ∃ (q : Nat) (row : List Int), g_ = n - q ∧ k_ = .int .i64 q ∧ q ≤ n ∧ row.length = q ∧ row.all valB = true ∧ (∀ x9 : Int, row[0]? = some x9 → -1500 ≤ x9 ∧ x9 ≤ 1500) ∧ DrR W w wi p w.heap.size ob lo0 #[.slice a1 n c1, .string ⟨#[121]⟩, u2, u3] ⟨names9 n, [121], R, Y⟩ vs (.slice a1 n c1) u2 u3 v_ row)
          case atStart => exact ⟨0, [], rfl, rfl, Nat.zero_le _, rfl, rfl, by simp, hC0⟩
          case round =>
            clear hC0
            obtain ⟨q, row, rfl, rfl, hq, hrw, hva, hfb, hC⟩ := hrel
            have HRW := Lib.hid hrw
            have HVA := Lib.hid hva
            have hrw9 : row.length ≤ 4 := by omega
            have HFB := Lib.hid hfb
            obtain ⟨ar, cr, hvr⟩ := owns_form hC.row
            subst hvr
            clear hrw hva hfb
            by_cases hqm : q < n
            · have hq1 : (q : Int) < n := by omega
              have HC := Lib.hid hC
              clear hC
              go_wp2_with fail
              refine (l6SmallV W _ p HC.out.cur).mono ?_
              rintro e w2 ⟨⟨z, rfl, hz⟩, hc2, hg2⟩
              have HC2 := Lib.hid (HC.out.draw hc2 hg2)
              clear HC hc2 hg2
              go_wp2_with fail
              refine (l1Below W _ p 7 (by omega) (by omega) HC2.out.cur).mono ?_
              rintro e w3 ⟨⟨k7, hk7, rfl⟩, hc3, hg3⟩
              have HC3 := Lib.hid (HC2.out.draw hc3 hg3)
              have hzz : valB (500 * ((k7 : Int) - 3)) = true := valI (by omega) (by omega)
              have hz15 : -1500 ≤ 500 * ((k7 : Int) - 3) ∧ 500 * ((k7 : Int) - 3) ≤ 1500 := by omega
              clear HC2 hc3 hg3 hz
              go_wp2_with (at_builtin; refine wpList_append_own _ rfl _ _ 24 rfl lo0 3 iI (.int .i64 0) 1 8 Try.underlying24 gi gz0 gz1 gz2 rfl (by decide) _ _ _ rfl (HC3.out.row.alloc _) ⟨w3.heap.size, 0, none⟩ 1 1 [.int .i64 (500 * ((k7 : Int) - 3))] rfl rfl ?a4 ?b4 ?c4 ?d4 ?e4 ?_)
              try (case a4 => exact news_one)
              case b4 => first | (intro u hu; simp at hu; subst hu; rfl) | rfl
              case c4 => unfold maxLen; omega
              case d4 => omega
              case e4 => have := HC3.out.hi; (try simp); omega
              intro v4 w4 hown4 hg4 _
              have HC4 := Lib.hid ((HC3.out.laid (.cells #[.int .i64 (500 * ((k7 : Int) - 3))] 3)).app hg4 hown4)
              clear hown4 hg4 HC3
              go_wp2_with fail
              go_roundg (n - (q + 1))
              case measure => omega
              case rel => exact ⟨q + 1, row ++ [(500 * ((k7 : Int) - 3))], rfl, by go_num, by omega, by rw [List.length_append, HRW.out]; rfl, all_snoc9 HVA.out hzz, fb_snoc9 HFB.out hz15, HC4.out⟩
            · have hq1 : ¬ (q : Int) < n := by omega
              have hqn : q = n := by omega
              have HC := Lib.hid hC
              clear hC
              have hr2 : wr.ownsRow w.heap.size 24 1 u2 R.length vs := HC.out.st.own.2.1
              have p2 := cell_blk HC.out.st.box 2
              have f2 := free_blk HC.out.st.box 2
              have lp := blk_lt HC.out.st.box
              have hRlen : R.length ≤ 40 := by rw [HRl.out]; omega
              go_wp2_with (at_builtin; refine wpList_append_own _ rfl _ _ 32 rfl w.heap.size 24 iL (.slice none 0 0) 1 24 Try.underlying32 gj gy0 gy1 gy2 rfl (by decide) _ _ _ rfl (hr2.alloc _) ⟨wr.heap.size, 0, none⟩ 1 1 [.slice ar row.length cr] rfl rfl ?a5 ?b5 ?c5 ?d5 ?e5 ?_)
              try (case a5 => exact news_one)
              case b5 => first | (intro u hu; simp at hu; subst hu; rfl) | rfl
              case c5 => unfold maxLen; omega
              case d5 => omega
              case e5 => have := HC.out.st.grown.size; (try simp); omega
              intro v3 w3 hown3 hg3 _
              obtain ⟨a8, c8, hv3⟩ := owns_form hown3
              subst hv3
              have HP := Lib.hid ((HC.out.laid (.cells #[.slice ar row.length cr] 24)).push hg3 hown3)
              clear hown3 hg3 hr2 p2 f2 lp HC
              have d2 := cell_blk HP.out.box 2
              have e2 := free_blk HP.out.box 2
              have ld := blk_lt HP.out.box
              have HS : Hid (DrT W w (w3.setCell ⟨ob, 2, none⟩ (.slice a8 (R.length + 1) c8)) p w.heap.size ob #[.slice a1 n c1, .string ⟨#[121]⟩, (.slice a8 (R.length + 1) c8), u3] ⟨names9 n, [121], R ++ [row], Y⟩ (vs ++ [.slice ar row.length cr]) (.slice a1 n c1) (.slice a8 (R.length + 1) c8) u3) := Lib.hid (HP.out.set 2 (.slice a8 (R.length + 1) c8))
              clear HP
              go_wp2_with fail
              refine (l6SmallV W _ p HS.out.cur).mono ?_
              rintro e w4 ⟨⟨z2, rfl, hz2⟩, hc4, hg4⟩
              have HT := Lib.hid (HS.out.draw hc4 hg4)
              clear hc4 hg4 HS d2 e2 ld
              go_wp2_with fail
              refine (l1Once W _ p 4 (by omega) (by omega) HT.out.cur).mono ?_
              rintro e w5 ⟨⟨b4, rfl⟩, hc5, hg5⟩
              have HT5 := Lib.hid (HT.out.draw hc5 hg5)
              clear hc5 hg5 HT
              go_upto_if 68 with fail
              go_cut [11] (fun v11 wx => ∃ z3 : Int, v11 = .int .i64 z3 ∧ valB z3 = true ∧ DrT W w wx p w.heap.size ob #[.slice a1 n c1, .string ⟨#[121]⟩, (.slice a8 (R.length + 1) c8), u3] ⟨names9 n, [121], R ++ [row], Y⟩ (vs ++ [.slice ar row.length cr]) (.slice a1 n c1) (.slice a8 (R.length + 1) c8) u3)
              case first =>
                cases b4 with
                | true =>
                  go_wp2_with fail
                  go_meet
                  case rel => exact ⟨z2, rfl, hz2, HT5.out⟩
                | false =>
                  have hvl : vs.length = R.length := by
                    have := HT5.out.own.2.2.1.1
                    simpa using this
                  have hrow0 := HT5.out.own.2.2.1.2.1 R.length (.slice ar row.length cr) (intCells row) (by rw [← hvl]; simp) (by simp)
                  rw [intCells_len] at hrow0
                  obtain ⟨gr, cr2, hf⟩ := Go.Joins.ownsRow_form hrow0 (by rw [HRW.out]; omega)
                  injection hf with hf hg8 hh8
                  subst hf
                  clear hg8 hh8
                  obtain ⟨x0, hx0⟩ : ∃ x, row[0]? = some x := ⟨_, List.getElem?_eq_getElem (by rw [HRW.out]; omega)⟩
                  have hx15 := HFB.out x0 hx0
                  have HX0 : Hid ((intCells row)[0]? = some (.int .i64 x0)) := Lib.hid (intCells_at hx0)
                  have hrl0 : (0 : Int) < row.length := by rw [HRW.out]; omega
                  have hrl1 : 0 < row.length := by rw [HRW.out]; omega
                  have HRL0 : Hid (0 < row.length) := Lib.hid (by rw [HRW.out]; omega)
                  have hS0 : (fun w' => w'.cell? ⟨gr, 0, none⟩ = some (.int .i64 x0) ∧ w'.ownsRow w.heap.size 3 1 (.slice (some ⟨gr, 0, none⟩) row.length cr) row.length (intCells row) ∧ DrT W w w' p w.heap.size ob #[.slice a1 n c1, .string ⟨#[121]⟩, (.slice a8 (R.length + 1) c8), u3] ⟨names9 n, [121], R ++ [row], Y⟩ (vs ++ [.slice (some ⟨gr, 0, none⟩) row.length cr]) (.slice a1 n c1) (.slice a8 (R.length + 1) c8) u3) w5.drew := ⟨(hrow0.cellAt 0 (by have := HRL0.out; omega)).trans HX0.out, owns_bl hrow0 ((Below.refl _ _).drew), HT5.out.draw HT5.out.cur.drew (grownBy_drew (grownBy_refl _ _))⟩
                  have hwA : IntKind.i64.wrap (x0 * 2) = x0 * 2 := by rw [IntKind.wrap_i64]; omega
                  clear hx0 hvl hrow0
                  go_upto_region 21 with fail
                  refine wp_region_noPanic ?_
                  refine wp_region_held_drew (S := (fun w' => w'.cell? ⟨gr, 0, none⟩ = some (.int .i64 x0) ∧ w'.ownsRow w.heap.size 3 1 (.slice (some ⟨gr, 0, none⟩) row.length cr) row.length (intCells row) ∧ DrT W w w' p w.heap.size ob #[.slice a1 n c1, .string ⟨#[121]⟩, (.slice a8 (R.length + 1) c8), u3] ⟨names9 n, [121], R ++ [row], Y⟩ (vs ++ [.slice (some ⟨gr, 0, none⟩) row.length cr]) (.slice a1 n c1) (.slice a8 (R.length + 1) c8) u3)) (by kernel_rfl) hS0 (fun hHeld => ?_)
                  refine wpAnyH_take (i := 0) (oi := ?o1) (v := ?v1) ?hi1 ?hs1 ?hf1 ?hr1 ?hQ1 ?hy1 ?hS1 ?rest1
                  case hi1 => rfl
                  case hs1 => kernel_rfl
                  case hf1 => kernel_rfl
                  case hr1 => kernel_rfl
                  case hQ1 => exact fun _ _ _ h => h
                  case hS1 => assumption
                  case hy1 =>
                    refine Or.inl ⟨by kernel_rfl, ?_⟩
                    intro w' hSw
                    (try dsimp only at hSw)
                    go_simp
                    (try rfl)
                  (try simp only [List.getElem_toArray, List.getElem_cons_zero, Act.put, List.setIfInBounds_toArray, List.set_cons_zero, List.set_cons_succ])
                  refine wpAnyH_take (i := 1) (oi := ?o2) (v := ?v2) ?hi2 ?hs2 ?hf2 ?hr2 ?hQ2 ?hy2 ?hS2 ?rest2
                  case hi2 => rfl
                  case hs2 => kernel_rfl
                  case hf2 => kernel_rfl
                  case hr2 => kernel_rfl
                  case hQ2 => exact fun _ _ _ h => h
                  case hS2 => assumption
                  case hy2 =>
                    refine Or.inl ⟨by kernel_rfl, ?_⟩
                    intro w' hSw
                    (try dsimp only at hSw)
                    go_simp
                    (try rfl)
                  (try simp only [List.getElem_toArray, List.getElem_cons_succ, List.getElem_cons_zero, Act.put, List.setIfInBounds_toArray, List.set_cons_zero, List.set_cons_succ])
                  refine wpAnyH_take (i := 2) (oi := ?o3) (v := ?v3) ?hi3 ?hs3 ?hf3 ?hr3 ?hQ3 ?hy3 ?hS3 ?rest3
                  case hi3 => rfl
                  case hs3 => kernel_rfl
                  case hf3 => kernel_rfl
                  case hr3 => kernel_rfl
                  case hQ3 => exact fun _ _ _ h => h
                  case hS3 => assumption
                  case hy3 =>
                    refine Or.inl ⟨by kernel_rfl, ?_⟩
                    intro w' hSw
                    (try dsimp only at hSw)
                    go_simp
                    (try rfl)
                  (try simp only [List.getElem_toArray, List.getElem_cons_succ, List.getElem_cons_zero, Act.put, List.setIfInBounds_toArray, List.set_cons_zero, List.set_cons_succ])
                  refine wpAnyH_take (i := 3) (oi := ?o4) (v := ?v4) ?hi4 ?hs4 ?hf4 ?hr4 ?hQ4 ?hy4 ?hS4 ?rest4
                  case hi4 => rfl
                  case hs4 => kernel_rfl
                  case hf4 => kernel_rfl
                  case hr4 => kernel_rfl
                  case hQ4 => exact fun _ _ _ h => h
                  case hS4 => assumption
                  case hy4 =>
                    refine Or.inl ⟨by kernel_rfl, ?_⟩
                    intro w' hSw
                    (try dsimp only at hSw)
                    go_simp
                    (try rfl)
                  (try simp only [List.getElem_toArray, List.getElem_cons_succ, List.getElem_cons_zero, Act.put, List.setIfInBounds_toArray, List.set_cons_zero, List.set_cons_succ])
                  refine wpAnyH_take (i := 4) (oi := ?o5) (v := ?v5) ?hi5 ?hs5 ?hf5 ?hr5 ?hQ5 ?hy5 ?hS5 ?rest5
                  case hi5 => rfl
                  case hs5 => kernel_rfl
                  case hf5 => kernel_rfl
                  case hr5 => kernel_rfl
                  case hQ5 => exact fun _ _ _ h => h
                  case hS5 => assumption
                  case hy5 =>
                    refine Or.inl ⟨by kernel_rfl, ?_⟩
                    intro w' hSw
                    (try dsimp only at hSw)
                    go_simp
                    (try rfl)
                  (try simp only [List.getElem_toArray, List.getElem_cons_succ, List.getElem_cons_zero, Act.put, List.setIfInBounds_toArray, List.set_cons_zero, List.set_cons_succ])
                  refine wpAnyH_ready (rs := [5]) (by kernel_rfl) (by simp) ?_
                  refine AllReadyH.cons rfl (fun K hK => ?_) AllReadyH.nil
                  go_simp
                  refine (l1Below W _ p 5 (by omega) (by omega) hHeld.2.2.cur).mono ?_
                  rintro e w6 ⟨⟨k5, hk5, rfl⟩, hc6, hg6⟩
                  have hwB : IntKind.i64.wrap (100 * (k5 : Int)) = 100 * (k5 : Int) := by rw [IntKind.wrap_i64]; omega
                  have hwC : IntKind.i64.wrap (x0 * 2 + 100 * (k5 : Int)) = x0 * 2 + 100 * (k5 : Int) := by rw [IntKind.wrap_i64]; omega
                  have hrow6 := owns_drawI hHeld.2.1 hHeld.2.2.cur hg6
                  refine hK.out _ _ ?_ (fun hHeld => ?_)
                  · exact ⟨(hrow6.cellAt 0 (by have := HRL0.out; omega)).trans HX0.out, hrow6, hHeld.2.2.draw hc6 hg6⟩
                  clear hK K
                  (try simp only [List.getElem_toArray, List.getElem_cons_succ, List.getElem_cons_zero, Act.put, List.setIfInBounds_toArray, List.set_cons_zero, List.set_cons_succ])
                  clear hrow6 hc6 hg6
                  refine wpAnyH_ready (rs := [6]) (by kernel_rfl) (by simp) ?_
                  refine AllReadyH.cons rfl (fun K hK => ?_) AllReadyH.nil
                  go_simp
                  refine hK.out _ _ ?_ (fun hHeld => ?_)
                  · exact hHeld
                  clear hK K
                  (try simp only [List.getElem_toArray, List.getElem_cons_succ, List.getElem_cons_zero, Act.put, List.setIfInBounds_toArray, List.set_cons_zero, List.set_cons_succ])
                  refine wpAnyH_ready (rs := [7]) (by kernel_rfl) (by simp) ?_
                  refine AllReadyH.cons rfl (fun K hK => ?_) AllReadyH.nil
                  go_simp
                  refine hK.out _ _ ?_ (fun hHeld => ?_)
                  · exact hHeld
                  clear hK K
                  (try simp only [List.getElem_toArray, List.getElem_cons_succ, List.getElem_cons_zero, Act.put, List.setIfInBounds_toArray, List.set_cons_zero, List.set_cons_succ])
                  refine wpAnyH_ready (rs := [8]) (by kernel_rfl) (by simp) ?_
                  refine AllReadyH.cons rfl (fun K hK => ?_) AllReadyH.nil
                  go_simp
                  refine hK.out _ _ ?_ (fun hHeld => ?_)
                  · exact hHeld
                  clear hK K
                  (try simp only [List.getElem_toArray, List.getElem_cons_succ, List.getElem_cons_zero, Act.put, List.setIfInBounds_toArray, List.set_cons_zero, List.set_cons_succ])
                  refine wpAnyH_done (by kernel_rfl) ?_ _
                  refine NoPanic.normal ?_
                  go_wp2_with fail
                  go_meet
                  case rel => exact ⟨x0 * 2 + 100 * (k5 : Int), rfl, valI (by omega) (by omega), hHeld.2.2⟩
              case rest =>
                obtain ⟨z3, rfl, hz3, hDx⟩ := hcut
                have HTx := Lib.hid hDx
                clear hDx HT5 hz2
                have hy3 : wc.ownsRow w.heap.size 3 1 u3 Y.length (intCells Y) := HTx.out.own.2.2.2.1
                have q3 := cell_blk HTx.out.box 3
                have g3 := free_blk HTx.out.box 3
                have lq := blk_lt HTx.out.box
                have hYlen : Y.length ≤ 40 := by rw [HYl.out]; omega
                go_wp2_with (at_builtin; refine wpList_append_own_at _ rfl _ _ 24 rfl w.heap.size 3 iI (.int .i64 0) 1 8 Try.underlying24 gi gz0 gz1 gz2 rfl (by decide) _ _ _ rfl (hy3.alloc _) ⟨wc.heap.size, 0, none⟩ 1 1 [.int .i64 z3] rfl rfl ?a6 ?b6 ?c6 ?d6 ?e6 ?_)
                try (case a6 => exact news_one)
                case b6 => first | (intro u hu; simp at hu; subst hu; rfl) | rfl
                case c6 => unfold maxLen; omega
                case d6 => omega
                case e6 => have := HTx.out.grown.size; (try simp); omega
                intro v5 w9 hown9 hg9 _ hat9
                obtain ⟨gy, cy, hv5⟩ := Go.Joins.ownsRow_form hown9 (by omega)
                subst hv5
                have HZ := Lib.hid ((HTx.out.laid (.cells #[.int .i64 z3] 3)).pushY hg9 hown9 (by
                  rcases hat9 with h | h
                  · exact Or.inl h.symm
                  · exact Or.inr (by have e9 : gy = wc.heap.size + 1 := Option.some.inj h; rw [sz_alloc]; omega)))
                clear hown9 hg9 hat9 hy3 q3 g3 lq hYlen
                have d3 := cell_blk HZ.out.box 3
                have e3 := free_blk HZ.out.box 3
                have ld := blk_lt HZ.out.box
                go_wp2_with fail
                go_roundg (m - (j + 1))
                case measure => omega
                case rel => exact ⟨j + 1, R ++ [row], Y ++ [z3], vs ++ [.slice ar row.length cr], .slice a8 (R.length + 1) c8, .slice (some ⟨gy, 0, none⟩) (Y.length + 1) cy, rfl, by go_num, by omega, by rw [List.length_append, HRl.out]; rfl, by rw [List.length_append, HYl.out]; rfl, rowsR_snoc HRR.out (by rw [HRW.out]; exact hqn) HVA.out, all_snoc9 HYY.out hz3, HZ.out.set 3 _⟩
        · have hj1 : ¬ (j : Int) < m := by omega
          have hjm : j = m := by omega
          have o2 : wr.ownsRow w.heap.size 24 1 u2 R.length vs := hD.own.2.1
          have o3 : wr.ownsRow w.heap.size 3 1 u3 Y.length (intCells Y) := hD.own.2.2.2.1
          obtain ⟨a2, c2, h2⟩ := owns_form o2
          obtain ⟨a3, c3, h3⟩ := owns_form o3
          subst h2
          subst h3
          clear o2 o3
          have HOK : Hid (okT ⟨names9 n, [121], R, Y⟩ = true ∧ (names9 n).length ≤ 3) := Lib.hid ⟨okT_mk9 hn1 hn4 (by rw [HRl.out]; omega) (by rw [HRl.out, HYl.out]) HRR.out HYY.out, HN3.out⟩
          have HEX := Lib.hid (hD.exit (.slice a1 n c1) (.string ⟨#[121]⟩) (.slice a2 R.length c2) (.slice a3 Y.length c3))
          have p0 := cell_blk hD.res 0
          have p1 := cell_blk hD.res 1
          have p2 := cell_blk hD.res 2
          have p3 := cell_blk hD.res 3
          have f0 := free_blk hD.res 0
          have f1 := free_blk hD.res 1
          have f2 := free_blk hD.res 2
          have f3 := free_blk hD.res 3
          have lp := blk_lt hD.res
          have q0 := cell_blk hD.box 0
          have q1 := cell_blk hD.box 1
          have q2 := cell_blk hD.box 2
          have q3 := cell_blk hD.box 3
          have lq := blk_lt hD.box
          have hne := hD.ne
          clear hD hjm
          go_wp2_with fail
          refine bodyPost_ret (v := .agg #[.slice a1 n c1, .string ⟨#[121]⟩, .slice a2 R.length c2, .slice a3 Y.length c3]) ?_ rfl ⟨⟨names9 n, [121], R, Y⟩, vs, .slice a1 n c1, .slice a2 R.length c2, .slice a3 Y.length c3, rfl, HEX.out.1, HOK.out, HEX.out.2⟩
          rw [results_oneD rfl]
          go_simp
end Go.Proofs.Ytgknkjiifcnkpaa
