/-
  What is wrong with the names of a table, the program's way.
  The walk of the exact law on the reading of tables; the contracts are hypotheses.
  What is wrong with the names of a table: the reference's way.
  The text of a small right table: plain mathematics.
  Whether a table is right, the program's way.
-/
import Derived.Test.YticeagjonfifbaaGreatDoorI9N
import Derived.Test.YticeagjonfifbaaGreatDoorPk7
import Derived.Test.YticeagjonfifbaaGreatDoorPk5
import Derived.Test.YticeagjonfifbaaGreatDoorTabO
import Derived.Test.YticeagjonfifbaaGreatDoorPk1
import Derived.Test.YticeagjonfifbaaGreatDoorPk14
namespace Go.Proofs.YticeagjonfifbaaGreatDoor
open Go.RowKit

/-- A fault as an error; none is nil. -/
def errV9 (c a k : Nat) : Value := if c = 0 then .nilIface else .iface 99 (.agg #[.int .i64 c, .int .i64 a, .int .i64 k])
theorem errV9_nil (a k : Nat) : errV9 0 a k = .nilIface := rfl
theorem errV9_some {c : Nat} (h : ¬ c = 0) (a k : Nat) : errV9 c a k = .iface 99 (.agg #[.int .i64 c, .int .i64 a, .int .i64 k]) := by rw [errV9, if_neg h]
theorem ret_err9 {c j a b : Nat} (h : (a, b) = (c, j)) (v : Value) (hv : v = errV9 c 0 j) : Ending.returned v = .returned (errV9 a 0 b) := by
  injection h with h1 h2
  subst h1
  subst h2
  rw [hv]
set_option maxRecDepth 100000 in
set_option maxHeartbeats 2000000 in
theorem index9_some (w : World) (a : Option Addr) (c : Nat) (L : List (List UInt8)) (p : List UInt8) (hl : L.length ≤ 9223372036854775807)
    (hc : ∀ (q : Nat) r, L[q]? = some r → ∃ b off, a = some ⟨b, off, none⟩ ∧ w.cell? ⟨b, off + q, none⟩ = some (.string ⟨r.toArray⟩)) :
    Calls Tryz.prog 110 #[.slice a L.length c, .string ⟨p.toArray⟩] w fun e w' => (∃ z : Int, e = .returned (.int .i64 z) ∧ decide (0 ≤ z) = hasB L p) ∧ ∃ k, w' = w.drewN k := by
  have HC := Lib.hid hc
  clear hc
  obtain ⟨n, hn⟩ : ∃ n : Nat, L.length = n := ⟨_, rfl⟩
  rw [hn] at hl ⊢
  have HE := Lib.hid hn
  clear hn
  go_enter Tryz.func110, Tryz.ntmps110
  go_wp2_with fail
  go_loopg [5, 8] n (fun g _ i wr => ∃ j z : Nat, j ≤ n ∧ g = n - j ∧ i = .int .i64 j ∧ wr = w.drewN z ∧ ¬ p ∈ L.take j)
  case atStart => exact ⟨0, 0, Nat.zero_le _, rfl, rfl, rfl, by simp⟩
  case round =>
    obtain ⟨j, z, hj, rfl, rfl, rfl, ht⟩ := hrel
    have HT := Lib.hid ht
    clear ht
    by_cases hlt : j < n
    · have hj1 : (j : Int) < n := by omega
      have hj0 : (0 : Int) ≤ j := by omega
      obtain ⟨x, hx⟩ : ∃ r, L[j]? = some r := ⟨_, List.getElem?_eq_getElem (by rw [HE.out]; exact hlt)⟩
      obtain ⟨b, off, rfl, hcx⟩ := HC.out j x hx
      have HX := Lib.hid hx
      have g1 : (w.drewN z).cell? ⟨b, off + j, none⟩ = some (.string ⟨x.toArray⟩) := hcx
      obtain ⟨wq, hwq⟩ : ∃ wq, w.drewN z = wq := ⟨_, rfl⟩
      rw [hwq] at g1 ⊢
      have HW := Lib.hid hwq
      clear hwq hcx hx
      by_cases hxx : p = x
      · subst hxx
        go_wp2_with fail
        go_ret
        exact ⟨⟨_, rfl, by rw [hasB_yes HX.out, decide_eq_true hj0]⟩, _, HW.out.symm⟩
      · have HXX := Lib.hid (fun e : x = p => hxx e.symm)
        have hne : (p == x) = false := beq_eq_false_iff_ne.2 hxx
        have hne2 := str_ne hxx
        go_wp2_with fail
        go_roundg (n - (j + 1))
        case measure => omega
        case rel => exact ⟨j + 1, _, by omega, rfl, by go_num, HW.out.symm, notmem_succ HX.out HT.out HXX.out⟩
    · obtain rfl : j = n := by omega
      have hj1 : ¬ (j : Int) < j := by omega
      have HN : Hid (¬ p ∈ L) := Lib.hid (by
        have h := HT.out
        rwa [List.take_of_length_le (by rw [HE.out]; exact Nat.le_refl _)] at h)
      go_wp2_with fail
      go_ret
      exact ⟨⟨_, rfl, (hasB_no HN.out).symm⟩, _, rfl⟩
set_option maxRecDepth 100000 in
theorem contains9 (w : World) (v : Value) (L : List (List UInt8)) (p : List UInt8) (h : StrRow w v L) (r : Bool) (hr : hasB L p = r) :
    Calls Tryz.prog 84 #[v, .string ⟨p.toArray⟩] w fun e w' => e = .returned (.bool r) ∧ Below w.heap.size w w' := by
  obtain ⟨a, c, rfl, hl, hc⟩ := sRow_cells h
  have HC := Lib.hid (index9_some w a c L p hl hc)
  clear hc h
  go_enter Tryz.func84, Tryz.ntmps84
  go_wp2_with fail
  refine HC.out.mono ?_
  rintro e w1 ⟨⟨z, rfl, hz⟩, q, rfl⟩
  have HZ := Lib.hid (hz.trans hr)
  clear hz
  go_wp2_with fail
  go_ret
  exact ⟨ret_bool9 HZ.out, below_drewN2 (Below.refl _ _) q⟩

set_option maxRecDepth 100000 in
set_option maxHeartbeats 2000000 in
/-- WHAT IS WRONG WITH THE NAMES. -/
theorem implHead9 (v : Value) (L : List (List UInt8)) (w : World) (h : StrRow w v L) (hnl : ∀ p ∈ L, p.length ≤ 9223372036854775807) :
    Calls Tryz.prog 30 #[v] w fun e w' => e = .returned (errV9 (headF L).1 0 (headF L).2) ∧ Below w.heap.size w w' := by
  have P1 := Lib.hid h
  obtain ⟨a1, c1, rfl, hl1, hf1⟩ := sRow_cells h
  have HF1 := Lib.hid hf1
  obtain ⟨n, hn⟩ : ∃ n : Nat, L.length = n := ⟨_, rfl⟩
  rw [hn] at hl1 P1 ⊢
  obtain ⟨b1, hb1⟩ : ∃ b, inZ (n : Int) 2 5 = b := ⟨_, rfl⟩
  have HO : Hid (headF L = if b1 = true then headG L n 0 else (7, 0)) := Lib.hid (by rw [headF, hn, hb1])
  have B1 := Lib.hid hb1
  have HN := Lib.hid hn
  have HNL := Lib.hid hnl
  clear hb1 hn hnl hf1 h
  go_enter Tryz.func30, Tryz.ntmps30
  go_wp2_with fail
  refine (inRange9 _ _ _ _).mono ?_
  rintro e w1 ⟨rfl, rfl⟩
  rw [B1.out]
  cases b1 with
  | false =>
    go_wp2_with fail
    go_ret
    exact ⟨ret_err9 (c := 7) (j := 0) (by rw [HO.out]; rfl) _ rfl, Below.refl _ _⟩
  | true =>
    have hn4 := inZ_iff.1 B1.out
    have HOT : Hid (headF L = headG L n 0) := Lib.hid HO.out
    clear HO
    go_wp2_with fail
    go_loopg [3, 4, 14] n (fun g _ _ i wr => ∃ j : Nat, j ≤ n ∧ g = n - j ∧ i = .int .i64 j ∧ headF L = headG L (n - j) j ∧ Below w.heap.size w wr)
    case atStart => exact ⟨0, Nat.zero_le _, rfl, rfl, HOT.out, Below.refl _ _⟩
    case round =>
      obtain ⟨j, hj, rfl, rfl, hg, hB⟩ := hrel
      have HG := Lib.hid hg
      have HB := Lib.hid hB
      clear hg hB
      by_cases hlt : j < n
      · have hj1 : (j : Int) < n := by omega
        have hj0 : (0 : Int) ≤ j := by omega
        obtain ⟨p, hp⟩ : ∃ r, L[j]? = some r := ⟨_, List.getElem?_eq_getElem (by rw [HN.out]; exact hlt)⟩
        have hpl := HNL.out p (List.mem_of_getElem? hp)
        have hcap := sRow_cap P1.out (by omega)
        obtain ⟨b, off, rfl, hcp⟩ := HF1.out j p hp
        have hc1 := (HB.out.cell (p := ⟨b, off + j, none⟩) (World.block_lt_of_cell? w _ hcp)).trans hcp
        obtain ⟨b5, hb5⟩ : ∃ b, nameB p = b := ⟨_, rfl⟩
        obtain ⟨b6, hb6⟩ : ∃ b, hasB (L.take j) p = b := ⟨_, rfl⟩
        have HP := Lib.hid hp
        have B5 := Lib.hid hb5
        have B6 := Lib.hid hb6
        have KN : Hid (∀ w, Calls Tryz.prog 83 #[.string ⟨p.toArray⟩] w fun e w' => e = .returned (.bool b5) ∧ Below w.heap.size w w') := Lib.hid (fun w => (implName ⟨p.toArray⟩ w (by rw [Lib.size_eq]; exact hpl)).mono fun e w' ⟨he, hB⟩ => ⟨by rw [he, ← hb5], hB⟩)
        clear hp hb5 hb6 hcp
        have hjc : (j : Int) ≤ c1 := by omega
        go_wp2_with fail
        refine (KN.out _).mono ?_
        rintro e w2 ⟨rfl, hB2⟩
        have HB2 := Lib.hid (bt HB.out hB2)
        clear hB2 HB
        cases b5 with
        | false =>
          go_wp2_with fail
          go_ret
          exact ⟨ret_err9 (c := 5) (j := j) (by rw [HG.out, headG_bad1 hlt HP.out B5.out]) _ rfl, HB2.out⟩
        | true =>
          go_wp2_with fail
          refine (contains9 _ _ (L.take j) p ((sRow_take P1.out (by omega) HN.out c1 (by omega)).below HB2.out) b6 B6.out).mono ?_
          rintro e w3 ⟨rfl, hB3⟩
          have HB3 := Lib.hid (bt HB2.out hB3)
          clear hB3 HB2
          cases b6 with
          | true =>
            go_wp2_with fail
            go_ret
            exact ⟨ret_err9 (c := 6) (j := j) (by rw [HG.out, headG_bad2 hlt HP.out B5.out B6.out]) _ rfl, HB3.out⟩
          | false =>
            go_wp2_with fail
            go_roundg (n - (j + 1))
            case measure => omega
            case rel => exact ⟨j + 1, by omega, rfl, by go_num, by rw [HG.out, headG_next hlt HP.out B5.out B6.out], HB3.out⟩
      · have hj1 : ¬ (j : Int) < n := by omega
        go_wp2_with fail
        go_ret
        exact ⟨ret_err9 (c := 0) (j := 0) (by rw [HG.out, show n - j = 0 by omega]; rfl) _ rfl, HB.out⟩
end Go.Proofs.YticeagjonfifbaaGreatDoor
namespace Go.Proofs.YticeagjonfifbaaGreatDoor
open Go.RowKit

/-- What a reading answers, at a given table and fault: the table lies in memory of its own. -/
def RtOwn (T : Tab) (c i k : Nat) (B : Nat) (e : Ending) (w' : World) : Prop :=
  ∃ vs u1 u2 u3, e = .returned (.tuple #[.agg #[u1, .string ⟨T.y.toArray⟩, u2, u3], .agg #[.int .i64 (c : Nat), .int .i64 (i : Nat), .int .i64 (k : Nat)]]) ∧ TabOwn w' B T vs u1 u2 u3
/-- What the program is to answer, in every world behind w. -/
def ImplReadT (w : World) : Prop := ∀ (wz : World), Below w.heap.size w wz → ∀ (s : ByteArray) (T : Tab) (c i k : Nat), s.size ≤ 1048576 → readT s.data.toList = (T, c, i, k) → Calls Tryz.prog 11 #[.string s] wz fun e w' => RtOwn T c i k wz.heap.size e w' ∧ Below wz.heap.size wz w'
/-- The same of the reference: the table can be read. -/
def RtAt (T : Tab) (c i k : Nat) (e : Ending) (w' : World) : Prop := ∃ u1 u2 u3, e = .returned (.tuple #[.agg #[u1, .string ⟨T.y.toArray⟩, u2, u3], .agg #[.int .i64 (c : Nat), .int .i64 (i : Nat), .int .i64 (k : Nat)]]) ∧ TabRow w' T u1 u2 u3
def SpecReadT : Prop := ∀ (s : ByteArray) (w : World) (T : Tab) (c i k : Nat), readT s.data.toList = (T, c, i, k) → Calls Tryz.prog 15 #[.string s] w fun e w' => RtAt T c i k e w' ∧ Below w.heap.size w w'
theorem marksLI_mem9 : ∀ (ns : List Nat) (k : Nat), ∀ r ∈ marksLI k ns, r.length ∈ ns
  | [], _, r, h => by simp [marksLI] at h
  | n :: t, k, r, h => by
    simp only [marksLI, List.mem_cons] at h
    rcases h with rfl | h
    · rw [marksI_len]; simp
    · exact List.mem_cons_of_mem _ (marksLI_mem9 t _ r h)
theorem sum_le9 {b : Nat} : ∀ (L : List (List Int)), (∀ r ∈ L, r.length ≤ b) → (L.map List.length).sum ≤ L.length * b
  | [], _ => by simp
  | r :: t, h => by
    have h1 := h r (by simp)
    have h2 := sum_le9 t (fun x hx => h x (by simp [hx]))
    simp only [List.map_cons, List.sum_cons, List.length_cons, Nat.add_mul, Nat.one_mul]
    omega
theorem okT_small {T : Tab} (h : okT T = true) : T.ns.length ≤ 4 ∧ T.rs.length ≤ 40 ∧ (∀ r ∈ T.rs, r.length ≤ 4) ∧ T.ys.length ≤ 40 ∧ (T.rs.map List.length).sum ≤ 160 := by
  have ho := okT_head h
  have hr : ∀ r ∈ T.rs, r.length ≤ 4 := fun r hr => by
    obtain ⟨j, hj⟩ := List.getElem?_of_mem hr
    have k := (ho.2.2.2.2.2.2 j (List.getElem?_eq_some_iff.1 hj).1).1
    rw [getD_at hj] at k
    omega
  have hs := sum_le9 T.rs hr
  exact ⟨by omega, by omega, hr, by omega, by omega⟩
theorem tabV_zero {L : List (List (List UInt8))} (h : (tabV L).2.1 ≠ 0) : (tabV L).1 = zeroT := by
  cases L with
  | nil => rfl
  | cons N t =>
    rw [tabV] at h ⊢
    by_cases hh : (headF N).1 = 0
    · rw [if_pos hh] at h ⊢
      by_cases hi : inZ (t.length : Int) 1 40 = true
      · rw [if_pos hi] at h ⊢
        cases hr : rowsG (N.length - 1) t 1 [] [] with
        | inr q => rfl
        | inl q =>
          rw [hr] at h
          exact absurd rfl h
      · rw [if_neg hi]
    · rw [if_neg hh]
theorem readT_small {l : List UInt8} {T : Tab} {c i k : Nat} (h : readT l = (T, c, i, k)) : T.ns.length ≤ 4 ∧ T.rs.length ≤ 40 ∧ (∀ r ∈ T.rs, r.length ≤ 4) ∧ T.ys.length ≤ 40 ∧ (T.rs.map List.length).sum ≤ 160 := by
  have e : T = (readT l).1 := by rw [h]
  have hz : zeroT.ns.length ≤ 4 ∧ zeroT.rs.length ≤ 40 ∧ (∀ r ∈ zeroT.rs, r.length ≤ 4) ∧ zeroT.ys.length ≤ 40 ∧ (zeroT.rs.map List.length).sum ≤ 160 := by simp [zeroT]
  rw [e]
  by_cases hc : (readT l).2.1 = 0
  · exact okT_small (readT_ok hc)
  · have hq : (readT l).1 = zeroT := by
      unfold readT at hc ⊢
      by_cases hd : (csvQ l).2.1 = 0
      · rw [if_pos hd] at hc ⊢
        exact tabV_zero hc
      · rw [if_neg hd]
    rw [hq]
    exact hz
set_option maxRecDepth 100000 in
set_option maxHeartbeats 8000000 in
theorem lawExReadTable (s : ByteArray) (w : World) (hSp : SpecReadT) (hI : ImplReadT w) :
    Calls Tryz.prog 5 #[.string s] w fun e w' => e = .returned (.bool true) ∧ Below w.heap.size w w' := by
  by_cases hs : 1048576 < s.size
  · have hs1 : (1048576 : Int) < s.size := by omega
    go_enter Tryz.func5, Tryz.ntmps5
    go_wp2_with fail
    go_ret
    exact ⟨rfl, Below.refl _ _⟩
  · have hs1 : ¬ (1048576 : Int) < s.size := by omega
    obtain ⟨T, c, i, k, hq⟩ : ∃ T c i k, readT s.data.toList = (T, c, i, k) := ⟨_, _, _, _, rfl⟩
    have hsm := readT_small hq
    have HM : Hid (T.ns.length ≤ 9223372036854775807 ∧ T.rs.length ≤ 9223372036854775807 ∧ (∀ r ∈ T.rs, r.length ≤ 9223372036854775807) ∧ T.ys.length ≤ 9223372036854775807) := Lib.hid ⟨by omega, by omega, fun r hr => by have := hsm.2.2.1 r hr; omega, by omega⟩
    have HMM : Hid ((marksT T 1).ns.length ≤ 9223372036854775807 ∧ (marksT T 1).rs.length ≤ 9223372036854775807 ∧ (∀ r ∈ (marksT T 1).rs, r.length ≤ 9223372036854775807) ∧ (marksT T 1).ys.length ≤ 9223372036854775807) := Lib.hid (by
      refine ⟨?_, ?_, fun r hr => ?_, ?_⟩
      · show (marks 1 T.ns.length).length ≤ _
        rw [marks_len]
        omega
      · show (marksLI _ _).length ≤ _
        rw [marksLI_len, List.length_map]
        omega
      · have hm := marksLI_mem9 _ _ r hr
        obtain ⟨r2, hr2, hr3⟩ := List.mem_map.1 hm
        have := hsm.2.2.1 r2 hr2
        omega
      · show (marksI _ _).length ≤ _
        rw [marksI_len]
        omega)
    obtain ⟨mk, hmk⟩ : ∃ m : Nat, 1 + T.ns.length + (T.rs.map List.length).sum + T.ys.length = m := ⟨_, rfl⟩
    have hmk0 : ¬ (mk : Int) < 0 := by omega
    have HMK : Hid (∀ (u1 u2 u3 : Value) (vs : List Value) (base : Nat) (w : World), TabOwn w base T vs u1 u2 u3 → base ≤ w.heap.size → ∀ hi : Nat, (∀ g, u1.ownBlock = some g → g < hi) → (∀ (j : Nat) u g, vs[j]? = some u → u.ownBlock = some g → g < hi) → (∀ g, u3.ownBlock = some g → g < hi) → Calls Tryz.prog 21 #[.agg #[u1, .string ⟨T.y.toArray⟩, u2, u3], .int .i64 1] w fun e w' => e = .returned (.int .i64 (mk : Int)) ∧ TabOwn w' base (marksT T 1) vs u1 u2 u3 ∧ Below base w w' ∧ (∀ b, hi ≤ b → b < w.heap.size → w'.heap[b]? = w.heap[b]?)) := Lib.hid (fun u1 u2 u3 vs base w ho hb hi g1 g2 g3 => (markTabH T u1 u2 u3 vs base 1 w ho hb (by omega) (by omega) (by omega) (by omega) (by omega) hi g1 g2 g3).mono fun e w' ⟨he, h2, h3, h4⟩ => ⟨by rw [he, hmk], h2, h3, h4⟩)
    have HHK : Hid (∀ (u1 u2 u3 : Value) (w : World), TabRow w (marksT T 1) u1 u2 u3 → Calls Tryz.prog 22 #[.agg #[u1, .string ⟨T.y.toArray⟩, u2, u3], .int .i64 1] w fun e w' => e = .returned (.int .i64 (mk : Int)) ∧ Below w.heap.size w w') := Lib.hid (fun u1 u2 u3 w hr => (heldTab T u1 u2 u3 1 w hr (by omega) (by omega) (by omega) (by omega) (by omega)).mono fun e w' ⟨he, h2⟩ => ⟨by rw [he, hmk], h2⟩)
    have HS := Lib.hid (fun W => hSp s W T c i k hq)
    have HP : Hid (∀ W, Below w.heap.size w W → Calls Tryz.prog 11 #[.string s] W fun e w' => RtOwn T c i k W.heap.size e w' ∧ Below W.heap.size W w') := Lib.hid (fun W hB => hI W hB s T c i k (by omega) hq)
    clear hSp hI hq hsm hmk
    go_enter Tryz.func5, Tryz.ntmps5
    go_wp2_with fail
    refine (HS.out w).mono ?_
    rintro e w1 ⟨⟨u11, u12, u13, rfl, R1⟩, B01⟩
    obtain ⟨a11, c11, a12, c12, a13, c13, rfl, rfl, rfl⟩ := R1.form
    have HR1 := Lib.hid R1
    have HB01 := Lib.hid B01
    clear R1 B01
    go_wp2_with fail
    refine (HP.out _ (bt HB01.out (bt (bl_al w1 (.cells #[.slice a11 T.ns.length c11, .string ⟨T.y.toArray⟩, .slice a12 T.rs.length c12, .slice a13 T.ys.length c13] 28)) (bl_al _ (.cells #[.int .i64 (c : Int), .int .i64 (i : Int), .int .i64 (k : Int)] 33))))).mono ?_
    rintro e w2 ⟨⟨vs2, u21, u22, u23, rfl, O2⟩, BB⟩
    obtain ⟨a21, c21, a22, c22, a23, c23, rfl, rfl, rfl⟩ := (O2.row HM.out.1 HM.out.2.1 HM.out.2.2.1 HM.out.2.2.2).form
    have X0 := Lib.hid (blk_next (blk_al (alloc_blk w1 #[.slice a11 T.ns.length c11, .string ⟨T.y.toArray⟩, .slice a12 T.rs.length c12, .slice a13 T.ys.length c13] 28) (.cells #[.int .i64 (c : Int), .int .i64 (i : Int), .int .i64 (k : Int)] 33)) BB)
    have x1 := blk_next (alloc_blk (w1.alloc (.cells #[.slice a11 T.ns.length c11, .string ⟨T.y.toArray⟩, .slice a12 T.rs.length c12, .slice a13 T.ys.length c13] 28)) #[.int .i64 (c : Int), .int .i64 (i : Int), .int .i64 (k : Int)] 33) BB
    simp only [sz_alloc] at x1
    have X1 := Lib.hid x1
    have TT := Lib.hid (bt (bt (bl_al w1 (.cells #[.slice a11 T.ns.length c11, .string ⟨T.y.toArray⟩, .slice a12 T.rs.length c12, .slice a13 T.ys.length c13] 28)) (bl_al _ (.cells #[.int .i64 (c : Int), .int .i64 (i : Int), .int .i64 (k : Int)] 33))) BB)
    obtain ⟨b0, hb0⟩ : ∃ b, ((w1.alloc (.cells #[.slice a11 T.ns.length c11, .string ⟨T.y.toArray⟩, .slice a12 T.rs.length c12, .slice a13 T.ys.length c13] 28)).alloc (.cells #[.int .i64 (c : Int), .int .i64 (i : Int), .int .i64 (k : Int)] 33)).heap.size = b := ⟨_, rfl⟩
    have hb1 : b0 = w1.heap.size + 1 + 1 := by rw [← hb0]; simp
    rw [hb0] at O2
    have hb2 : b0 ≤ w2.heap.size := by rw [← hb0]; exact BB.size
    have H4 : Hid ((∀ g, (.slice a21 T.ns.length c21 : Value).ownBlock = some g → g < w2.heap.size) ∧ (∀ (j : Nat) u g, vs2[j]? = some u → u.ownBlock = some g → g < w2.heap.size) ∧ (∀ g, (.slice a23 T.ys.length c23 : Value).ownBlock = some g → g < w2.heap.size)) := Lib.hid ⟨fun g hg => (O2.1.lt g hg).2, fun j u g hu hg => (O2.2.2.1.lt hu hg).2, fun g hg => (O2.2.2.2.1.lt g hg).2⟩
    have O := Lib.hid O2
    have W2 := Lib.hid (Below.refl w2.heap.size w2)
    clear x1 BB hb0 O2
    have p0 := cell_blk X0.out 0
    have p1 := cell_blk X0.out 1
    have p2 := cell_blk X0.out 2
    have p3 := cell_blk X0.out 3
    have pl := blk_lt X0.out
    have q0 := cell_blk X1.out 0
    have q1 := cell_blk X1.out 1
    have q2 := cell_blk X1.out 2
    have ql := blk_lt X1.out
    go_wp2_with fail
    have hAl := bt (bl_al w2 (.cells #[.slice a21 T.ns.length c21, .string ⟨T.y.toArray⟩, .slice a22 T.rs.length c22, .slice a23 T.ys.length c23] 28)) (bl_al _ (.cells #[.int .i64 (c : Int), .int .i64 (i : Int), .int .i64 (k : Int)] 33))
    refine (eqTab T (.slice a21 T.ns.length c21) (.slice a22 T.rs.length c22) (.slice a23 T.ys.length c23) (.slice a11 T.ns.length c11) (.slice a12 T.rs.length c12) (.slice a13 T.ys.length c13) _ ((O.out.row HM.out.1 HM.out.2.1 HM.out.2.2.1 HM.out.2.2.2).below hAl) ((HR1.out.below TT.out).below hAl)).mono ?_
    rintro e w3 ⟨rfl, BC⟩
    have BD := bt hAl BC
    have X2 := Lib.hid (blk_next (blk_al (alloc_blk w2 #[.slice a21 T.ns.length c21, .string ⟨T.y.toArray⟩, .slice a22 T.rs.length c22, .slice a23 T.ys.length c23] 28) (.cells #[.int .i64 (c : Int), .int .i64 (i : Int), .int .i64 (k : Int)] 33)) BC)
    have x3 := blk_next (alloc_blk (w2.alloc (.cells #[.slice a21 T.ns.length c21, .string ⟨T.y.toArray⟩, .slice a22 T.rs.length c22, .slice a23 T.ys.length c23] 28)) #[.int .i64 (c : Int), .int .i64 (i : Int), .int .i64 (k : Int)] 33) BC
    simp only [sz_alloc] at x3
    have X3 := Lib.hid x3
    clear p0 p1 p2 p3 pl
    clear q0 q1 q2 ql
    replace X0 := Lib.hid (blk_next X0.out BD)
    replace X1 := Lib.hid (blk_next X1.out BD)
    replace TT := Lib.hid (bt TT.out BD)
    replace O := Lib.hid (O.out.below BD)
    replace W2 := Lib.hid (bt W2.out BD)
    clear x3 BC BD hAl
    have q0 := cell_blk X1.out 0
    have q1 := cell_blk X1.out 1
    have q2 := cell_blk X1.out 2
    have ql := blk_lt X1.out
    have s0 := cell_blk X3.out 0
    have s1 := cell_blk X3.out 1
    have s2 := cell_blk X3.out 2
    have sl := blk_lt X3.out
    go_wp2_with fail
    refine (eqFa _ _ _ _).mono ?_
    rintro e w4 ⟨rfl, BD⟩
    clear q0 q1 q2 ql
    clear s0 s1 s2 sl
    replace X0 := Lib.hid (blk_next X0.out BD)
    replace X1 := Lib.hid (blk_next X1.out BD)
    replace X2 := Lib.hid (blk_next X2.out BD)
    replace TT := Lib.hid (bt TT.out BD)
    replace O := Lib.hid (O.out.below BD)
    replace W2 := Lib.hid (bt W2.out BD)
    clear BD X3
    have hsz := W2.out.size
    have p0 := cell_blk X2.out 0
    have p1 := cell_blk X2.out 1
    have p2 := cell_blk X2.out 2
    have p3 := cell_blk X2.out 3
    have pl := blk_lt X2.out
    go_wp2_with fail
    refine (HMK.out _ _ _ vs2 b0 _ O.out (by omega) w2.heap.size H4.out.1 H4.out.2.1 H4.out.2.2).mono ?_
    rintro e w5 ⟨rfl, O5, M5, K5⟩
    clear p0 p1 p2 p3 pl
    have y0 := (M5.block _ (by omega)).trans X0.out
    have y1 := (M5.block _ (by omega)).trans X1.out
    have y2 := (K5 _ (Nat.le_refl _) (blk_lt X2.out)).trans X2.out
    replace X0 := Lib.hid y0
    replace X1 := Lib.hid y1
    have Y2 := Lib.hid y2
    replace TT := Lib.hid (TT.out.trans (M5.mono (by omega)))
    replace O := Lib.hid O5
    clear O5 M5 K5 y0 y1 y2 X2 W2
    have p0 := cell_blk Y2.out 0
    have p1 := cell_blk Y2.out 1
    have p2 := cell_blk Y2.out 2
    have p3 := cell_blk Y2.out 3
    have pl := blk_lt Y2.out
    go_wp2_with fail
    refine (HHK.out _ _ _ _ (O.out.row HMM.out.1 HMM.out.2.1 HMM.out.2.2.1 HMM.out.2.2.2)).mono ?_
    rintro e w6 ⟨rfl, BD⟩
    clear p0 p1 p2 p3 pl
    replace X0 := Lib.hid (blk_next X0.out BD)
    replace X1 := Lib.hid (blk_next X1.out BD)
    replace Y2 := Lib.hid (blk_next Y2.out BD)
    replace TT := Lib.hid (bt TT.out BD)
    replace O := Lib.hid (O.out.below BD)
    clear BD
    go_wp2_with fail
    refine (HP.out _ (bt HB01.out TT.out)).mono ?_
    rintro e w7 ⟨⟨vs3, u31, u32, u33, rfl, O3⟩, BB⟩
    obtain ⟨a31, c31, a32, c32, a33, c33, rfl, rfl, rfl⟩ := (O3.row HM.out.1 HM.out.2.1 HM.out.2.2.1 HM.out.2.2.2).form
    have OQ := Lib.hid O3
    replace X0 := Lib.hid (blk_next X0.out BB)
    replace X1 := Lib.hid (blk_next X1.out BB)
    replace Y2 := Lib.hid (blk_next Y2.out BB)
    replace TT := Lib.hid (bt TT.out BB)
    replace O := Lib.hid (O.out.below BB)
    clear BB O3
    have p0 := cell_blk X0.out 0
    have p1 := cell_blk X0.out 1
    have p2 := cell_blk X0.out 2
    have p3 := cell_blk X0.out 3
    have pl := blk_lt X0.out
    have q0 := cell_blk X1.out 0
    have q1 := cell_blk X1.out 1
    have q2 := cell_blk X1.out 2
    have ql := blk_lt X1.out
    go_wp2_with fail
    have hAl := bt (bl_al w7 (.cells #[.slice a31 T.ns.length c31, .string ⟨T.y.toArray⟩, .slice a32 T.rs.length c32, .slice a33 T.ys.length c33] 28)) (bl_al _ (.cells #[.int .i64 (c : Int), .int .i64 (i : Int), .int .i64 (k : Int)] 33))
    refine (eqTab T (.slice a31 T.ns.length c31) (.slice a32 T.rs.length c32) (.slice a33 T.ys.length c33) (.slice a11 T.ns.length c11) (.slice a12 T.rs.length c12) (.slice a13 T.ys.length c13) _ ((OQ.out.row HM.out.1 HM.out.2.1 HM.out.2.2.1 HM.out.2.2.2).below hAl) ((HR1.out.below TT.out).below hAl)).mono ?_
    rintro e w8 ⟨rfl, BC⟩
    have BD := bt hAl BC
    have X2 := Lib.hid (blk_next (blk_al (alloc_blk w7 #[.slice a31 T.ns.length c31, .string ⟨T.y.toArray⟩, .slice a32 T.rs.length c32, .slice a33 T.ys.length c33] 28) (.cells #[.int .i64 (c : Int), .int .i64 (i : Int), .int .i64 (k : Int)] 33)) BC)
    have x3 := blk_next (alloc_blk (w7.alloc (.cells #[.slice a31 T.ns.length c31, .string ⟨T.y.toArray⟩, .slice a32 T.rs.length c32, .slice a33 T.ys.length c33] 28)) #[.int .i64 (c : Int), .int .i64 (i : Int), .int .i64 (k : Int)] 33) BC
    simp only [sz_alloc] at x3
    have X3 := Lib.hid x3
    clear p0 p1 p2 p3 pl
    clear q0 q1 q2 ql
    replace X0 := Lib.hid (blk_next X0.out BD)
    replace X1 := Lib.hid (blk_next X1.out BD)
    replace TT := Lib.hid (bt TT.out BD)
    replace O := Lib.hid (O.out.below BD)
    replace Y2 := Lib.hid (blk_next Y2.out BD)
    clear x3 BC BD hAl
    have q0 := cell_blk X1.out 0
    have q1 := cell_blk X1.out 1
    have q2 := cell_blk X1.out 2
    have ql := blk_lt X1.out
    have s0 := cell_blk X3.out 0
    have s1 := cell_blk X3.out 1
    have s2 := cell_blk X3.out 2
    have sl := blk_lt X3.out
    go_wp2_with fail
    refine (eqFa _ _ _ _).mono ?_
    rintro e w9 ⟨rfl, BD⟩
    clear q0 q1 q2 ql
    clear s0 s1 s2 sl
    replace X0 := Lib.hid (blk_next X0.out BD)
    replace X1 := Lib.hid (blk_next X1.out BD)
    replace X2 := Lib.hid (blk_next X2.out BD)
    replace TT := Lib.hid (bt TT.out BD)
    replace O := Lib.hid (O.out.below BD)
    replace Y2 := Lib.hid (blk_next Y2.out BD)
    clear BD X3
    have p0 := cell_blk Y2.out 0
    have p1 := cell_blk Y2.out 1
    have p2 := cell_blk Y2.out 2
    have p3 := cell_blk Y2.out 3
    have pl := blk_lt Y2.out
    go_wp2_with fail
    refine (HHK.out _ _ _ _ (O.out.row HMM.out.1 HMM.out.2.1 HMM.out.2.2.1 HMM.out.2.2.2)).mono ?_
    rintro e w10 ⟨rfl, BD⟩
    go_wp2_with fail
    go_ret
    exact ⟨rfl, bt HB01.out (bt TT.out BD)⟩
end Go.Proofs.YticeagjonfifbaaGreatDoor
namespace Go.Proofs.YticeagjonfifbaaGreatDoor
open Go.RowKit

theorem results_oneF {fn : Func} {p : Tmp} {ty : TypeId} (h : fn.results = #[.cell p ty]) (tmps : Array Value) (P : Program) (w : World) :
    (results fn tmps).run P w = ((asAddr (tmps.getD p undef)).run P w).andThen fun a w1 => (loadVar ty a).run P w1 := by
  simp only [results, h]
  simp [Sem.run_bind, Result.andThen]
theorem drewN_drewN (w : World) (a b : Nat) : (w.drewN a).drewN b = w.drewN (a + b) := by
  first | rfl | simp [World.drewN, Nat.add_comm, Nat.add_left_comm]
theorem ret_fa {a b c d : Nat} (h : (a, b) = (c, d)) : Ending.returned (.agg #[.int .i64 a, .int .i64 0, .int .i64 b]) = .returned (faV c 0 d) := by
  injection h with h1 h2
  subst h1
  subst h2
  rfl
set_option maxRecDepth 100000 in
theorem specHead (v : Value) (L : List (List UInt8)) (w : World) (h : StrRow w v L) (hnl : ∀ p ∈ L, p.length ≤ 9223372036854775807) :
    Calls Tryz.prog 50 #[v] w fun e w' => e = .returned (faV (headF L).1 0 (headF L).2) ∧ Below w.heap.size w w' := by
  have P1 := Lib.hid h
  obtain ⟨a1, c1, rfl, hl1, hf1⟩ := sRow_cells h
  have HF1 := Lib.hid hf1
  obtain ⟨n, hn⟩ : ∃ n : Nat, L.length = n := ⟨_, rfl⟩
  rw [hn] at hl1 P1 ⊢
  obtain ⟨b1, hb1⟩ : ∃ b, inZ (n : Int) 2 5 = b := ⟨_, rfl⟩
  have HO : Hid (headF L = if b1 = true then headG L n 0 else (7, 0)) := Lib.hid (by rw [headF, hn, hb1])
  have B1 := Lib.hid hb1
  have HN := Lib.hid hn
  have HNL := Lib.hid hnl
  clear hb1 hn hnl hf1 h
  obtain ⟨w0, hw0⟩ : ∃ x, w.alloc (.cells #[.int .i64 0, .int .i64 0, .int .i64 0] 33) = x := ⟨_, rfl⟩
  have HB0 : Hid (Below w.heap.size w w0) := Lib.hid (hw0 ▸ (Below.refl _ _).alloc (Nat.le_refl _) _)
  have HX0 : Hid (w0.heap[w.heap.size]? = some (.cells #[.int .i64 0, .int .i64 0, .int .i64 0] 33 (0, 0))) := Lib.hid (hw0 ▸ alloc_blk w _ _)
  go_enter Tryz.func50, Tryz.ntmps50
  go_wp2_with fail
  refine (specIn9 _ _ _ _).mono ?_
  rintro e w1 ⟨rfl, rfl⟩
  rw [B1.out]
  clear hw0
  cases b1 with
  | false =>
    have d0 := cell_blk HX0.out 0
    have d1 := cell_blk HX0.out 1
    have d2 := cell_blk HX0.out 2
    have f0 := free_blk HX0.out 0
    have f1 := free_blk HX0.out 1
    have f2 := free_blk HX0.out 2
    go_wp2_with fail
    refine bodyPost_ret (v := .agg #[.int .i64 7, .int .i64 0, .int .i64 0]) ?_ rfl ⟨ret_fa (a := 7) (b := 0) (by rw [HO.out]; rfl), ((HB0.out.setCell (Nat.le_refl _) _).setCell (Nat.le_refl _) _).setCell (Nat.le_refl _) _⟩
    rw [results_oneF rfl]
    go_simp
  | true =>
    have hn4 := inZ_iff.1 B1.out
    have HOT : Hid (headF L = headG L n 0) := Lib.hid HO.out
    clear HO
    go_wp2_with fail
    go_loopw [3] (fun i wr => ∃ j : Nat, j ≤ n ∧ i = .int .i64 j ∧ headF L = headG L (n - j) j ∧ ∃ z, wr = w0.drewN z) (fun i _ => n - (intOf i).toNat)
    case atStart => exact ⟨0, Nat.zero_le _, rfl, HOT.out, 0, rfl⟩
    case round =>
      obtain ⟨j, hj, rfl, hg, z, rfl⟩ := hrel
      have HG := Lib.hid hg
      clear hg
      have X1 : Hid ((w0.drewN z).heap[w.heap.size]? = some (.cells #[.int .i64 0, .int .i64 0, .int .i64 0] 33 (0, 0))) := Lib.hid HX0.out
      have hBz : Below w.heap.size w (w0.drewN z) := below_drewN2 HB0.out z
      obtain ⟨w1, hw1⟩ : ∃ x, x = w0.drewN z := ⟨_, rfl⟩
      rw [← hw1] at X1 hBz ⊢
      have HW1 := Lib.hid hw1
      clear hw1
      by_cases hlt : j < n
      · have hj1 : (j : Int) < n := by omega
        have hj0 : (0 : Int) ≤ j := by omega
        obtain ⟨p, hp⟩ : ∃ r, L[j]? = some r := ⟨_, List.getElem?_eq_getElem (by rw [HN.out]; exact hlt)⟩
        have hpl := HNL.out p (List.mem_of_getElem? hp)
        have hcap := sRow_cap P1.out (by omega)
        obtain ⟨b, off, rfl, hcp⟩ := HF1.out j p hp
        have hc1 := (hBz.cell (p := ⟨b, off + j, none⟩) (World.block_lt_of_cell? w _ hcp)).trans hcp
        have hlb := World.block_lt_of_cell? w1 _ hc1
        obtain ⟨b5, hb5⟩ : ∃ b, nameB p = b := ⟨_, rfl⟩
        obtain ⟨b6, hb6⟩ : ∃ b, hasB (L.take j) p = b := ⟨_, rfl⟩
        have HP := Lib.hid hp
        have B5 := Lib.hid hb5
        have B6 := Lib.hid hb6
        clear hp hb5 hb6
        have hjc : (j : Int) ≤ c1 := by omega
        have HBz := Lib.hid hBz
        clear hBz
        go_wp2_with fail
        refine (specName9 p hpl _ b5 B5.out).mono ?_
        rintro e w2 ⟨rfl, q1, hw2⟩
        have HB2 : Hid (Below w.heap.size w w2) := Lib.hid (hw2 ▸ below_drewN2 HBz.out q1)
        have X2 : Hid (w2.heap[w.heap.size]? = some (.cells #[.int .i64 0, .int .i64 0, .int .i64 0] 33 (0, 0))) := Lib.hid (hw2 ▸ X1.out)
        have HW2 : Hid (w2 = w0.drewN (z + q1)) := Lib.hid (by rw [hw2, HW1.out, drewN_drewN])
        clear hw2 hc1
        have hc2 := (HB2.out.cell (p := ⟨b, off + j, none⟩) (World.block_lt_of_cell? w _ hcp)).trans hcp
        have hlb2 := World.block_lt_of_cell? w2 _ hc2
        cases b5 with
        | false =>
          have d0 := cell_blk X2.out 0
          have d1 := cell_blk X2.out 1
          have d2 := cell_blk X2.out 2
          have f0 := free_blk X2.out 0
          have f1 := free_blk X2.out 1
          have f2 := free_blk X2.out 2
          go_wp2_with fail
          refine bodyPost_ret (v := .agg #[.int .i64 5, .int .i64 0, .int .i64 j]) ?_ rfl ⟨ret_fa (a := 5) (b := j) (by rw [HG.out, headG_bad1 hlt HP.out B5.out]), ?_⟩
          · rw [results_oneF rfl]
            go_simp
          · exact ((HB2.out.setCell (Nat.le_refl _) _).setCell (Nat.le_refl _) _).setCell (Nat.le_refl _) _
        | true =>
          have KH : ∀ z, Hid (Calls Tryz.prog 54 #[.slice (some ⟨b, off, none⟩) j c1, .string ⟨p.toArray⟩] (w2.drewN z) fun e w' => e = .returned (.bool b6) ∧ ∃ k, w' = (w2.drewN z).drewN k) := fun z => specHas _ _ (L.take j) p ((sRow_take P1.out (by omega) HN.out c1 (by omega)).below (below_drewN2 HB2.out z)) b6 B6.out
          have d0 := cell_blk X2.out 0
          have d1 := cell_blk X2.out 1
          have d2 := cell_blk X2.out 2
          have f0 := free_blk X2.out 0
          have f1 := free_blk X2.out 1
          have f2 := free_blk X2.out 2
          cases b6 with
          | true =>
            go_wp2_with fail
            go_quiet (first | (go_at_call 54; exact Calls.quiet_of (KH _).out))
            go_wp2_with fail
            refine bodyPost_ret (v := .agg #[.int .i64 6, .int .i64 0, .int .i64 j]) ?_ rfl ⟨ret_fa (a := 6) (b := j) (by rw [HG.out, headG_bad2 hlt HP.out B5.out B6.out]), ?_⟩
            · rw [results_oneF rfl]
              go_simp
            · exact (((below_drewN2 HB2.out _).setCell (Nat.le_refl _) _).setCell (Nat.le_refl _) _).setCell (Nat.le_refl _) _
          | false =>
            go_wp2_with fail
            go_quiet (first | (go_at_call 54; exact Calls.quiet_of (KH _).out))
            go_wp2_with fail
            go_roundw
            case rel => exact ⟨j + 1, by omega, by go_num, by rw [HG.out, headG_next hlt HP.out B5.out B6.out], _, by rw [HW2.out, drewN_drewN]⟩
            case measure => simp [intOf]; omega
      · have hj1 : ¬ (j : Int) < n := by omega
        have d0 := cell_blk X1.out 0
        have d1 := cell_blk X1.out 1
        have d2 := cell_blk X1.out 2
        have f0 := free_blk X1.out 0
        have f1 := free_blk X1.out 1
        have f2 := free_blk X1.out 2
        go_wp2_with fail
        refine bodyPost_ret (v := .agg #[.int .i64 0, .int .i64 0, .int .i64 0]) ?_ rfl ⟨ret_fa (a := 0) (b := 0) (by rw [HG.out, show n - j = 0 by omega]; rfl), ?_⟩
        · rw [results_oneF rfl]
          go_simp
        · exact ((hBz.setCell (Nat.le_refl _) _).setCell (Nat.le_refl _) _).setCell (Nat.le_refl _) _
end Go.Proofs.YticeagjonfifbaaGreatDoor
namespace Go.Proofs.YticeagjonfifbaaGreatDoor
open Go.RowKit

/-- A byte that no field of CSV is quoted for. -/
theorem dig_sp {x : UInt8} (h : isDig x) : spB x = false := by
  have h1 := h.1
  have h2 := h.2
  simp only [spB, Bool.or_eq_false_iff, beq_eq_false_iff_ne, ne_eq]
  refine ⟨⟨⟨?_, ?_⟩, ?_⟩, ?_⟩ <;> rintro rfl <;> revert h1 h2 <;> decide
theorem dig_of {d : Nat} (h : d ≤ 9) : isDig (UInt8.ofNat (48 + d)) := by
  have : d = 0 ∨ d = 1 ∨ d = 2 ∨ d = 3 ∨ d = 4 ∨ d = 5 ∨ d = 6 ∨ d = 7 ∨ d = 8 ∨ d = 9 := by omega
  rcases this with rfl | rfl | rfl | rfl | rfl | rfl | rfl | rfl | rfl | rfl <;> exact ⟨by decide, by decide⟩
theorem frac_sp (r : Nat) (hr : r < 1000) : (fracL r).any spB = false := by
  have h1 := dig_sp (dig_of (d := r / 100) (by omega))
  have h2 := dig_sp (dig_of (d := r / 10 % 10) (by omega))
  have h3 := dig_sp (dig_of (d := r % 10) (by omega))
  have h4 : spB 46 = false := by decide
  unfold fracL
  split
  · rfl
  · split
    · simp only [List.any_cons, h1, h2, h3, h4]; rfl
    · split
      · simp only [List.any_cons, h1, h2, h4]; rfl
      · simp only [List.any_cons, h1, h4]; rfl
theorem fixT_sp (z : Int) : (fixT z).any spB = false := by
  unfold fixT
  split
  · rw [List.any_append, List.any_append, frac_sp _ (by omega)]
    have h1 : (Lib.itoa ((z.natAbs : Int) / 1000)).any spB = false := by
      rw [List.any_eq_false]
      intro x hx
      rw [dig_sp (itoa_dig (by omega) x hx)]
      decide
    rw [h1]
    split <;> rfl
  · rfl
theorem fixT_csv (z : Int) : csvF (fixT z) = fixT z := by rw [csvF, if_neg (by rw [fixT_sp]; decide)]
theorem rowT_plain {b : Nat} : ∀ (r : List (List UInt8)), (∀ p ∈ r, csvF p = p ∧ p.length ≤ b) → (rowT r).length ≤ r.length * (b + 1)
  | [], _ => by simp [rowT]
  | [f], h => by
    have h1 := h f (by simp)
    simp only [rowT, h1.1, List.length_cons, List.length_nil]
    omega
  | f :: g :: r, h => by
    have ih := rowT_plain (g :: r) (fun p hp => h p (by simp [hp]))
    have h1 := h f (by simp)
    have e : (rowT (f :: g :: r)).length = f.length + (1 + (rowT (g :: r)).length) := by
      simp only [rowT, h1.1, List.length_append, List.length_cons]
      omega
    have e2 : (f :: g :: r).length * (b + 1) = (g :: r).length * (b + 1) + (b + 1) := by
      simp only [List.length_cons, Nat.add_mul, Nat.one_mul]
    rw [e, e2]
    omega
theorem csvT_plain {a b : Nat} : ∀ (L : List (List (List UInt8))), (∀ r ∈ L, r.length ≤ a ∧ ∀ p ∈ r, csvF p = p ∧ p.length ≤ b) → (csvT L).length ≤ L.length * (a * (b + 1) + 1)
  | [], _ => by simp [csvT]
  | r :: L, h => by
    have ih := csvT_plain L (fun x hx => h x (by simp [hx]))
    have h1 := rowT_plain r (h r (by simp)).2
    have h2 : r.length * (b + 1) ≤ a * (b + 1) := Nat.mul_le_mul_right _ (h r (by simp)).1
    have e : (csvT (r :: L)).length = (rowT r).length + (1 + (csvT L).length) := by
      simp only [csvT, List.length_append, List.length_cons]
      omega
    have e2 : (r :: L).length * (a * (b + 1) + 1) = L.length * (a * (b + 1) + 1) + (a * (b + 1) + 1) := by
      simp only [List.length_cons, Nat.add_mul, Nat.one_mul]
    rw [e, e2]
    omega
/-- A right table of at most three features has a text that ReadCsv takes. -/
theorem tabT_small {T : Tab} (h : okT T = true) (hn : T.ns.length ≤ 3) (hp : ∀ p ∈ T.ns ++ [T.y], p.any spB = false) : (tabT T).length ≤ 4000 := by
  have ho := okT_head h
  have hl := rowsTx_length T T.rs.length
  have hr40 : T.rs.length ≤ 40 := ho.2.2.1.2
  have hb : (csvT (rowsTx T T.rs.length)).length ≤ (rowsTx T T.rs.length).length * (4 * (20 + 1) + 1) := by
    refine csvT_plain _ fun r hr => ?_
    unfold rowsTx at hr
    rcases List.mem_cons.1 hr with rfl | hr
    · refine ⟨by simp; omega, fun p hpp => ⟨?_, ?_⟩⟩
      · rw [csvF, if_neg (by rw [hp p hpp]; decide)]
      · have := names_mem h p hpp
        omega
    · obtain ⟨i, hi, rfl⟩ := List.mem_map.1 hr
      have hi' := List.mem_range.1 hi
      refine ⟨by rw [rowTx_len, (ho.2.2.2.2.2.2 i hi').1]; omega, fun p hpp => ⟨?_, rowTx_mem p hpp⟩⟩
      rcases List.mem_append.1 hpp with hq | hq
      · obtain ⟨z, _, rfl⟩ := List.mem_map.1 hq
        exact fixT_csv z
      · obtain rfl := List.mem_singleton.1 hq
        exact fixT_csv _
  rw [tabT, if_pos h]
  rw [hl] at hb
  omega
end Go.Proofs.YticeagjonfifbaaGreatDoor
namespace Go.Proofs.YticeagjonfifbaaGreatDoor
open Go.RowKit

theorem iiRow_cells9 {w : World} {v : Value} {L : List (List Int)} (h : IIRow w v L) : ∃ a c, v = .slice a L.length c ∧ L.length ≤ 9223372036854775807 ∧ (∀ (j : Nat) row, L[j]? = some row → ∃ b off u, a = some ⟨b, off, none⟩ ∧ w.cell? ⟨b, off + j, none⟩ = some u ∧ IntRow w u row) := by
  rcases h with ⟨rfl, a, c, rfl⟩ | ⟨b, off, c, rfl, hl, _, hc⟩
  · exact ⟨a, c, rfl, by simp, by simp⟩
  · refine ⟨_, c, rfl, hl, fun j row hj => ?_⟩
    obtain ⟨u, h1, h2⟩ := hc j row hj
    exact ⟨b, off, u, rfl, h1, h2⟩
/-- Whether a row holds n decimals. -/
def rowB (n : Nat) (r : List Int) : Bool := decide (r.length = n) && r.all valB
theorem headF_of {T : Tab} (h : okT T = true) : headF (T.ns ++ [T.y]) = (0, 0) := by
  have ho := okT_head h
  have hlen : (T.ns ++ [T.y]).length = T.ns.length + 1 := by simp
  unfold headF
  rw [if_pos (inZ_iff.2 (by rw [hlen]; omega))]
  refine headG_ok _ 0 fun j _ hj => ?_
  rw [hlen] at hj
  rw [nmB_iff]
  by_cases hjn : j < T.ns.length
  · have e1 : (T.ns ++ [T.y]).getD j [] = T.ns.getD j [] := by rw [List.getD_eq_getElem?_getD, List.getElem?_append_left hjn, List.getD_eq_getElem?_getD]
    have e2 : (T.ns ++ [T.y]).take j = T.ns.take j := by rw [List.take_append_of_le_length (by omega)]
    rw [e1, e2]
    exact ho.2.2.2.2.1 j hjn
  · obtain rfl : j = T.ns.length := by omega
    have e1 : (T.ns ++ [T.y]).getD T.ns.length [] = T.y := by rw [List.getD_eq_getElem?_getD]; simp
    have e2 : (T.ns ++ [T.y]).take T.ns.length = T.ns := by simp
    rw [e1, e2]
    exact ⟨ho.2.1, ho.2.2.2.2.2.1⟩
theorem okT_split (T : Tab) : okT T = (decide ((headF (T.ns ++ [T.y])).1 = 0) && (inZ (T.rs.length : Int) 1 40 && ((decide (T.ys.length = T.rs.length) && T.ys.all valB) && T.rs.all (rowB T.ns.length)))) := by
  rw [Bool.eq_iff_iff]
  simp only [Bool.and_eq_true, decide_eq_true_eq]
  constructor
  · intro h
    have ho := okT_head h
    refine ⟨by rw [headF_of h], inZ_iff.2 (by omega), ⟨by omega, List.all_eq_true.2 fun z hz => ?_⟩, List.all_eq_true.2 fun r hr => ?_⟩
    · obtain ⟨j, hj⟩ := List.getElem?_of_mem hz
      have k := (ho.2.2.2.2.2.2 j (by have := (List.getElem?_eq_some_iff.1 hj).1; omega)).2.1
      rw [getD_at hj] at k
      exact k
    · obtain ⟨j, hj⟩ := List.getElem?_of_mem hr
      have k := ho.2.2.2.2.2.2 j (List.getElem?_eq_some_iff.1 hj).1
      rw [getD_at hj] at k
      rw [rowB, Bool.and_eq_true, decide_eq_true_eq]
      exact ⟨k.1, k.2.2⟩
  · rintro ⟨h1, h2, ⟨h3, h4⟩, h5⟩
    have hh := headF_ok h1
    have hlen : (T.ns ++ [T.y]).length = T.ns.length + 1 := by simp
    rw [hlen] at hh
    have hr := inZ_iff.1 h2
    have hy := nmB_iff.1 (hh.2.2 T.ns.length (by omega))
    have e1 : (T.ns ++ [T.y]).getD T.ns.length [] = T.y := by rw [List.getD_eq_getElem?_getD]; simp
    have e2 : (T.ns ++ [T.y]).take T.ns.length = T.ns := by simp
    rw [e1, e2] at hy
    simp only [okT, headB, Bool.and_eq_true, inZ_iff, List.all_eq_true, List.mem_range, decide_eq_true_eq, Bool.not_eq_true']
    refine ⟨⟨⟨⟨⟨⟨by omega, hy.1⟩, hy.2⟩, by omega⟩, by omega⟩, fun i hi => ?_⟩, fun i hi => ?_⟩
    · have hn := nmB_iff.1 (hh.2.2 i (by omega))
      have e1 : (T.ns ++ [T.y]).getD i [] = T.ns.getD i [] := by rw [List.getD_eq_getElem?_getD, List.getElem?_append_left hi, List.getD_eq_getElem?_getD]
      have e2 : (T.ns ++ [T.y]).take i = T.ns.take i := by rw [List.take_append_of_le_length (by omega)]
      rw [e1, e2] at hn
      simp only [nameAt, hn.1, hn.2]
      rfl
    · have g1 : T.rs[i]? = some T.rs[i] := List.getElem?_eq_getElem hi
      have hiy : i < T.ys.length := by omega
      have g2 : T.ys[i]? = some T.ys[i] := List.getElem?_eq_getElem hiy
      have k := List.all_eq_true.1 h5 _ (List.getElem_mem hi)
      rw [rowB, Bool.and_eq_true, decide_eq_true_eq] at k
      simp only [rowAt, getD_at g1, getD_at g2, k.1, k.2, List.all_eq_true.1 h4 _ (List.getElem_mem hiy)]
      simp
set_option maxRecDepth 100000 in
set_option maxHeartbeats 1000000 in
theorem rowBad9 (w : World) (bx n c1 : Nat) (a1 : Option Addr) (v1 v2 v3 u : Value) (r : List Int) (hb : w.heap[bx]? = some (.cells #[.slice a1 n c1, v1, v2, v3] 28 (0, 0))) (h : IntRow w u r) :
    Calls Tryz.prog 34 #[u, .pointer (some ⟨bx, 0, none⟩)] w fun e w' => e = .returned (.bool (!rowB n r)) ∧ ∃ q, w' = w.drewN q := by
  have HC := Lib.hid (fun k => areDec9 (w.drewN k) u r n (h.below (below_drewN2 (Below.refl _ _) k)))
  have x0 := cell_blk hb 0
  clear h hb
  go_enter Tryz.func34, Tryz.ntmps34
  go_wp2_with fail
  refine (HC.out 0).mono ?_
  rintro e w1 ⟨rfl, q, rfl⟩
  go_wp2_with fail
  go_ret
  exact ⟨ret_bool9 (by simp [rowB]), q, rfl⟩
theorem anyR_take {n : Nat} {s : List (List Int)} {j : Nat} {z : List Int} (h : s[j]? = some z) : (s.take (j + 1)).all (rowB n) = ((s.take j).all (rowB n) && rowB n z) := by
  rw [List.take_add_one, h, List.all_append]
  simp
set_option maxRecDepth 100000 in
set_option maxHeartbeats 2000000 in
theorem indexRow9 (w : World) (bx n c1 : Nat) (a1 : Option Addr) (v1 v2 v3 : Value) (a : Option Addr) (c : Nat) (L : List (List Int)) (hb : w.heap[bx]? = some (.cells #[.slice a1 n c1, v1, v2, v3] 28 (0, 0))) (hl : L.length ≤ 9223372036854775807)
    (hc : ∀ (j : Nat) row, L[j]? = some row → ∃ b off u, a = some ⟨b, off, none⟩ ∧ w.cell? ⟨b, off + j, none⟩ = some u ∧ IntRow w u row) :
    Calls Tryz.prog 87 #[.slice a L.length c, .func (.func 34) #[] #[.pointer (some ⟨bx, 0, none⟩)]] w fun e w' => (∃ z : Int, e = .returned (.int .i64 z) ∧ decide (0 ≤ z) = !L.all (rowB n)) ∧ ∃ q, w' = w.drewN q := by
  have HC := Lib.hid hc
  have HK := Lib.hid (fun (k : Nat) (u : Value) (r : List Int) (h : IntRow w u r) => rowBad9 (w.drewN k) bx n c1 a1 v1 v2 v3 u r hb (h.below (below_drewN2 (Below.refl _ _) k)))
  clear hc hb
  obtain ⟨m, hm⟩ : ∃ n : Nat, L.length = n := ⟨_, rfl⟩
  rw [hm] at hl ⊢
  have HE := Lib.hid hm
  clear hm
  go_enter Tryz.func87, Tryz.ntmps87
  go_wp2_with fail
  go_loopg [5, 8] m (fun g _ i wr => ∃ j z : Nat, j ≤ m ∧ g = m - j ∧ i = .int .i64 j ∧ wr = w.drewN z ∧ (L.take j).all (rowB n) = true)
  case atStart => exact ⟨0, 0, Nat.zero_le _, rfl, rfl, rfl, rfl⟩
  case round =>
    obtain ⟨j, z, hj, rfl, rfl, rfl, ht⟩ := hrel
    have HT := Lib.hid ht
    clear ht
    by_cases hlt : j < m
    · have hj1 : (j : Int) < m := by omega
      have hj0 : (0 : Int) ≤ j := by omega
      obtain ⟨x, hx⟩ : ∃ x, L[j]? = some x := ⟨_, List.getElem?_eq_getElem (by rw [HE.out]; exact hlt)⟩
      obtain ⟨b, off, u, rfl, hcx, hsx⟩ := HC.out j x hx
      have HX := Lib.hid hx
      have HR := Lib.hid (HK.out z u x hsx)
      have hcell : (w.drewN z).cell? ⟨b, off + j, none⟩ = some u := hcx
      clear hx hcx hsx
      obtain ⟨wq, hwq⟩ : ∃ wq, w.drewN z = wq := ⟨_, rfl⟩
      rw [hwq] at hcell HR ⊢
      have HW := Lib.hid hwq
      clear hwq
      cases hp : rowB n x with
      | false =>
        go_wp2_with fail
        refine HR.out.mono ?_
        rintro e w1 ⟨rfl, q, rfl⟩
        rw [hp]
        go_wp2_with fail
        go_ret
        refine ⟨⟨_, rfl, ?_⟩, z + q, by rw [← HW.out, World.drewN_drewN]⟩
        rw [decide_eq_true hj0]
        have h2 : L.all (rowB n) = false := List.all_eq_false.2 ⟨x, List.mem_of_getElem? HX.out, by rw [hp]; simp⟩
        rw [h2]
        rfl
      | true =>
        go_wp2_with fail
        refine HR.out.mono ?_
        rintro e w1 ⟨rfl, q, rfl⟩
        rw [hp]
        go_wp2_with fail
        go_roundg (m - (j + 1))
        case measure => omega
        case rel => exact ⟨j + 1, z + q, by omega, rfl, by go_num, by rw [← HW.out, World.drewN_drewN], by rw [anyR_take HX.out, HT.out, hp]; rfl⟩
    · have hje : j = m := by omega
      have hj1 : ¬ (j : Int) < m := by omega
      have HA : Hid (L.all (rowB n) = true) := Lib.hid (by
        have h := HT.out
        rwa [hje, List.take_of_length_le (by rw [HE.out]; exact Nat.le_refl _)] at h)
      clear hje
      go_wp2_with fail
      go_ret
      exact ⟨⟨_, rfl, by rw [HA.out]; rfl⟩, z, rfl⟩
set_option maxRecDepth 100000 in
theorem containsRow9 (w : World) (bx n c1 : Nat) (a1 : Option Addr) (v1 v2 v3 v : Value) (L : List (List Int)) (hb : w.heap[bx]? = some (.cells #[.slice a1 n c1, v1, v2, v3] 28 (0, 0))) (h : IIRow w v L) :
    Calls Tryz.prog 33 #[v, .func (.func 34) #[] #[.pointer (some ⟨bx, 0, none⟩)]] w fun e w' => e = .returned (.bool (!L.all (rowB n))) ∧ ∃ q, w' = w.drewN q := by
  obtain ⟨a, c, rfl, hl, hc⟩ := iiRow_cells9 h
  have HC := Lib.hid (indexRow9 w bx n c1 a1 v1 v2 v3 a c L hb hl hc)
  clear hc h hb
  go_enter Tryz.func33, Tryz.ntmps33
  go_wp2_with fail
  refine HC.out.mono ?_
  rintro e w1 ⟨⟨z, rfl, hz⟩, q, rfl⟩
  have HZ := Lib.hid hz
  clear hz
  go_wp2_with fail
  go_ret
  exact ⟨ret_bool9 HZ.out, q, rfl⟩

set_option maxRecDepth 100000 in
set_option maxHeartbeats 2000000 in
/-- WHETHER A TABLE IS RIGHT. -/
theorem implTabOk9 (T : Tab) (u1 u2 u3 : Value) (w : World) (h : TabRow w T u1 u2 u3) (hl : T.ns.length ≤ 1048576) (hnl : ∀ p ∈ T.ns, p.length ≤ 9223372036854775807) (hyl : T.y.length ≤ 9223372036854775807) :
    Calls Tryz.prog 10 #[.agg #[u1, .string ⟨T.y.toArray⟩, u2, u3]] w fun e w' => e = .returned (.bool (okT T)) ∧ Below w.heap.size w w' := by
  obtain ⟨p1, p2, p3⟩ := h
  obtain ⟨a1, c1, rfl, _⟩ := sRow_form p1
  obtain ⟨a2, c2, rfl, _⟩ := iiRow_form p2
  obtain ⟨a3, c3, rfl, hl3, _⟩ := intRow_form p3
  obtain ⟨r, hr⟩ : ∃ r, okT T = r := ⟨_, rfl⟩
  have hs := okT_split T
  rw [hr] at hs ⊢
  have HS := Lib.hid hs
  clear hs hr
  have hA := bl_al w (.cells #[.slice a1 T.ns.length c1, .string ⟨T.y.toArray⟩, .slice a2 T.rs.length c2, .slice a3 T.ys.length c3] 28)
  have hx0 := alloc_blk w #[.slice a1 T.ns.length c1, .string ⟨T.y.toArray⟩, .slice a2 T.rs.length c2, .slice a3 T.ys.length c3] 28
  obtain ⟨w0, hw0⟩ : ∃ w1, w.alloc (.cells #[.slice a1 T.ns.length c1, .string ⟨T.y.toArray⟩, .slice a2 T.rs.length c2, .slice a3 T.ys.length c3] 28) = w1 := ⟨_, rfl⟩
  rw [hw0] at hA hx0
  have r0 := cell_blk hx0 0
  have r1 := cell_blk hx0 1
  have r2 := cell_blk hx0 2
  have r3 := cell_blk hx0 3
  have lr := blk_lt hx0
  have HT : Hid (TabRow w0 T (.slice a1 T.ns.length c1) (.slice a2 T.rs.length c2) (.slice a3 T.ys.length c3)) := Lib.hid ⟨p1.below hA, p2.below hA, p3.below hA⟩
  have HA := Lib.hid hA
  have HX := Lib.hid hx0
  have HML : Hid ((T.ns ++ [T.y]).length ≤ 9223372036854775807 ∧ ∀ p ∈ T.ns ++ [T.y], p.length ≤ 9223372036854775807) := Lib.hid ⟨by simp; omega, fun p hp => by
    rcases List.mem_append.1 hp with hp | hp
    · exact hnl p hp
    · obtain rfl := List.mem_singleton.1 hp
      exact hyl⟩
  have HH := Lib.hid (header9 T (.slice a1 T.ns.length c1) (.slice a2 T.rs.length c2) (.slice a3 T.ys.length c3) w0 HT.out hl)
  obtain ⟨M, hM⟩ : ∃ M, T.ns ++ [T.y] = M := ⟨_, rfl⟩
  rw [hM] at HML HH HS
  clear p1 p2 p3 hA hx0 hnl hyl hM
  go_enter Tryz.func10, Tryz.ntmps10
  go_wp2_with fail
  refine HH.out.mono ?_
  rintro e w1 ⟨⟨v, rfl, hO⟩, hB1⟩
  have HSR := Lib.hid (strRow_of_owns hO HML.out.1)
  have HX1 := Lib.hid (blk_next HX.out hB1)
  have HT1 := Lib.hid (HT.out.below hB1)
  have HA1 := Lib.hid (bt HA.out hB1)
  clear hO hB1 r0 r1 r2 r3 lr HX HT HA HH
  go_wp2_with fail
  refine (implHead9 _ M _ HSR.out HML.out.2).mono ?_
  rintro e w2 ⟨rfl, hB2⟩
  have HX2 := Lib.hid (blk_next HX1.out hB2)
  have HT2 := Lib.hid (HT1.out.below hB2)
  have HA2 := Lib.hid (bt HA1.out hB2)
  clear hB2 HX1 HT1 HA1
  have r0 := cell_blk HX2.out 0
  have r1 := cell_blk HX2.out 1
  have r2 := cell_blk HX2.out 2
  have r3 := cell_blk HX2.out 3
  have lr := blk_lt HX2.out
  by_cases hc : (headF M).1 = 0
  · have HC0 := Lib.hid (decide_eq_true hc)
    rw [hc, errV9_nil]
    clear hc
    go_wp2_with fail
    refine (inRange9 _ _ _ _).mono ?_
    rintro e w3 ⟨rfl, rfl⟩
    cases hb1 : inZ (T.rs.length : Int) 1 40 with
    | false =>
      have H1 := Lib.hid hb1
      clear hb1
      go_wp2_with fail
      go_ret
      exact ⟨ret_bool9 (by rw [HS.out, H1.out]; simp), HA2.out⟩
    | true =>
      have H1 := Lib.hid hb1
      clear hb1
      go_wp2_with fail
      refine (areDec9 _ _ T.ys T.rs.length HT2.out.2.2).mono ?_
      rintro e w3 ⟨rfl, q3, hw3⟩
      have hB3 := below_drewN2 (Below.refl w2.heap.size w2) q3
      rw [← hw3] at hB3
      have HX3 := Lib.hid (blk_next HX2.out hB3)
      have HT3 := Lib.hid (HT2.out.below hB3)
      have HA3 := Lib.hid (bt HA2.out hB3)
      clear hw3 hB3 r0 r1 r2 r3 lr
      have r0 := cell_blk HX3.out 0
      have r1 := cell_blk HX3.out 1
      have r2 := cell_blk HX3.out 2
      have r3 := cell_blk HX3.out 3
      have lr := blk_lt HX3.out
      cases hb2 : (decide (T.ys.length = T.rs.length) && T.ys.all valB) with
      | false =>
        have H2 := Lib.hid hb2
        clear hb2
        go_wp2_with fail
        go_ret
        exact ⟨ret_bool9 (by rw [HS.out, H2.out]; simp), HA3.out⟩
      | true =>
        have H2 := Lib.hid hb2
        clear hb2
        go_wp2_with fail
        refine (containsRow9 _ w.heap.size T.ns.length c1 a1 _ _ _ _ T.rs HX3.out HT3.out.2.1).mono ?_
        rintro e w4 ⟨rfl, q4, hw4⟩
        have hB4 := below_drewN2 (Below.refl w3.heap.size w3) q4
        rw [← hw4] at hB4
        have HA4 := Lib.hid (bt HA3.out hB4)
        obtain ⟨b4, hb4⟩ : ∃ b, T.rs.all (rowB T.ns.length) = b := ⟨_, rfl⟩
        rw [hb4] at HS ⊢
        clear hw4 hB4 r0 r1 r2 r3 lr
        go_wp2_with fail
        go_ret
        exact ⟨ret_bool9 (by rw [HS.out, HC0.out, H1.out, H2.out]; simp), HA4.out⟩
  · have HC0 := Lib.hid (decide_eq_false hc)
    rw [errV9_some hc]
    clear hc
    go_wp2_with fail
    go_ret
    exact ⟨ret_bool9 (by rw [HS.out, HC0.out]; rfl), HA2.out⟩
end Go.Proofs.YticeagjonfifbaaGreatDoor
