
/-
  Decimals: what the program's three functions answer.
-/
import Derived.Test.YtcmmpmmohahcfaaDoorI6R
namespace Go.Proofs.YtcmmpmmohahcfaaDoor
open Go.RowKit

theorem str_list {a b : List UInt8} (h : a = b) : Ending.returned (.string ⟨a.toArray⟩) = .returned (.string ⟨b.toArray⟩) := by rw [h]
theorem implFixText (n : Int) (w : World) (htab : Lib.TabIs Tryd.prog w "internal/strconv.uint64pow10" .u64 Lib.pow10Tab) (hg : 1 < w.heap.size) :
    Calls Tryd.prog 9 #[.int .i64 n] w fun e w' => e = .returned (.string ⟨(fixT n).toArray⟩) ∧ Below w.heap.size w w' := by
  by_cases hk : -2147483647 ≤ n ∧ n ≤ 2147483647
  · obtain ⟨h0, h1⟩ := hk
    obtain ⟨m, hm⟩ : ∃ m, n.natAbs = m := ⟨_, rfl⟩
    have hp := fixT_parts h0 h1 m hm
    have hd := Lib.hid (decB_yes h0 h1)
    have ht : Lib.itoa ((m : Int) / 1000) = Lib.decDigits (m / 1000) := by
      rw [show (m : Int) / 1000 = ((m / 1000 : Nat) : Int) by omega, Lib.itoa_nonneg]
    have hl : (Lib.itoa ((m : Int) / 1000)).length ≤ 20 := by
      rw [ht]; have := decDigits_len19 (u := m / 1000) (by omega); omega
    have hi : Lib.itoa (1000 + ((m % 1000 : Nat) : Int)) = 49 :: [UInt8.ofNat (48 + m % 1000 / 100), UInt8.ofNat (48 + m % 1000 / 10 % 10), UInt8.ofNat (48 + m % 1000 % 10)] := by
      rw [show (1000 : Int) + ((m % 1000 : Nat) : Int) = ((1000 + m % 1000 : Nat) : Int) by omega, Lib.itoa_nonneg, dec_thousand (by omega)]
    by_cases hn : n < 0
    · obtain rfl : n = -(m : Int) := by omega
      rw [if_pos hn] at hp
      by_cases hr : m % 1000 = 0
      · refine (implFixText_neg_whole m (by omega) hn hr hd _ (Lib.hid rfl) hl w htab hg).mono fun e w' ⟨he, hB⟩ => ⟨?_, hB⟩
        rw [he, hp, hr]
        exact str_list (by simp [fracL])
      · refine (implFixText_neg_frac m (by omega) hn hr hd _ (Lib.hid rfl) hl _ _ (Lib.hid hi) (Lib.hid rfl) ?_ rfl w htab hg).mono fun e w' ⟨he, hB⟩ => ⟨?_, hB⟩
        · exact trim_len _
        · rw [he, hp, ← trim_frac hr (by omega)]
          exact str_list (by simp)
    · obtain rfl : n = (m : Int) := by omega
      rw [if_neg hn] at hp
      by_cases hr : m % 1000 = 0
      · refine (implFixText_pos_whole m (by omega) hr hd _ (Lib.hid rfl) hl w htab hg).mono fun e w' ⟨he, hB⟩ => ⟨?_, hB⟩
        rw [he, hp, hr]
        exact str_list (by simp [fracL])
      · refine (implFixText_pos_frac m (by omega) hr hd _ (Lib.hid rfl) hl _ _ (Lib.hid hi) (Lib.hid rfl) ?_ rfl w htab hg).mono fun e w' ⟨he, hB⟩ => ⟨?_, hB⟩
        · exact trim_len _
        · rw [he, hp, ← trim_frac hr (by omega)]
          exact str_list (by simp)
  · have e : fixT n = [] := by rw [fixT, if_neg hk]
    rw [e]
    exact implFixText_out n (Lib.hid (decB_no (by omega))) w
/-- What the program's reading ends in: g: a sign stands ahead. -/
def endR (g : Bool) (o : Option Int) : Ending :=
  match o with
  | some m => .returned (.tuple #[.int .i64 (if g then -m else m), .bool true])
  | none => .returned (.tuple #[.int .i64 0, .bool false])
theorem inV_dec {n : Int} (h : decB n = true) : inV n = some n := by unfold decB at h; rw [inV, if_pos (by simpa using h)]
theorem inV_ndec {n : Int} (h : decB n = false) : inV n = none := by unfold decB at h; rw [inV, if_neg (by simpa using h)]
theorem inV_turn (n : Int) : inV (-n) = (inV n).map fun m => -m := by
  unfold inV
  by_cases h : -2147483647 ≤ n ∧ n ≤ 2147483647
  · rw [if_pos h, if_pos (by omega)]; rfl
  · rw [if_neg h, if_neg (by omega)]; rfl
theorem implRead_pt (s : ByteArray) (u a b : List UInt8) (g : Bool) (HC : Hid (Lib.trimPrefix s.data.toList [45] = u)) (HH : Hid (Lib.hasPrefix s.data.toList [45] = g)) (HK : Hid (Lib.cut u [46] = (a, b, true))) (lu : u.length < 4294967281) (la : a.length ≤ 1048576) (w : World) (hL : Lib6 w) :
    Calls Tryd.prog 10 #[.string s] w fun e w' => e = endR g ((numV a).bind fun n => (fracV b).bind fun r => inV (n * 1000 + r)) ∧ Below w.heap.size w w' := by
  cases hn : numV a with
  | none =>
    cases hf : fracV b with
    | none => exact implRead_pt_nn s u a b g HC HH HK lu la (Lib.hid (numE_none hn)) (Lib.hid (plE_none hf)) w hL
    | some r =>
      have hr := pl_in hf
      exact implRead_pt_ny s u a b g HC HH HK lu la (Lib.hid (numE_none hn)) r hr.1 hr.2 (Lib.hid (plE_some hf)) w hL
  | some n =>
    have hi := (numV_is hn).2
    cases hf : fracV b with
    | none => exact implRead_pt_yn s u a b g HC HH HK lu la n hi.1 hi.2 (Lib.hid (numE_some hn)) (Lib.hid (plE_none hf)) w hL
    | some r =>
      have hr := pl_in hf
      cases hk : decB (n * 1000 + r) with
      | false =>
        have e : ((some n).bind fun n => (some r).bind fun r => inV (n * 1000 + r)) = none := inV_ndec hk
        rw [e]
        exact implRead_pt_out s u a b g HC HH HK lu la n hi.1 hi.2 (Lib.hid (numE_some hn)) r hr.1 hr.2 (Lib.hid (plE_some hf)) (Lib.hid hk) w hL
      | true =>
        have e : ((some n).bind fun n => (some r).bind fun r => inV (n * 1000 + r)) = some (n * 1000 + r) := inV_dec hk
        rw [e]
        cases g with
        | true => exact implRead_pt_in1 s u a b HC HH HK lu la n hi.1 hi.2 (Lib.hid (numE_some hn)) r hr.1 hr.2 (Lib.hid (plE_some hf)) (Lib.hid hk) w hL
        | false => exact implRead_pt_in0 s u a b HC HH HK lu la n hi.1 hi.2 (Lib.hid (numE_some hn)) r hr.1 hr.2 (Lib.hid (plE_some hf)) (Lib.hid hk) w hL
theorem implRead_np (s : ByteArray) (u a b : List UInt8) (g : Bool) (HC : Hid (Lib.trimPrefix s.data.toList [45] = u)) (HH : Hid (Lib.hasPrefix s.data.toList [45] = g)) (HK : Hid (Lib.cut u [46] = (a, b, false))) (lu : u.length < 4294967281) (la : a.length ≤ 1048576) (w : World) (hL : Lib6 w) :
    Calls Tryd.prog 10 #[.string s] w fun e w' => e = endR g ((numV a).bind fun n => inV (n * 1000 + 0)) ∧ Below w.heap.size w w' := by
  have HP := Lib.hid (plE_some pl_zero)
  cases hn : numV a with
  | none => exact implRead_np_ny s u a b g HC HH HK lu la (Lib.hid (numE_none hn)) 0 (by omega) (by omega) HP w hL
  | some n =>
    have hi := (numV_is hn).2
    cases hk : decB (n * 1000 + 0) with
    | false =>
      have e : ((some n).bind fun n => inV (n * 1000 + 0)) = none := inV_ndec hk
      rw [e]
      exact implRead_np_out s u a b g HC HH HK lu la n hi.1 hi.2 (Lib.hid (numE_some hn)) 0 (by omega) (by omega) HP (Lib.hid hk) w hL
    | true =>
      have e : ((some n).bind fun n => inV (n * 1000 + 0)) = some (n * 1000 + 0) := inV_dec hk
      rw [e]
      cases g with
      | true => exact implRead_np_in1 s u a b HC HH HK lu la n hi.1 hi.2 (Lib.hid (numE_some hn)) 0 (by omega) (by omega) HP (Lib.hid hk) w hL
      | false => exact implRead_np_in0 s u a b HC HH HK lu la n hi.1 hi.2 (Lib.hid (numE_some hn)) 0 (by omega) (by omega) HP (Lib.hid hk) w hL
/-- What the body counts, whatever the sign. -/
theorem implRead_body (s : ByteArray) (u : List UInt8) (g : Bool) (HC : Hid (Lib.trimPrefix s.data.toList [45] = u)) (HH : Hid (Lib.hasPrefix s.data.toList [45] = g)) (lu : u.length ≤ 1048576) (w : World) (hL : Lib6 w) :
    Calls Tryd.prog 10 #[.string s] w fun e w' => e = endR g ((bodyV (partsL 46 u)).bind inV) ∧ Below w.heap.size w w' := by
  rcases cut_point 46 u with ⟨hno, hc⟩ | ⟨a, b, rfl, hno, hc⟩
  · have e : (bodyV (partsL 46 u)).bind inV = (numV u).bind fun n => inV (n * 1000 + 0) := by
      rw [pl_none hno]
      cases numV u with
      | none => rfl
      | some n => show inV (1000 * n) = inV (n * 1000 + 0); rw [Int.add_zero, Int.mul_comm]
    rw [e]
    exact implRead_np s u u [] g HC HH (Lib.hid hc) (by omega) lu w hL
  · have e : (bodyV (partsL 46 (a ++ 46 :: b))).bind inV = (numV a).bind fun n => (fracV b).bind fun r => inV (n * 1000 + r) := by
      rw [pl_cut hno]
      cases numV a with
      | none => rfl
      | some n =>
        cases fracV b with
        | none => rfl
        | some r => show inV (1000 * n + r) = inV (n * 1000 + r); rw [Int.mul_comm]
    rw [e]
    have : a.length ≤ 1048576 := by simp only [List.length_append] at lu; omega
    exact implRead_pt s _ a b g HC HH (Lib.hid hc) (by omega) this w hL
theorem implReadFix (s : ByteArray) (hs : s.size ≤ 1048576) (w : World) (hL : Lib6 w) :
    Calls Tryd.prog 10 #[.string s] w fun e w' => e = rfE s.data.toList ∧ Below w.heap.size w w' := by
  have hln : s.data.toList.length = s.size := (Lib.size_eq s).symm
  have key : ∃ (u : List UInt8) (g : Bool), Lib.trimPrefix s.data.toList [45] = u ∧ Lib.hasPrefix s.data.toList [45] = g ∧ u.length ≤ 1048576 ∧ rfE s.data.toList = endR g ((bodyV (partsL 46 u)).bind inV) := by
    generalize s.data.toList = l at hln
    match l with
    | [] => exact ⟨[], false, rfl, rfl, by simp, by rw [rfE, rd_pos (by simp)]; cases (bodyV (partsL 46 [])).bind inV <;> rfl⟩
    | c :: t =>
      have hc : Lib.hasPrefix (c :: t) [45] = (45 == c) := by simp [Lib.hasPrefix, List.isPrefixOf]
      by_cases h45 : c = 45
      · subst h45
        refine ⟨t, true, by rw [Lib.trimPrefix, hc]; rfl, hc, by simp at hln; omega, ?_⟩
        rw [rfE, rd_neg]
        cases bodyV (partsL 46 t) with
        | none => rfl
        | some n =>
          show (match inV (-n) with | some m => _ | none => _) = endR true (inV n)
          rw [inV_turn]
          cases inV n <;> rfl
      · have h2 : (45 == c) = false := by rw [beq_eq_false_iff_ne]; exact fun e => h45 e.symm
        refine ⟨c :: t, false, by rw [Lib.trimPrefix, hc, h2]; rfl, by rw [hc, h2], by omega, ?_⟩
        rw [rfE, rd_pos (by simpa using h45)]
        cases (bodyV (partsL 46 (c :: t))).bind inV <;> rfl
  obtain ⟨u, g, hC, hH, lu, e⟩ := key
  rw [e]
  exact implRead_body s u g (Lib.hid hC) (Lib.hid hH) lu w hL
set_option maxRecDepth 100000 in
theorem implFixNormal (s : ByteArray) (hs : s.size ≤ 1048576) (w : World) (hL : Lib6 w) :
    Calls Tryd.prog 13 #[.string s] w fun e w' => e = fnE s.data.toList ∧ Below w.heap.size w w' := by
  cases h : rdV s.data.toList with
  | none =>
    have HR := Lib.hid (rfE_none h)
    rw [fnE_none h]
    clear h
    go_enter Tryd.func13, Tryd.ntmps13
    go_wp2_with fail
    refine (implReadFix s hs _ hL).mono ?_
    rintro e w1 ⟨rfl, hB⟩
    rw [HR.out]
    go_wp2_with fail
    go_ret2
    exact ⟨rfl, hB⟩
  | some n =>
    have HR := Lib.hid (rfE_some h)
    rw [fnE_some h]
    clear h
    go_enter Tryd.func13, Tryd.ntmps13
    go_wp2_with fail
    refine (implReadFix s hs _ hL).mono ?_
    rintro e w1 ⟨rfl, hB⟩
    rw [HR.out]
    have HT := Lib.hid hB
    clear hB
    go_wp2_with fail
    refine (implFixText n _ (tabIs_below hL.tab HT.out gPow hL.hg) (Nat.lt_of_lt_of_le hL.hg HT.out.size)).mono ?_
    rintro e w2 ⟨rfl, hB⟩
    replace HT := Lib.hid (bt HT.out hB)
    clear hB
    go_wp2_with fail
    go_ret2
    exact ⟨rfl, HT.out⟩
/-- The same in every world behind. -/
theorem fixTextB (w : World) (htab : Lib.TabIs Tryd.prog w "internal/strconv.uint64pow10" .u64 Lib.pow10Tab) (hg : 1 < w.heap.size) (wz : World) (hB : Below w.heap.size w wz) (n : Int) (_n0 : -9223372036854775808 ≤ n) (_n1 : n ≤ 9223372036854775807) :
    Calls Tryd.prog 9 #[.int .i64 n] wz fun e w' => e = .returned (.string ⟨(fixT n).toArray⟩) ∧ Below wz.heap.size wz w' :=
  implFixText n wz (tabIs_below htab hB gPow hg) (Nat.lt_of_lt_of_le hg hB.size)
theorem readFixB (w : World) (hL : Lib6 w) (wz : World) (hB : Below w.heap.size w wz) (s : ByteArray) (hs : s.size ≤ 1048576) :
    Calls Tryd.prog 10 #[.string s] wz fun e w' => e = rfE s.data.toList ∧ Below wz.heap.size wz w' :=
  implReadFix s hs wz (hL.mono hB)
theorem fixNormalB (w : World) (hL : Lib6 w) (wz : World) (hB : Below w.heap.size w wz) (s : ByteArray) (hs : s.size ≤ 1048576) :
    Calls Tryd.prog 13 #[.string s] wz fun e w' => e = fnE s.data.toList ∧ Below wz.heap.size wz w' :=
  implFixNormal s hs wz (hL.mono hB)
end Go.Proofs.YtcmmpmmohahcfaaDoor
