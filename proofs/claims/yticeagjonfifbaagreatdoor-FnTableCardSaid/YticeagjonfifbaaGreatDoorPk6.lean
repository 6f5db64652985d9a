/-
  Decimals: what the program's three functions answer.
  What the reference answers for a column.
  Whether a text stands in a list of texts, by the reference.
  The reading of a table: what a walk keeps (the box of the table, its parts, the row that is read).
-/
import Derived.Test.YticeagjonfifbaaGreatDoorI6R
import Derived.Test.YticeagjonfifbaaGreatDoorPk13
import Derived.Test.YticeagjonfifbaaGreatDoorTabS
import Derived.Test.YticeagjonfifbaaGreatDoorPk4
namespace Go.Proofs.YticeagjonfifbaaGreatDoor
open Go.RowKit

theorem str_list {a b : List UInt8} (h : a = b) : Ending.returned (.string ⟨a.toArray⟩) = .returned (.string ⟨b.toArray⟩) := by rw [h]
theorem implFixText (n : Int) (w : World) (htab : Lib.TabIs Tryz.prog w "internal/strconv.uint64pow10" .u64 Lib.pow10Tab) (hg : 1 < w.heap.size) :
    Calls Tryz.prog 26 #[.int .i64 n] w fun e w' => e = .returned (.string ⟨(fixT n).toArray⟩) ∧ Below w.heap.size w w' := by
  by_cases hk : -2147483647 ≤ n ∧ n ≤ 2147483647
  · obtain ⟨h0, h1⟩ := hk
    obtain ⟨m, hm⟩ : ∃ m, n.natAbs = m := ⟨_, rfl⟩
    have hp := fixT_parts h0 h1 m hm
    have hd := Lib.hid (decB_yes h0 h1)
    have ht : Lib.itoa ((m : Int) / 1000) = Lib.decDigits (m / 1000) := by
      rw [show (m : Int) / 1000 = ((m / 1000 : Nat) : Int) by omega, Lib.itoa_nonneg]
    have hl : (Lib.itoa ((m : Int) / 1000)).length ≤ 20 := by
      rw [ht]; have := decDigits_len19 (u := m / 1000) (by omega); omega
    have hi : Lib.itoa (1000 + ((m % 1000 : Nat) : Int)) = 49 :: [UInt8.ofNat (48 + m % 1000 / 100), UInt8.ofNat (48 + m % 1000 / 10 % 10), UInt8.ofNat (48 + m % 1000 % 10)] := by
      rw [show (1000 : Int) + ((m % 1000 : Nat) : Int) = ((1000 + m % 1000 : Nat) : Int) by omega, Lib.itoa_nonneg, dec_thousand (by omega)]
    by_cases hn : n < 0
    · obtain rfl : n = -(m : Int) := by omega
      rw [if_pos hn] at hp
      by_cases hr : m % 1000 = 0
      · refine (implFixText_neg_whole m (by omega) hn hr hd _ (Lib.hid rfl) hl w htab hg).mono fun e w' ⟨he, hB⟩ => ⟨?_, hB⟩
        rw [he, hp, hr]
        exact str_list (by simp [fracL])
      · refine (implFixText_neg_frac m (by omega) hn hr hd _ (Lib.hid rfl) hl _ _ (Lib.hid hi) (Lib.hid rfl) ?_ rfl w htab hg).mono fun e w' ⟨he, hB⟩ => ⟨?_, hB⟩
        · exact trim_len _
        · rw [he, hp, ← trim_frac hr (by omega)]
          exact str_list (by simp)
    · obtain rfl : n = (m : Int) := by omega
      rw [if_neg hn] at hp
      by_cases hr : m % 1000 = 0
      · refine (implFixText_pos_whole m (by omega) hr hd _ (Lib.hid rfl) hl w htab hg).mono fun e w' ⟨he, hB⟩ => ⟨?_, hB⟩
        rw [he, hp, hr]
        exact str_list (by simp [fracL])
      · refine (implFixText_pos_frac m (by omega) hr hd _ (Lib.hid rfl) hl _ _ (Lib.hid hi) (Lib.hid rfl) ?_ rfl w htab hg).mono fun e w' ⟨he, hB⟩ => ⟨?_, hB⟩
        · exact trim_len _
        · rw [he, hp, ← trim_frac hr (by omega)]
          exact str_list (by simp)
  · have e : fixT n = [] := by rw [fixT, if_neg hk]
    rw [e]
    exact implFixText_out n (Lib.hid (decB_no (by omega))) w
/-- What the program's reading ends in: g: a sign stands ahead. -/
def endR (g : Bool) (o : Option Int) : Ending :=
  match o with
  | some m => .returned (.tuple #[.int .i64 (if g then -m else m), .bool true])
  | none => .returned (.tuple #[.int .i64 0, .bool false])
theorem inV_dec {n : Int} (h : decB n = true) : inV n = some n := by unfold decB at h; rw [inV, if_pos (by simpa using h)]
theorem inV_ndec {n : Int} (h : decB n = false) : inV n = none := by unfold decB at h; rw [inV, if_neg (by simpa using h)]
theorem inV_turn (n : Int) : inV (-n) = (inV n).map fun m => -m := by
  unfold inV
  by_cases h : -2147483647 ≤ n ∧ n ≤ 2147483647
  · rw [if_pos h, if_pos (by omega)]; rfl
  · rw [if_neg h, if_neg (by omega)]; rfl
theorem implRead_pt (s : ByteArray) (u a b : List UInt8) (g : Bool) (HC : Hid (Lib.trimPrefix s.data.toList [45] = u)) (HH : Hid (Lib.hasPrefix s.data.toList [45] = g)) (HK : Hid (Lib.cut u [46] = (a, b, true))) (lu : u.length < 4294967281) (la : a.length ≤ 1048576) (w : World) (hL : Lib6 w) :
    Calls Tryz.prog 114 #[.string s] w fun e w' => e = endR g ((numV a).bind fun n => (fracV b).bind fun r => inV (n * 1000 + r)) ∧ Below w.heap.size w w' := by
  cases hn : numV a with
  | none =>
    cases hf : fracV b with
    | none => exact implRead_pt_nn s u a b g HC HH HK lu la (Lib.hid (numE_none hn)) (Lib.hid (plE_none hf)) w hL
    | some r =>
      have hr := pl_in hf
      exact implRead_pt_ny s u a b g HC HH HK lu la (Lib.hid (numE_none hn)) r hr.1 hr.2 (Lib.hid (plE_some hf)) w hL
  | some n =>
    have hi := (numV_is hn).2
    cases hf : fracV b with
    | none => exact implRead_pt_yn s u a b g HC HH HK lu la n hi.1 hi.2 (Lib.hid (numE_some hn)) (Lib.hid (plE_none hf)) w hL
    | some r =>
      have hr := pl_in hf
      cases hk : decB (n * 1000 + r) with
      | false =>
        have e : ((some n).bind fun n => (some r).bind fun r => inV (n * 1000 + r)) = none := inV_ndec hk
        rw [e]
        exact implRead_pt_out s u a b g HC HH HK lu la n hi.1 hi.2 (Lib.hid (numE_some hn)) r hr.1 hr.2 (Lib.hid (plE_some hf)) (Lib.hid hk) w hL
      | true =>
        have e : ((some n).bind fun n => (some r).bind fun r => inV (n * 1000 + r)) = some (n * 1000 + r) := inV_dec hk
        rw [e]
        cases g with
        | true => exact implRead_pt_in1 s u a b HC HH HK lu la n hi.1 hi.2 (Lib.hid (numE_some hn)) r hr.1 hr.2 (Lib.hid (plE_some hf)) (Lib.hid hk) w hL
        | false => exact implRead_pt_in0 s u a b HC HH HK lu la n hi.1 hi.2 (Lib.hid (numE_some hn)) r hr.1 hr.2 (Lib.hid (plE_some hf)) (Lib.hid hk) w hL
theorem implRead_np (s : ByteArray) (u a b : List UInt8) (g : Bool) (HC : Hid (Lib.trimPrefix s.data.toList [45] = u)) (HH : Hid (Lib.hasPrefix s.data.toList [45] = g)) (HK : Hid (Lib.cut u [46] = (a, b, false))) (lu : u.length < 4294967281) (la : a.length ≤ 1048576) (w : World) (hL : Lib6 w) :
    Calls Tryz.prog 114 #[.string s] w fun e w' => e = endR g ((numV a).bind fun n => inV (n * 1000 + 0)) ∧ Below w.heap.size w w' := by
  have HP := Lib.hid (plE_some pl_zero)
  cases hn : numV a with
  | none => exact implRead_np_ny s u a b g HC HH HK lu la (Lib.hid (numE_none hn)) 0 (by omega) (by omega) HP w hL
  | some n =>
    have hi := (numV_is hn).2
    cases hk : decB (n * 1000 + 0) with
    | false =>
      have e : ((some n).bind fun n => inV (n * 1000 + 0)) = none := inV_ndec hk
      rw [e]
      exact implRead_np_out s u a b g HC HH HK lu la n hi.1 hi.2 (Lib.hid (numE_some hn)) 0 (by omega) (by omega) HP (Lib.hid hk) w hL
    | true =>
      have e : ((some n).bind fun n => inV (n * 1000 + 0)) = some (n * 1000 + 0) := inV_dec hk
      rw [e]
      cases g with
      | true => exact implRead_np_in1 s u a b HC HH HK lu la n hi.1 hi.2 (Lib.hid (numE_some hn)) 0 (by omega) (by omega) HP (Lib.hid hk) w hL
      | false => exact implRead_np_in0 s u a b HC HH HK lu la n hi.1 hi.2 (Lib.hid (numE_some hn)) 0 (by omega) (by omega) HP (Lib.hid hk) w hL
/-- What the body counts, whatever the sign. -/
theorem implRead_body (s : ByteArray) (u : List UInt8) (g : Bool) (HC : Hid (Lib.trimPrefix s.data.toList [45] = u)) (HH : Hid (Lib.hasPrefix s.data.toList [45] = g)) (lu : u.length ≤ 1048576) (w : World) (hL : Lib6 w) :
    Calls Tryz.prog 114 #[.string s] w fun e w' => e = endR g ((bodyV (partsL 46 u)).bind inV) ∧ Below w.heap.size w w' := by
  rcases cut_point 46 u with ⟨hno, hc⟩ | ⟨a, b, rfl, hno, hc⟩
  · have e : (bodyV (partsL 46 u)).bind inV = (numV u).bind fun n => inV (n * 1000 + 0) := by
      rw [pl_none hno]
      cases numV u with
      | none => rfl
      | some n => show inV (1000 * n) = inV (n * 1000 + 0); rw [Int.add_zero, Int.mul_comm]
    rw [e]
    exact implRead_np s u u [] g HC HH (Lib.hid hc) (by omega) lu w hL
  · have e : (bodyV (partsL 46 (a ++ 46 :: b))).bind inV = (numV a).bind fun n => (fracV b).bind fun r => inV (n * 1000 + r) := by
      rw [pl_cut hno]
      cases numV a with
      | none => rfl
      | some n =>
        cases fracV b with
        | none => rfl
        | some r => show inV (1000 * n + r) = inV (n * 1000 + r); rw [Int.mul_comm]
    rw [e]
    have : a.length ≤ 1048576 := by simp only [List.length_append] at lu; omega
    exact implRead_pt s _ a b g HC HH (Lib.hid hc) (by omega) this w hL
theorem implReadFix (s : ByteArray) (hs : s.size ≤ 1048576) (w : World) (hL : Lib6 w) :
    Calls Tryz.prog 114 #[.string s] w fun e w' => e = rfE s.data.toList ∧ Below w.heap.size w w' := by
  have hln : s.data.toList.length = s.size := (Lib.size_eq s).symm
  have key : ∃ (u : List UInt8) (g : Bool), Lib.trimPrefix s.data.toList [45] = u ∧ Lib.hasPrefix s.data.toList [45] = g ∧ u.length ≤ 1048576 ∧ rfE s.data.toList = endR g ((bodyV (partsL 46 u)).bind inV) := by
    generalize s.data.toList = l at hln
    match l with
    | [] => exact ⟨[], false, rfl, rfl, by simp, by rw [rfE, rd_pos (by simp)]; cases (bodyV (partsL 46 [])).bind inV <;> rfl⟩
    | c :: t =>
      have hc : Lib.hasPrefix (c :: t) [45] = (45 == c) := by simp [Lib.hasPrefix, List.isPrefixOf]
      by_cases h45 : c = 45
      · subst h45
        refine ⟨t, true, by rw [Lib.trimPrefix, hc]; rfl, hc, by simp at hln; omega, ?_⟩
        rw [rfE, rd_neg]
        cases bodyV (partsL 46 t) with
        | none => rfl
        | some n =>
          show (match inV (-n) with | some m => _ | none => _) = endR true (inV n)
          rw [inV_turn]
          cases inV n <;> rfl
      · have h2 : (45 == c) = false := by rw [beq_eq_false_iff_ne]; exact fun e => h45 e.symm
        refine ⟨c :: t, false, by rw [Lib.trimPrefix, hc, h2]; rfl, by rw [hc, h2], by omega, ?_⟩
        rw [rfE, rd_pos (by simpa using h45)]
        cases (bodyV (partsL 46 (c :: t))).bind inV <;> rfl
  obtain ⟨u, g, hC, hH, lu, e⟩ := key
  rw [e]
  exact implRead_body s u g (Lib.hid hC) (Lib.hid hH) lu w hL
/-- The same in every world behind. -/
theorem fixTextB (w : World) (htab : Lib.TabIs Tryz.prog w "internal/strconv.uint64pow10" .u64 Lib.pow10Tab) (hg : 1 < w.heap.size) (wz : World) (hB : Below w.heap.size w wz) (n : Int) (_n0 : -9223372036854775808 ≤ n) (_n1 : n ≤ 9223372036854775807) :
    Calls Tryz.prog 26 #[.int .i64 n] wz fun e w' => e = .returned (.string ⟨(fixT n).toArray⟩) ∧ Below wz.heap.size wz w' :=
  implFixText n wz (tabIs_below htab hB gPow hg) (Nat.lt_of_lt_of_le hg hB.size)
theorem readFixB (w : World) (hL : Lib6 w) (wz : World) (hB : Below w.heap.size w wz) (s : ByteArray) (hs : s.size ≤ 1048576) :
    Calls Tryz.prog 114 #[.string s] wz fun e w' => e = rfE s.data.toList ∧ Below wz.heap.size wz w' :=
  implReadFix s hs wz (hL.mono hB)
end Go.Proofs.YticeagjonfifbaaGreatDoor
namespace Go.Proofs.YticeagjonfifbaaGreatDoor
open Go.RowKit

/-- A column of a table. -/
def colT (T : Tab) (f : Int) : List Int := if 0 ≤ f ∧ f ≤ (T.ns.length : Int) - 1 then T.rs.map (fun r => r.getD f.toNat 0) else []
theorem intCells_snoc9 (s : List Int) (z : Int) : intCells (s ++ [z]) = intCells s ++ [.int .i64 z] := by unfold intCells; simp
theorem int_row9 {w : World} {base : Nat} {v : Value} {s : List Int} {z : Int} (h : w.ownsRow base 3 1 v (s.length + 1) (intCells s ++ [.int .i64 z])) : w.ownsRow base 3 1 v (s ++ [z]).length (intCells (s ++ [z])) := by
  rw [intCells_snoc9, List.length_append]
  exact h
theorem take_map_succ {L : List (List Int)} {j q : Nat} {r : List Int} (h : L[j]? = some r) : (L.take (j + 1)).map (fun r => r.getD q 0) = (L.take j).map (fun r => r.getD q 0) ++ [r.getD q 0] := by
  rw [List.take_add_one, h, List.map_append]
  rfl

end Go.Proofs.YticeagjonfifbaaGreatDoor
namespace Go.Proofs.YticeagjonfifbaaGreatDoor
open Go.RowKit

/-- Whether p stands in L. -/
def hasB (L : List (List UInt8)) (p : List UInt8) : Bool := decide (p ∈ L)
theorem hasB_yes {L : List (List UInt8)} {p : List UInt8} {j : Nat} (h : L[j]? = some p) : hasB L p = true := decide_eq_true (List.mem_of_getElem? h)
theorem hasB_no {L : List (List UInt8)} {p : List UInt8} (h : ¬ p ∈ L) : hasB L p = false := decide_eq_false h
theorem notmem_succ {L : List (List UInt8)} {p x : List UInt8} {j : Nat} (hx : L[j]? = some x) (h : ¬ p ∈ L.take j) (hn : ¬ x = p) : ¬ p ∈ L.take (j + 1) := by
  rw [List.take_add_one, hx]
  intro hm
  rcases List.mem_append.1 hm with hm | hm
  · exact h hm
  · have : p = x := by simpa using hm
    exact hn this.symm
theorem sRow_cells {w : World} {v : Value} {L : List (List UInt8)} (h : StrRow w v L) : ∃ a c, v = .slice a L.length c ∧ L.length ≤ 9223372036854775807 ∧ (∀ (q : Nat) r, L[q]? = some r → ∃ b off, a = some ⟨b, off, none⟩ ∧ w.cell? ⟨b, off + q, none⟩ = some (.string ⟨r.toArray⟩)) := by
  rcases h with ⟨rfl, a, c, rfl⟩ | ⟨b, off, c, rfl, hl, _, hc⟩
  · exact ⟨a, c, rfl, by simp, by simp⟩
  · exact ⟨_, c, rfl, hl, fun q p hp => ⟨b, off, rfl, hc q p hp⟩⟩

set_option maxRecDepth 100000 in
set_option maxHeartbeats 2000000 in
theorem specHas_some (w : World) (a : Option Addr) (c : Nat) (L : List (List UInt8)) (p : List UInt8) (hl : L.length ≤ 9223372036854775807)
    (hc : ∀ (q : Nat) r, L[q]? = some r → ∃ b off, a = some ⟨b, off, none⟩ ∧ w.cell? ⟨b, off + q, none⟩ = some (.string ⟨r.toArray⟩)) :
    Calls Tryz.prog 54 #[.slice a L.length c, .string ⟨p.toArray⟩] w fun e w' => e = .returned (.bool (hasB L p)) ∧ ∃ k, w' = w.drewN k := by
  have HC := Lib.hid hc
  clear hc
  obtain ⟨n, hn⟩ : ∃ n : Nat, L.length = n := ⟨_, rfl⟩
  rw [hn] at hl ⊢
  have HE := Lib.hid hn
  clear hn
  go_enter Tryz.func54, Tryz.ntmps54
  go_wp2_with fail
  go_loopw [4, 5] (fun _ i wr => ∃ j z : Nat, j ≤ n ∧ i = .int .i64 j ∧ wr = w.drewN z ∧ ¬ p ∈ L.take j) (fun _ i _ => n - (intOf i).toNat)
  case atStart => exact ⟨0, 0, Nat.zero_le _, rfl, rfl, by simp⟩
  case round =>
    obtain ⟨j, z, hj, rfl, rfl, ht⟩ := hrel
    have HT := Lib.hid ht
    clear ht
    by_cases hlt : j < n
    · have hj1 : (j : Int) < n := by omega
      have hj0 : (0 : Int) ≤ j := by omega
      obtain ⟨x, hx⟩ : ∃ r, L[j]? = some r := ⟨_, List.getElem?_eq_getElem (by rw [HE.out]; exact hlt)⟩
      obtain ⟨b, off, rfl, hcx⟩ := HC.out j x hx
      have HX := Lib.hid hx
      have g1 : (w.drewN z).cell? ⟨b, off + j, none⟩ = some (.string ⟨x.toArray⟩) := hcx
      obtain ⟨wq, hwq⟩ : ∃ wq, w.drewN z = wq := ⟨_, rfl⟩
      rw [hwq] at g1 ⊢
      have HW := Lib.hid hwq
      clear hwq hcx hx
      by_cases hxx : x = p
      · have HXX := Lib.hid hxx
        subst hxx
        go_wp2_with fail
        go_ret
        exact ⟨ret_bool9 (hasB_yes HX.out).symm, _, HW.out.symm⟩
      · have HXX := Lib.hid hxx
        have hne : (x == p) = false := beq_eq_false_iff_ne.2 hxx
        have hne2 := str_ne hxx
        go_wp2_with fail
        go_roundw
        case rel => exact ⟨j + 1, _, by omega, by go_num, HW.out.symm, notmem_succ HX.out HT.out HXX.out⟩
        case measure => simp [intOf]; omega
    · obtain rfl : j = n := by omega
      have hj1 : ¬ (j : Int) < j := by omega
      have HN : Hid (¬ p ∈ L) := Lib.hid (by
        have h := HT.out
        rw [List.take_of_length_le (by rw [HE.out]; exact Nat.le_refl _)] at h
        exact h)
      go_wp2_with fail
      go_ret
      exact ⟨ret_bool9 (hasB_no HN.out).symm, z, rfl⟩

/-- WHETHER A TEXT STANDS IN A LIST. -/
theorem specHas (w : World) (v : Value) (L : List (List UInt8)) (p : List UInt8) (h : StrRow w v L) (r : Bool) (hr : hasB L p = r) :
    Calls Tryz.prog 54 #[v, .string ⟨p.toArray⟩] w fun e w' => e = .returned (.bool r) ∧ ∃ k, w' = w.drewN k := by
  obtain ⟨a, c, rfl, hl, hc⟩ := sRow_cells h
  rw [← hr]
  exact specHas_some w a c L p hl hc
end Go.Proofs.YticeagjonfifbaaGreatDoor
namespace Go.Proofs.YticeagjonfifbaaGreatDoor
open Go.RowKit

theorem cell_apP {w : World} {b base s n : Nat} {T T' : TypeId} {v : Value} {xs : List Value} {cs : Array Value} (hc : w.heap[b]? = some (.cells cs T' (0, 0))) (ho : w.ownsRow base T s v n xs) (hT : T ≠ T') : v.ownBlock ≠ some b := by
  intro e
  rcases ho.2 with ⟨rfl, _⟩ | ⟨g, cap, cur, rfl, _, hg, _⟩
  · cases e
  · simp only [Value.ownBlock, Option.some.injEq] at e
    subst e
    rw [hc] at hg
    injection hg with hg
    injection hg with _ hg
    exact hT hg.symm
/-- What is kept of a table that is being read: its box holds cs. -/
structure RtO (w2 wr : World) (ob : Nat) (cs : Array Value) (T : Tab) (vs : List Value) (u1 u2 u3 : Value) : Prop where
  bel : Below w2.heap.size w2 wr
  box : wr.heap[ob]? = some (.cells cs 28 (0, 0))
  own : TabOwn wr w2.heap.size T vs u1 u2 u3
  ge : w2.heap.size ≤ ob
theorem RtO.next {w2 wr w' : World} {ob : Nat} {cs : Array Value} {T : Tab} {vs : List Value} {u1 u2 u3 : Value} (h : RtO w2 wr ob cs T vs u1 u2 u3) (hB : Below wr.heap.size wr w') : RtO w2 w' ob cs T vs u1 u2 u3 :=
  ⟨bt h.bel hB, blk_next h.box hB, h.own.below hB, h.ge⟩
theorem RtO.set {w2 wr : World} {ob : Nat} {cs : Array Value} {T : Tab} {vs : List Value} {u1 u2 u3 : Value} (h : RtO w2 wr ob cs T vs u1 u2 u3) (i : Nat) (x : Value) : RtO w2 (wr.setCell ⟨ob, i, none⟩ x) ob (cs.setIfInBounds i x) T vs u1 u2 u3 :=
  ⟨h.bel.setCell h.ge _, heap_setCell_same _ _ _ _ _ _ h.box,
    ⟨ownsRow_setCell_other h.own.1 (own_ne_blk h.own.1 h.box (by decide)) _, ownsRow_setCell_other h.own.2.1 (own_ne_blk h.own.2.1 h.box (by decide)) _, h.own.2.2.1.setBox h.box (by decide) i x, ownsRow_setCell_other h.own.2.2.2.1 (own_ne_blk h.own.2.2.2.1 h.box (by decide)) _, h.own.2.2.2.2⟩, h.ge⟩
/-- A row is appended. -/
theorem RtO.pushR {w2 wr w' : World} {ob lo : Nat} {cs : Array Value} {T : Tab} {vs : List Value} {u1 u2 u3 u2' v : Value} {r : List Int} (h : RtO w2 wr ob cs T vs u1 u2 u3) (hv : wr.ownsRow w2.heap.size 3 1 v r.length (intCells r))
    (h1 : ∀ (j : Nat) x g, vs[j]? = some x → x.ownBlock = some g → g < lo) (h2 : ∀ g, v.ownBlock = some g → lo ≤ g) (h3 : ∀ g, u3.ownBlock = some g → g < lo)
    (hg : wr.grownBy w' u2.ownBlock) (ho' : w'.ownsRow w2.heap.size 26 1 u2' (T.rs.length + 1) (vs ++ [v])) : RtO w2 w' ob cs ⟨T.ns, T.y, T.rs ++ [r], T.ys⟩ (vs ++ [v]) u1 u2' u3 := by
  have hT : 3 ≠ 26 := by decide
  have hT2 : 9 ≠ 26 := by decide
  have hT3 : 26 ≠ 28 := by decide
  have hu : w'.ownsRow w2.heap.size 3 1 v (intCells r).length (intCells r) := by
    rw [intCells_len]
    exact owns_keep hv h.own.2.1 hT hg
  refine ⟨h.bel.grown hg h.bel.size (fun k hk => (h.own.2.1.lt k hk).1), ?_, ⟨owns_keep h.own.1 h.own.2.1 hT2 hg, ?_, ?_, owns_keep h.own.2.2.2.1 h.own.2.1 hT hg, ?_⟩, h.ge⟩
  · rw [hg.block _ (blk_lt h.box) (fun e => cell_apP h.box h.own.2.1 hT3 e.symm)]
    exact h.box
  · show w'.ownsRow w2.heap.size 26 1 u2' (T.rs ++ [r]).length (vs ++ [v])
    rw [List.length_append]
    exact ho'
  · show RowsOwn w' w2.heap.size 3 (vs ++ [v]) ((T.rs ++ [r]).map intCells)
    rw [List.map_append]
    exact (h.own.2.2.1.outer h.own.2.1 hT hg).snoc (lo := lo) hu h1 h2
  · intro j u g hu hb hb3
    have hlt := h3 g hb3
    rcases Nat.lt_trichotomy j vs.length with hj | hj | hj
    · rw [List.getElem?_append_left hj] at hu
      exact h.own.2.2.2.2 j u g hu hb hb3
    · subst hj
      rw [List.getElem?_append_right (Nat.le_refl _), Nat.sub_self] at hu
      obtain rfl : v = u := by simpa using hu
      have := h2 g hb
      omega
    · rw [List.getElem?_eq_none (by simp; omega)] at hu
      cases hu
/-- A target's number is appended. -/
theorem RtO.pushY {w2 wr w' : World} {ob : Nat} {cs : Array Value} {T : Tab} {vs : List Value} {u1 u2 u3 : Value} {g3 n3 c3 : Nat} {x : Int} (h : RtO w2 wr ob cs T vs u1 u2 u3) (hg : wr.grownBy w' u3.ownBlock)
    (ho' : w'.ownsRow w2.heap.size 3 1 (.slice (some ⟨g3, 0, none⟩) n3 c3) (T.ys.length + 1) (intCells T.ys ++ [.int .i64 x])) (hat : u3.ownBlock = some g3 ∨ wr.heap.size ≤ g3) : RtO w2 w' ob cs ⟨T.ns, T.y, T.rs, T.ys ++ [x]⟩ vs u1 u2 (.slice (some ⟨g3, 0, none⟩) n3 c3) := by
  have hT : 26 ≠ 3 := by decide
  have hT2 : 9 ≠ 3 := by decide
  have hT3 : 3 ≠ 28 := by decide
  refine ⟨h.bel.grown hg h.bel.size (fun k hk => (h.own.2.2.2.1.lt k hk).1), ?_, ⟨owns_keep h.own.1 h.own.2.2.2.1 hT2 hg, owns_keep h.own.2.1 h.own.2.2.2.1 hT hg, ?_, ?_, ?_⟩, h.ge⟩
  · rw [hg.block _ (blk_lt h.box) (fun e => cell_apP h.box h.own.2.2.2.1 hT3 e.symm)]
    exact h.box
  · exact h.own.2.2.1.kept hg (fun j u g hu hb e => h.own.2.2.2.2 j u g hu hb e)
  · exact int_row9 ho'
  · intro j u g hu hb e
    simp only [Value.ownBlock, Option.some.injEq] at e
    subst e
    rcases hat with hat | hat
    · exact h.own.2.2.2.2 j u _ hu hb hat
    · have := (h.own.2.2.1.lt hu hb).2
      omega
/-- The same beside a row that is being read. -/
structure RrS (w2 wr : World) (ob lo : Nat) (cs : Array Value) (T : Tab) (vs : List Value) (u1 u2 u3 vr : Value) (row : List Int) : Prop where
  st : RtO w2 wr ob cs T vs u1 u2 u3
  row : wr.ownsRow lo 3 1 vr row.length (intCells row)
  le : w2.heap.size ≤ lo
  hi : lo ≤ wr.heap.size
  l1 : ∀ (j : Nat) x g, vs[j]? = some x → x.ownBlock = some g → g < lo
  l3 : ∀ g, u3.ownBlock = some g → g < lo
theorem RrS.next {w2 wr w' : World} {ob lo : Nat} {cs : Array Value} {T : Tab} {vs : List Value} {u1 u2 u3 vr : Value} {row : List Int} (h : RrS w2 wr ob lo cs T vs u1 u2 u3 vr row) (hB : Below wr.heap.size wr w') : RrS w2 w' ob lo cs T vs u1 u2 u3 vr row :=
  ⟨h.st.next hB, owns_bl h.row hB, h.le, Nat.le_trans h.hi hB.size, h.l1, h.l3⟩
theorem RtO.start {w2 wr : World} {ob : Nat} {cs : Array Value} {T : Tab} {vs : List Value} {u1 u2 u3 : Value} (h : RtO w2 wr ob cs T vs u1 u2 u3) : RrS w2 (wr.alloc (.cells #[] 3)) ob wr.heap.size cs T vs u1 u2 u3 (.slice (some ⟨wr.heap.size, 0, none⟩) 0 0) [] :=
  ⟨h.next (bl_al _ _), World.ownsRow_made wr #[] 0 (Nat.le_refl _) (by unfold maxLen; omega) (by simp), h.bel.size, (bl_al wr _).size, fun j x g hx hb => (h.own.2.2.1.lt hx hb).2, fun g hb => (h.own.2.2.2.1.lt g hb).2⟩
theorem RrS.app {w2 wr w' : World} {ob lo : Nat} {cs : Array Value} {T : Tab} {vs : List Value} {u1 u2 u3 vr vr' : Value} {row : List Int} {x : Int} (h : RrS w2 wr ob lo cs T vs u1 u2 u3 vr row) (hg : wr.grownBy w' vr.ownBlock) (ho' : w'.ownsRow lo 3 1 vr' (row.length + 1) (intCells row ++ [.int .i64 x])) : RrS w2 w' ob lo cs T vs u1 u2 u3 vr' (row ++ [x]) := by
  have hT : 26 ≠ 3 := by decide
  have hT2 : 9 ≠ 3 := by decide
  have hT3 : 3 ≠ 28 := by decide
  have hs := h.st
  refine ⟨⟨hs.bel.grown hg hs.bel.size (fun k hk => Nat.le_trans h.le (h.row.lt k hk).1), ?_, ⟨owns_keep hs.own.1 h.row hT2 hg, owns_keep hs.own.2.1 h.row hT hg, hs.own.2.2.1.kept hg (fun j u g hu hb e => ?_), owns_far hs.own.2.2.2.1 hg (fun g e e3 => ?_), hs.own.2.2.2.2⟩, hs.ge⟩, int_row9 ho', h.le, Nat.le_trans h.hi hg.size, h.l1, h.l3⟩
  · rw [hg.block _ (blk_lt hs.box) (fun e => cell_apP hs.box h.row hT3 e.symm)]
    exact hs.box
  · have := h.l1 j u g hu hb
    have := (h.row.lt g e).1
    omega
  · have := h.l3 g e3
    have := (h.row.lt g e).1
    omega
/-- A block that holds no part of a table. -/
structure TabNe (p : Nat) (vs : List Value) (u1 u2 u3 : Value) : Prop where
  n1 : u1.ownBlock ≠ some p
  n2 : u2.ownBlock ≠ some p
  n3 : u3.ownBlock ≠ some p
  nv : ∀ (j : Nat) u, vs[j]? = some u → u.ownBlock ≠ some p
theorem TabOwn.ne {w : World} {base p : Nat} {T : Tab} {vs : List Value} {u1 u2 u3 : Value} {cs : Array Value} {T' : TypeId} (h : TabOwn w base T vs u1 u2 u3) (hb : w.heap[p]? = some (.cells cs T' (0, 0))) (e1 : 9 ≠ T') (e2 : 26 ≠ T') (e3 : 3 ≠ T') : TabNe p vs u1 u2 u3 := by
  refine ⟨own_ne_blk h.1 hb e1, own_ne_blk h.2.1 hb e2, own_ne_blk h.2.2.2.1 hb e3, fun j u hu => ?_⟩
  have hj := (List.getElem?_eq_some_iff.1 hu).1
  have hC : ∃ c, (T.rs.map intCells)[j]? = some c := ⟨_, List.getElem?_eq_getElem (by rw [← h.2.2.1.1]; exact hj)⟩
  obtain ⟨c, hc⟩ := hC
  exact own_ne_blk (h.2.2.1.2.1 j u c hu hc) hb e3
theorem TabOwn.setN {w : World} {base p : Nat} {T : Tab} {vs : List Value} {u1 u2 u3 : Value} (h : TabOwn w base T vs u1 u2 u3) (ne : TabNe p vs u1 u2 u3) (i : Nat) (x : Value) : TabOwn (w.setCell ⟨p, i, none⟩ x) base T vs u1 u2 u3 :=
  ⟨ownsRow_setCell_other h.1 ne.n1 _, ownsRow_setCell_other h.2.1 ne.n2 _, ⟨h.2.2.1.1, fun j u c hu hc => ownsRow_setCell_other (h.2.2.1.2.1 j u c hu hc) (ne.nv j u hu) _, h.2.2.1.2.2⟩, ownsRow_setCell_other h.2.2.2.1 ne.n3 _, h.2.2.2.2⟩
end Go.Proofs.YticeagjonfifbaaGreatDoor
