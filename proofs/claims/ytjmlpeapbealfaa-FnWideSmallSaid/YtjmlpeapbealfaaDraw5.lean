
/-
  Draws of a text of a wide number, of a wide number and a digit.
-/
import Derived.Test.YtjmlpeapbealfaaDraw4
namespace Go.Proofs.Ytjmlpeapbealfaa
open Go.RowKit

theorem textV_len {n : Bool} {h l : Int} (h0 : 0 ≤ h) (l0 : 0 ≤ l) (l1 : l < 18446744073709551616) : (textV n h l).length ≤ 40 := by
  by_cases k : okV n h l = true
  · exact (isW_parts (isW_text h0 l0 l1 k)).2.2.2.2.2
  · rw [textV, if_neg k]; simp
/-- A wide number and a small int. -/
def TenOut (e : Ending) : Prop := ∃ (n : Bool) (h l d : Int), (0 ≤ h ∧ h < 18446744073709551616) ∧ (0 ≤ l ∧ l < 18446744073709551616) ∧ (-1 ≤ d ∧ d ≤ 10) ∧ e = .returned (.tuple #[.agg #[.bool n, .int .u64 h, .int .u64 l], .int .i64 d])

set_option maxRecDepth 100000 in
set_option maxHeartbeats 1000000 in
theorem drawReadWide (w : World) (v : Value) (n : Nat) (hb : Bytes w v n) :
    Calls Try.prog 31 #[v] w fun e w' => StrOut 100 e ∧ Below w.heap.size w w' := by
  go_enter Try.func31, Try.ntmps31
  go_wp2_with fail
  refine (l1New w v n hb).mono ?_
  rintro e w1 ⟨rfl, hc1, _⟩
  go_wp2_with fail
  refine (l1Once w _ _ 3 (by omega) (by omega) hc1).mono ?_
  rintro e w2 ⟨⟨b, rfl⟩, hc2, hg2⟩
  cases b with
  | false =>
    go_wp2_with fail
    refine (l3Wide w _ _ hc2).mono ?_
    rintro e w3 ⟨⟨n0, h0, l0, hh, hl, rfl⟩, hc3⟩
    go_wp2_with fail
    refine (specWideText n0 h0 l0 hh.1 hl.1 hl.2 _).mono ?_
    rintro e w4 ⟨rfl, hB4⟩
    go_wp2_with fail
    go_ret
    refine ⟨⟨_, ?_, rfl⟩, (cur_below hc3).trans (hB4.mono (cur_below hc3).size)⟩
    have := textV_len (n := n0) hh.1 hl.1 hl.2
    show (textV n0 h0 l0).toArray.size ≤ 100
    simp
    omega
  | true =>
    have hne : w2.heap.size ≠ w.heap.size := by have := hc2.lt; omega
    go_wp2_with fail
    refine (l1Pick w _ _ w2.heap.size 10 100 (by omega) (by omega) hne ?_ (hc2.alloc _)).mono ?_
    · refine strList 100 ?_ ?_
      · rfl
      · decide
    rintro e w3 ⟨⟨s, hs, rfl⟩, hc3, hg3⟩
    go_wp2_with fail
    go_ret
    exact ⟨⟨s, hs, rfl⟩, cur_below hc3⟩
set_option maxRecDepth 100000 in
set_option maxHeartbeats 1000000 in
theorem drawTenTimes (w : World) (v : Value) (n : Nat) (hb : Bytes w v n) :
    Calls Try.prog 36 #[v] w fun e w' => TenOut e ∧ Below w.heap.size w w' := by
  go_enter Try.func36, Try.ntmps36
  go_wp2_with fail
  have hb1 : Bytes (w.alloc (.cells #[.bool false, .int .u64 0, .int .u64 0] 30)) v n := hb.mono ((Below.refl _ _).alloc (Nat.le_refl _) _)
  have hsz : (w.alloc (.cells #[.bool false, .int .u64 0, .int .u64 0] 30)).heap.size = w.heap.size + 1 := by simp
  refine (l1New (w.alloc (.cells #[.bool false, .int .u64 0, .int .u64 0] 30)) v n hb1).mono ?_
  rintro e w1 ⟨rfl, hc1, _⟩
  rw [hsz] at hc1
  clear hb1
  go_wp2_with fail
  refine (l1Once (w.alloc (.cells #[.bool false, .int .u64 0, .int .u64 0] 30)) _ _ 4 (by omega) (by omega) hc1).mono ?_
  rintro e w2 ⟨⟨q, rfl⟩, hc2, hg2⟩
  cases q with
  | true =>
    go_wp2_with fail
    refine (l1Below (w.alloc (.cells #[.bool false, .int .u64 0, .int .u64 0] 30)) _ _ 10 (by omega) (by omega) hc2).mono ?_
    rintro e w3 ⟨⟨m, hm, rfl⟩, hc3, hg3⟩
    have hXr := box_kept (cur_below hc3)
    have HT := Lib.hid (box_below (cur_below hc3))
    have hcr0 : w3.cell? ⟨w.heap.size, 0, none⟩ = some (.bool false) := cell_blk hXr 0
    have hfr0 := free_blk hXr 0
    have hcr1 : w3.cell? ⟨w.heap.size, 1, none⟩ = some (.int .u64 0) := cell_blk hXr 1
    have hfr1 := free_blk hXr 1
    have hcr2 : w3.cell? ⟨w.heap.size, 2, none⟩ = some (.int .u64 0) := cell_blk hXr 2
    have hfr2 := free_blk hXr 2
    go_wp2_with fail
    (try simp only [Exit.inBlock, Exit.then])
    refine bodyPost_ret (v := .tuple #[.agg #[.bool false, .int .u64 922337203685477580, .int .u64 14757395258967641292], .int .i64 m]) ?_ rfl ⟨⟨_, _, _, _, ⟨by omega, by omega⟩, ⟨by omega, by omega⟩, by omega, rfl⟩, ?_⟩
    · rw [results_cell_tmp rfl]
      go_simp
    · repeat' (first | with_reducible exact HT.out | with_reducible refine Below.drew ?_ | refine Below.setCell ?_ (by simp <;> omega) _)
  | false =>
    go_wp2_with fail
    refine (l3Wide (w.alloc (.cells #[.bool false, .int .u64 0, .int .u64 0] 30)) _ _ hc2).mono ?_
    rintro e w3 ⟨⟨n0, h0, l0, hh, hl, rfl⟩, hc3⟩
    go_wp2_with fail
    refine (l1Below (w.alloc (.cells #[.bool false, .int .u64 0, .int .u64 0] 30)) _ _ 12 (by omega) (by omega) hc3).mono ?_
    rintro e w4 ⟨⟨m, hm, rfl⟩, hc4, hg4⟩
    have hXr := box_kept (cur_below hc4)
    have HT := Lib.hid (box_below (cur_below hc4))
    have hcr0 : w4.cell? ⟨w.heap.size, 0, none⟩ = some (.bool false) := cell_blk hXr 0
    have hfr0 := free_blk hXr 0
    have hcr1 : w4.cell? ⟨w.heap.size, 1, none⟩ = some (.int .u64 0) := cell_blk hXr 1
    have hfr1 := free_blk hXr 1
    have hcr2 : w4.cell? ⟨w.heap.size, 2, none⟩ = some (.int .u64 0) := cell_blk hXr 2
    have hfr2 := free_blk hXr 2
    go_wp2_with fail
    (try simp only [Exit.inBlock, Exit.then])
    refine bodyPost_ret (v := .tuple #[.agg #[.bool n0, .int .u64 h0, .int .u64 l0], .int .i64 ((m : Int) - 1)]) ?_ rfl ⟨⟨_, _, _, _, hh, hl, by omega, rfl⟩, ?_⟩
    · rw [results_cell_tmp rfl]
      go_simp
    · repeat' (first | with_reducible exact HT.out | with_reducible refine Below.drew ?_ | refine Below.setCell ?_ (by simp <;> omega) _)
end Go.Proofs.Ytjmlpeapbealfaa
