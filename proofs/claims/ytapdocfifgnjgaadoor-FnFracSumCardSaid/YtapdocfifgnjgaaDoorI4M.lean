
/-
  A magnitude read off its digits: the program's way.
-/
import Derived.Test.YtapdocfifgnjgaaDoorI4T
import Derived.Test.YtapdocfifgnjgaaDoorPk8
namespace Go.Proofs.YtapdocfifgnjgaaDoor
open Go.RowKit

/-- One more byte read: none where it is no digit, or the number too great. -/
def rdStep (a : Option Nat) (c : UInt8) : Option Nat :=
  a.bind fun v => if 48 ≤ c.toNat ∧ c.toNat ≤ 57 ∧ v * 10 + (c.toNat - 48) < 170141183460469231731687303715884105728 then some (v * 10 + (c.toNat - 48)) else none
/-- What the digits stand for. -/
def rdM (l : List UInt8) : Option Nat := l.foldl rdStep (some 0)
theorem rdM_nil : rdM [] = some 0 := rfl
theorem rdM_snoc (l : List UInt8) (c : UInt8) : rdM (l ++ [c]) = rdStep (rdM l) c := by simp [rdM]
theorem rdM_take {l : List UInt8} {k : Nat} {c : UInt8} (hc : l[k]? = some c) : rdM (l.take (k + 1)) = rdStep (rdM (l.take k)) c := by
  rw [List.take_add_one, hc]
  exact rdM_snoc _ _
theorem rdM_none {l : List UInt8} {k : Nat} (h : rdM (l.take k) = none) : rdM l = none := by
  have e : ∀ (r : List UInt8), r.foldl rdStep none = none := by
    intro r
    induction r with
    | nil => rfl
    | cons c r ih => exact ih
  have := List.take_append_drop k l
  rw [← this, rdM, List.foldl_append]
  rw [rdM] at h
  rw [h]
  exact e _
theorem rdStep_lt {a : Option Nat} {c : UInt8} (h : a.getD 0 < 170141183460469231731687303715884105728) : (rdStep a c).getD 0 < 170141183460469231731687303715884105728 := by
  cases a with
  | none => simp [rdStep]
  | some v =>
    simp only [rdStep, Option.bind_some]
    split
    · rename_i h; simp; omega
    · simp
theorem rdM_lt (l : List UInt8) : (rdM l).getD 0 < 170141183460469231731687303715884105728 := by
  have e : ∀ (r : List UInt8) (a : Option Nat), a.getD 0 < 170141183460469231731687303715884105728 → (r.foldl rdStep a).getD 0 < 170141183460469231731687303715884105728 := by
    intro r
    induction r with
    | nil => intro a h; exact h
    | cons c r ih => intro a h; exact ih _ (rdStep_lt h)
  exact e l _ (by simp)
/-- Ten times what was read, and the next byte. -/
theorem ten_rd {v : Nat} (hv : v < 170141183460469231731687303715884105728) (c : UInt8) :
    tenE false ((v : Int) / 18446744073709551616) ((v : Int) % 18446744073709551616) ((c.toNat : Int) - 48) = .returned (.tuple #[.agg #[.bool false, .int .u64 ((((rdStep (some v) c).getD 0 : Nat) : Int) / 18446744073709551616), .int .u64 ((((rdStep (some v) c).getD 0 : Nat) : Int) % 18446744073709551616)], .bool (rdStep (some v) c).isSome]) := by
  by_cases h : 48 ≤ c.toNat ∧ c.toNat ≤ 57 ∧ v * 10 + (c.toNat - 48) < 170141183460469231731687303715884105728
  · have e : rdStep (some v) c = some (v * 10 + (c.toNat - 48)) := by simp only [rdStep, Option.bind_some]; rw [if_pos h]
    rw [e]
    exact ten_yes2 hv (by omega) (by omega) (by simp; omega) (by simp; omega)
  · have e : rdStep (some v) c = none := by simp only [rdStep, Option.bind_some]; rw [if_neg h]
    rw [e, ten_no hv (by omega)]
    rfl
theorem blkM {w : World} {b : Nat} {cs : Array Value} {T : TypeId} {f : Nat × Nat} (h : w.heap[b]? = some (.cells cs T f)) : b < w.heap.size := by
  rcases Nat.lt_or_ge b w.heap.size with hl | hl
  · exact hl
  · rw [Array.getElem?_eq_none hl] at h; cases h
theorem st3_blk {w : World} {X : Nat} {a0 a1 a2 b0 b1 b2 : Value} {T : TypeId} (h : w.heap[X]? = some (.cells #[a0, a1, a2] T (0, 0))) :
    (((w.setCell ⟨X, 0, none⟩ b0).setCell ⟨X, 1, none⟩ b1).setCell ⟨X, 2, none⟩ b2).heap[X]? = some (.cells #[b0, b1, b2] T (0, 0)) := by
  have h1 := Lib.heap_setCell_same (i := 0) h b0
  have h2 := Lib.heap_setCell_same (i := 1) h1 b1
  have h3 := Lib.heap_setCell_same (i := 2) h2 b2
  rw [h3]
  rfl
theorem st3_blk_far {w : World} {X Y : Nat} (b0 b1 b2 : Value) (h : X ≠ Y) :
    (((w.setCell ⟨X, 0, none⟩ b0).setCell ⟨X, 1, none⟩ b1).setCell ⟨X, 2, none⟩ b2).heap[Y]? = w.heap[Y]? := by
  simp [World.setCell, Array.getElem?_modify, h]
/-- What the loop keeps: how far it has read, what that stands for. -/
def MagRel (w : World) (l : List UInt8) (ok i : Value) (wr : World) : Prop :=
  ∃ (k : Nat) (hh ll : Int), k ≤ l.length ∧ i = .int .i64 k ∧ ok = .bool (rdM (l.take k)).isSome ∧ Hid (hh = (((rdM (l.take k)).getD 0 : Nat) : Int) / 18446744073709551616 ∧ ll = (((rdM (l.take k)).getD 0 : Nat) : Int) % 18446744073709551616) ∧
    wr.heap[w.heap.size]? = some (.cells #[.bool false, .int .u64 0, .int .u64 0] 26 (0, 0)) ∧ wr.heap[w.heap.size + 1]? = some (.cells #[.bool false, .int .u64 hh, .int .u64 ll] 26 (0, 0)) ∧ Below w.heap.size w wr
set_option maxRecDepth 100000 in
set_option maxHeartbeats 1000000 in
theorem implReadMag (s : ByteArray) (hsz : s.size ≤ 9223372036854775807) (w : World) :
    Calls Tryd.prog 41 #[.string s] w fun e w' => e = .returned (.tuple #[.agg #[.bool false, .int .u64 ((((rdM s.data.toList).getD 0 : Nat) : Int) / 18446744073709551616), .int .u64 ((((rdM s.data.toList).getD 0 : Nat) : Int) % 18446744073709551616)], .bool (rdM s.data.toList).isSome]) ∧ Below w.heap.size w w' := by
  go_enter Tryd.func41, Tryd.ntmps41
  go_wp2_with fail
  go_loopw [5, 6] (fun ok i wr => MagRel w s.data.toList ok i wr) (fun _ i _ => s.size - (intOf i).toNat)
  case atStart =>
    obtain ⟨hR, hW, hB, _⟩ := box2 (w := w) (a := #[.bool false, .int .u64 0, .int .u64 0]) (b := #[.bool false, .int .u64 0, .int .u64 0]) (T := 26) (U := 26) (Below.refl _ _)
    exact ⟨0, 0, 0, by simp, rfl, rfl, Lib.hid (by simp [rdM]), hR, hW, hB⟩
  case round =>
    obtain ⟨k, hh, ll, hk, rfl, rfl, HV, hR, hW, hB⟩ := hrel
    have hb := rdM_lt (s.data.toList.take k)
    have p0 : 0 ≤ hh ∧ hh < 18446744073709551616 := by have := HV.out; omega
    have p1 : 0 ≤ ll ∧ ll < 18446744073709551616 := by have := HV.out; omega
    have hk2 : k ≤ s.size := by simpa using hk
    cases ha : rdM (s.data.toList.take k) with
    | none =>
      rw [ha] at HV
      have hf := rdM_none ha
      have c0 : wr.cell? ⟨w.heap.size + 1, 0, none⟩ = some (.bool false) := cell_blk hW 0
      have c1 : wr.cell? ⟨w.heap.size + 1, 1, none⟩ = some (.int .u64 hh) := cell_blk hW 1
      have c2 : wr.cell? ⟨w.heap.size + 1, 2, none⟩ = some (.int .u64 ll) := cell_blk hW 2
      have d0 : wr.cell? ⟨w.heap.size, 0, none⟩ = some (.bool false) := cell_blk hR 0
      have d1 : wr.cell? ⟨w.heap.size, 1, none⟩ = some (.int .u64 0) := cell_blk hR 1
      have d2 : wr.cell? ⟨w.heap.size, 2, none⟩ = some (.int .u64 0) := cell_blk hR 2
      have hfr := free_blk hR
      have hlW := blkM hW
      go_wp2_with fail
      all_goals (try simp only [Exit.inBlock, Exit.then])
      all_goals refine bodyPost_ret (v := .tuple #[.agg #[.bool false, .int .u64 hh, .int .u64 ll], .bool false]) ?_ rfl ⟨?_, ?_⟩
      all_goals first
        | (rw [results_cell_tmp rfl]; go_simp; done)
        | (simp [hf, HV.out.1, HV.out.2]; done)
        | exact st3_below hB (by omega) _ _ _
    | some v =>
      rw [ha] at HV hb
      by_cases hlt : k < s.size
      · have hat := at_byteW hlt
        have hu0 : (0 : Int) ≤ (s[k].toNat : Int) := by omega
        have hu1 : (s[k].toNat : Int) ≤ 255 := by have := UInt8.toNat_lt s[k]; omega
        have hw1 : IntKind.i64.wrap (s[k].toNat : Int) = (s[k].toNat : Int) := by rw [IntKind.wrap_i64]; omega
        have hw2 : IntKind.i64.wrap ((s[k].toNat : Int) - 48) = (s[k].toNat : Int) - 48 := by rw [IntKind.wrap_i64]; omega
        have hstep := rdM_take hat
        rw [ha] at hstep
        have HT := ten_rd (v := v) hb s[k]
        obtain ⟨h2, g0⟩ : ∃ x : Int, x = (((rdStep (some v) s[k]).getD 0 : Nat) : Int) / 18446744073709551616 := ⟨_, rfl⟩
        obtain ⟨l2, g1⟩ : ∃ x : Int, x = (((rdStep (some v) s[k]).getD 0 : Nat) : Int) % 18446744073709551616 := ⟨_, rfl⟩
        obtain ⟨b2, g2⟩ : ∃ x : Bool, x = (rdStep (some v) s[k]).isSome := ⟨_, rfl⟩
        have hv : hh = (v : Int) / 18446744073709551616 ∧ ll = (v : Int) % 18446744073709551616 := HV.out
        rw [← hv.1, ← hv.2, ← g0, ← g1, ← g2] at HT
        rw [← hstep] at g0 g1 g2
        replace HT := Lib.hid HT
        have HW := Lib.hid (And.intro g0 g1)
        have HG := Lib.hid g2
        clear hv g0 g1 g2 hstep hat hb HV ha
        go_wp2_with fail
        have hlR := blkM hR
        have hlW := blkM hW
        refine wp_region_noPanic ?_
        refine wp_region_held_drew (S := (fun _ => True)) (by kernel_rfl) trivial (fun hHeld => ?_)
        refine wpAnyH_take (i := 1) (oi := ?o1) (v := ?v1) ?hi1 ?hs1 ?hf1 ?hr1 ?hQ1 ?hy1 ?hS1 ?rest1
        case hi1 => rfl
        case hs1 => kernel_rfl
        case hf1 => kernel_rfl
        case hr1 => kernel_rfl
        case hQ1 => exact fun _ _ _ h => h
        case hS1 => trivial
        case hy1 =>
          refine Or.inl ⟨by kernel_rfl, ?_⟩
          intro w' hSw
          (try dsimp only at hSw)
          go_simp
          (try rfl)
        (try simp only [List.getElem_toArray, List.getElem_cons_succ, List.getElem_cons_zero, Act.put, List.setIfInBounds_toArray, List.set_cons_zero, List.set_cons_succ])
        refine wpAnyH_take (i := 2) (oi := ?o2) (v := ?v2) ?hi2 ?hs2 ?hf2 ?hr2 ?hQ2 ?hy2 ?hS2 ?rest2
        case hi2 => rfl
        case hs2 => kernel_rfl
        case hf2 => kernel_rfl
        case hr2 => kernel_rfl
        case hQ2 => exact fun _ _ _ h => h
        case hS2 => trivial
        case hy2 =>
          refine Or.inl ⟨by kernel_rfl, ?_⟩
          intro w' hSw
          (try dsimp only at hSw)
          go_simp
          (try rfl)
        (try simp only [List.getElem_toArray, List.getElem_cons_succ, List.getElem_cons_zero, Act.put, List.setIfInBounds_toArray, List.set_cons_zero, List.set_cons_succ])
        refine wpAnyH_take (i := 3) (oi := ?o3) (v := ?v3) ?hi3 ?hs3 ?hf3 ?hr3 ?hQ3 ?hy3 ?hS3 ?rest3
        case hi3 => rfl
        case hs3 => kernel_rfl
        case hf3 => kernel_rfl
        case hr3 => kernel_rfl
        case hQ3 => exact fun _ _ _ h => h
        case hS3 => trivial
        case hy3 =>
          refine Or.inl ⟨by kernel_rfl, ?_⟩
          intro w' hSw
          (try dsimp only at hSw)
          go_simp
          (try rfl)
        (try simp only [List.getElem_toArray, List.getElem_cons_succ, List.getElem_cons_zero, Act.put, List.setIfInBounds_toArray, List.set_cons_zero, List.set_cons_succ])
        refine wpAnyH_take (i := 4) (oi := ?o4) (v := ?v4) ?hi4 ?hs4 ?hf4 ?hr4 ?hQ4 ?hy4 ?hS4 ?rest4
        case hi4 => rfl
        case hs4 => kernel_rfl
        case hf4 => kernel_rfl
        case hr4 => kernel_rfl
        case hQ4 => exact fun _ _ _ h => h
        case hS4 => trivial
        case hy4 =>
          refine Or.inl ⟨by kernel_rfl, ?_⟩
          intro w' hSw
          (try dsimp only at hSw)
          go_simp
          (try rfl)
        (try simp only [List.getElem_toArray, List.getElem_cons_succ, List.getElem_cons_zero, Act.put, List.setIfInBounds_toArray, List.set_cons_zero, List.set_cons_succ])
        refine wpAnyH_take (i := 5) (oi := ?o5) (v := ?v5) ?hi5 ?hs5 ?hf5 ?hr5 ?hQ5 ?hy5 ?hS5 ?rest5
        case hi5 => rfl
        case hs5 => kernel_rfl
        case hf5 => kernel_rfl
        case hr5 => kernel_rfl
        case hQ5 => exact fun _ _ _ h => h
        case hS5 => trivial
        case hy5 =>
          refine Or.inl ⟨by kernel_rfl, ?_⟩
          intro w' hSw
          (try dsimp only at hSw)
          go_simp
          (try rfl)
        (try simp only [List.getElem_toArray, List.getElem_cons_succ, List.getElem_cons_zero, Act.put, List.setIfInBounds_toArray, List.set_cons_zero, List.set_cons_succ])
        have c0 : wr.drew.cell? ⟨w.heap.size + 1, 0, none⟩ = some (.bool false) := cell_blk hW 0
        have c1 : wr.drew.cell? ⟨w.heap.size + 1, 1, none⟩ = some (.int .u64 hh) := cell_blk hW 1
        have c2 : wr.drew.cell? ⟨w.heap.size + 1, 2, none⟩ = some (.int .u64 ll) := cell_blk hW 2
        refine wpAnyH_ready (rs := [0]) (by kernel_rfl) (by simp) ?_
        refine AllReadyH.cons rfl (fun K hK => ?_) AllReadyH.nil
        go_simp
        refine hK.out _ _ ?_ (fun hHeld => ?_)
        · trivial
        clear hK K
        (try simp only [List.getElem_toArray, List.getElem_cons_succ, List.getElem_cons_zero, Act.put, List.setIfInBounds_toArray, List.set_cons_zero, List.set_cons_succ])
        clear c0 c1 c2
        refine wpAnyH_ready (rs := [6]) (by kernel_rfl) (by simp) ?_
        refine AllReadyH.cons rfl (fun K hK => ?_) AllReadyH.nil
        go_simp
        refine (implTenTimes false _ _ _ p0.1 p0.2 p1.1 p1.2 _).mono ?_
        rintro e w6 ⟨rfl, hB6⟩
        rw [HT.out]
        replace hB6 := below_of_drew hB6
        replace hR := box_still hR hB6
        replace hW := box_still hW hB6
        replace hB := bt2 hB hB6
        clear hB6 hlR hlW
        refine hK.out _ _ ?_ (fun hHeld => ?_)
        · trivial
        clear hK K
        (try simp only [List.getElem_toArray, List.getElem_cons_succ, List.getElem_cons_zero, Act.put, List.setIfInBounds_toArray, List.set_cons_zero, List.set_cons_succ])
        refine wpAnyH_take (i := 7) (oi := ?o6) (v := ?v6) ?hi6 ?hs6 ?hf6 ?hr6 ?hQ6 ?hy6 ?hS6 ?rest6
        case hi6 => rfl
        case hs6 => kernel_rfl
        case hf6 => kernel_rfl
        case hr6 => kernel_rfl
        case hQ6 => exact fun _ _ _ h => h
        case hS6 => trivial
        case hy6 =>
          refine Or.inl ⟨by kernel_rfl, ?_⟩
          intro w' hSw
          (try dsimp only at hSw)
          go_simp
          (try rfl)
        (try simp only [List.getElem_toArray, List.getElem_cons_succ, List.getElem_cons_zero, Act.put, List.setIfInBounds_toArray, List.set_cons_zero, List.set_cons_succ])
        refine wpAnyH_take (i := 8) (oi := ?o7) (v := ?v7) ?hi7 ?hs7 ?hf7 ?hr7 ?hQ7 ?hy7 ?hS7 ?rest7
        case hi7 => rfl
        case hs7 => kernel_rfl
        case hf7 => kernel_rfl
        case hr7 => kernel_rfl
        case hQ7 => exact fun _ _ _ h => h
        case hS7 => trivial
        case hy7 =>
          refine Or.inl ⟨by kernel_rfl, ?_⟩
          intro w' hSw
          (try dsimp only at hSw)
          go_simp
          (try rfl)
        (try simp only [List.getElem_toArray, List.getElem_cons_succ, List.getElem_cons_zero, Act.put, List.setIfInBounds_toArray, List.set_cons_zero, List.set_cons_succ])
        refine wpAnyH_take (i := 9) (oi := ?o8) (v := ?v8) ?hi8 ?hs8 ?hf8 ?hr8 ?hQ8 ?hy8 ?hS8 ?rest8
        case hi8 => rfl
        case hs8 => kernel_rfl
        case hf8 => kernel_rfl
        case hr8 => kernel_rfl
        case hQ8 => exact fun _ _ _ h => h
        case hS8 => trivial
        case hy8 =>
          refine Or.inl ⟨by kernel_rfl, ?_⟩
          intro w' hSw
          (try dsimp only at hSw)
          go_simp
          (try rfl)
        (try simp only [List.getElem_toArray, List.getElem_cons_succ, List.getElem_cons_zero, Act.put, List.setIfInBounds_toArray, List.set_cons_zero, List.set_cons_succ])
        have c0 : w6.cell? ⟨w.heap.size + 1, 0, none⟩ = some (.bool false) := cell_blk hW 0
        have c1 : w6.cell? ⟨w.heap.size + 1, 1, none⟩ = some (.int .u64 hh) := cell_blk hW 1
        have c2 : w6.cell? ⟨w.heap.size + 1, 2, none⟩ = some (.int .u64 ll) := cell_blk hW 2
        have hfr := free_blk hW
        have hlW := blkM hW
        refine wpAnyH_ready (rs := [10]) (by kernel_rfl) (by simp) ?_
        refine AllReadyH.cons rfl (fun K hK => ?_) AllReadyH.nil
        go_simp
        refine hK.out _ _ ?_ (fun hHeld => ?_)
        · trivial
        clear hK K
        (try simp only [List.getElem_toArray, List.getElem_cons_succ, List.getElem_cons_zero, Act.put, List.setIfInBounds_toArray, List.set_cons_zero, List.set_cons_succ])
        clear c0 c1 c2 hfr
        refine wpAnyH_take (i := 11) (oi := ?o9) (v := ?v9) ?hi9 ?hs9 ?hf9 ?hr9 ?hQ9 ?hy9 ?hS9 ?rest9
        case hi9 => rfl
        case hs9 => kernel_rfl
        case hf9 => kernel_rfl
        case hr9 => kernel_rfl
        case hQ9 => exact fun _ _ _ h => h
        case hS9 => trivial
        case hy9 =>
          refine Or.inl ⟨by kernel_rfl, ?_⟩
          intro w' hSw
          (try dsimp only at hSw)
          go_simp
          (try rfl)
        (try simp only [List.getElem_toArray, List.getElem_cons_succ, List.getElem_cons_zero, Act.put, List.setIfInBounds_toArray, List.set_cons_zero, List.set_cons_succ])
        refine wpAnyH_done (by kernel_rfl) ?_ _
        refine NoPanic.normal ?_
        go_wp2_with fail
        go_roundw
        case rel => exact ⟨k + 1, h2, l2, by simp; omega, by go_num, by rw [HG.out], HW, (st3_blk_far _ _ _ (by omega)).trans hR, st3_blk hW, st3_below hB (by omega) _ _ _⟩
        case measure =>
          simp [intOf]
          omega
      · have hkk : k = s.data.toList.length := by
          have : s.data.toList.length = s.size := by simp
          omega
        rw [hkk, List.take_length] at ha
        have c0 : wr.cell? ⟨w.heap.size + 1, 0, none⟩ = some (.bool false) := cell_blk hW 0
        have c1 : wr.cell? ⟨w.heap.size + 1, 1, none⟩ = some (.int .u64 hh) := cell_blk hW 1
        have c2 : wr.cell? ⟨w.heap.size + 1, 2, none⟩ = some (.int .u64 ll) := cell_blk hW 2
        have d0 : wr.cell? ⟨w.heap.size, 0, none⟩ = some (.bool false) := cell_blk hR 0
        have d1 : wr.cell? ⟨w.heap.size, 1, none⟩ = some (.int .u64 0) := cell_blk hR 1
        have d2 : wr.cell? ⟨w.heap.size, 2, none⟩ = some (.int .u64 0) := cell_blk hR 2
        have hfr := free_blk hR
        have hlW := blkM hW
        clear hkk
        go_wp2_with fail
        all_goals (try simp only [Exit.inBlock, Exit.then])
        all_goals refine bodyPost_ret (v := .tuple #[.agg #[.bool false, .int .u64 hh, .int .u64 ll], .bool true]) ?_ rfl ⟨?_, ?_⟩
        all_goals first
          | (rw [results_cell_tmp rfl]; go_simp; done)
          | (simp [ha, HV.out.1, HV.out.2]; done)
          | exact st3_below hB (by omega) _ _ _
end Go.Proofs.YtapdocfifgnjgaaDoor
