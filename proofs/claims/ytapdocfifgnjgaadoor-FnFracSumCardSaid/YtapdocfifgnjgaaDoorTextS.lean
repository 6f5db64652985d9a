
/-
  The text of a wide number: the reference's way.
-/
import Derived.Test.YtapdocfifgnjgaaDoorTenS
import Derived.Test.YtapdocfifgnjgaaDoorPk1
import Derived.Test.YtapdocfifgnjgaaDoorPk6
namespace Go.Proofs.YtapdocfifgnjgaaDoor
open Go.RowKit

/-- What is left to write, and what is written. -/
def DigW (u v : Nat) (o : List UInt8) : Prop := (o = [] ∧ v = u) ∨ (o ≠ [] ∧ Lib.decDigits u = (if v = 0 then [] else Lib.decDigits v) ++ o)
theorem decDigits_step (v : Nat) : Lib.decDigits v = (if v / 10 = 0 then [] else Lib.decDigits (v / 10)) ++ [UInt8.ofNat (48 + v % 10)] := by
  by_cases h : v < 10
  · rw [if_pos (by omega), Lib.decDigits, dif_pos h, show v % 10 = v by omega]; rfl
  · rw [if_neg (by omega)]
    conv => lhs; rw [Lib.decDigits, dif_neg h]
theorem digW_step {u v : Nat} {o : List UInt8} (h : DigW u v o) (hv : o = [] ∨ v ≠ 0) : DigW u (v / 10) (UInt8.ofNat (48 + v % 10) :: o) := by
  refine Or.inr ⟨by simp, ?_⟩
  rcases h with ⟨rfl, rfl⟩ | ⟨ho, h⟩
  · exact decDigits_step v
  · have hv2 : v ≠ 0 := hv.resolve_left ho
    rw [h, if_neg hv2]
    conv => lhs; rw [decDigits_step v]
    simp
theorem digW_done {u : Nat} {o : List UInt8} (h : DigW u 0 o) (ho : o ≠ []) : o = Lib.decDigits u := by
  rcases h with ⟨h, _⟩ | ⟨_, h⟩
  · exact absurd h ho
  · simpa using h.symm
theorem digW_len {u v : Nat} {o : List UInt8} (h : DigW u v o) (hu : u < 170141183460469231731687303715884105728) : o.length ≤ 39 ∧ (v ≠ 0 → o.length < 39) := by
  have hl := decDigits_len39 hu
  rcases h with ⟨rfl, _⟩ | ⟨_, h⟩
  · simp
  · rw [h, List.length_append] at hl
    refine ⟨by omega, fun hv => ?_⟩
    rw [if_neg hv] at hl
    have := decDigits_pos v
    omega
theorem byte_cons (k : Nat) (o : List UInt8) : (({ data := #[48 + UInt8.ofNat k] } : ByteArray) ++ { data := o.toArray }) = { data := (UInt8.ofNat (48 + k) :: o).toArray } := by
  rw [show UInt8.ofNat (48 + k) = 48 + UInt8.ofNat k from UInt8.ofNat_add 48 k]
  apply ByteArray.ext
  simp
theorem byte_minus (o : List UInt8) : (({ data := #[45] } : ByteArray) ++ { data := o.toArray }) = { data := (45 :: o).toArray } := by
  apply ByteArray.ext
  simp
theorem digW_int {u : Nat} {v : Int} {o : List UInt8} (v0 : 0 ≤ v) (h : DigW u v.toNat o) (hv : o = [] ∨ v.toNat ≠ 0) : DigW u (v / 10).toNat (UInt8.ofNat (48 + (v % 10).toNat) :: o) := by
  have := digW_step h hv
  rwa [show v.toNat / 10 = (v / 10).toNat by omega, show v.toNat % 10 = (v % 10).toNat by omega] at this
/-- How long a text is. -/
def strLen (v : Value) : Nat := match v with | .string b => b.size | _ => 0

theorem strLen_list (l : List UInt8) : strLen (.string { data := l.toArray }) = l.length := by
  show l.toArray.size = l.length
  simp
theorem mea (k : Nat) (o : List UInt8) (h : o.length < 40) : 40 - strLen (.string (({ data := #[48 + UInt8.ofNat k] } : ByteArray) ++ { data := o.toArray })) < 40 - strLen (.string { data := o.toArray }) := by
  rw [byte_cons, strLen_list, strLen_list, List.length_cons]
  omega
set_option maxRecDepth 100000 in
set_option maxHeartbeats 1000000 in
theorem specText_no (n0 : Bool) (h0 l0 : Int) (hk : okV n0 h0 l0 = false) (w : World) :
    Calls Tryd.prog 38 #[.agg #[.bool n0, .int .u64 h0, .int .u64 l0]] w fun e w' => e = .returned (.string ⟨#[]⟩) ∧ Below w.heap.size w w' := by
  go_enter Tryd.func38, Tryd.ntmps38
  go_wp2_with fail
  refine (specWideOk n0 h0 l0 _).mono ?_
  rintro e w1 ⟨rfl, hB⟩
  rw [hk]
  have HB := box_below hB
  clear hB
  go_wp2_with fail
  go_ret
  exact ⟨rfl, HB⟩
set_option maxRecDepth 100000 in
set_option maxHeartbeats 2000000 in
theorem specText_ok (n0 : Bool) (u : Nat) (hu : u < 170141183460469231731687303715884105728) (hk : okV n0 ((u : Int) / 18446744073709551616) ((u : Int) % 18446744073709551616) = true) (w : World) :
    Calls Tryd.prog 38 #[.agg #[.bool n0, .int .u64 ((u : Int) / 18446744073709551616), .int .u64 ((u : Int) % 18446744073709551616)]] w fun e w' => e = .returned (.string ⟨((if n0 = true then [45] else []) ++ Lib.decDigits u).toArray⟩) ∧ Below w.heap.size w w' := by
  obtain ⟨z, hz⟩ : ∃ z : Int, z = u := ⟨_, rfl⟩
  have z0 : 0 ≤ z := by omega
  have z1 : z < 170141183460469231731687303715884105728 := by omega
  rw [← hz] at hk ⊢
  have HZ := Lib.hid hz
  clear hz
  go_enter Tryd.func38, Tryd.ntmps38
  go_wp2_with fail
  refine (specWideOk n0 _ _ _).mono ?_
  rintro e w1 ⟨rfl, hB⟩
  rw [hk]
  have hk1 := box_kept hB
  have HB := Lib.hid (box_below hB)
  have hca0 := cell_blk hk1 0
  have hca1 := cell_blk hk1 1
  have hca2 := cell_blk hk1 2
  clear hB
  go_wp2_with fail
  have hf : ∀ k, w1.frozen? ⟨w.heap.size, k, none⟩ = false := fun k => free_blk hk1 k
  clear hk1
  go_loopw [4] (fun s wr => ∃ (v : Int) (o : List UInt8) (t : Bool), 0 ≤ v ∧ v < 170141183460469231731687303715884105728 ∧ s = .string ⟨o.toArray⟩ ∧ DigW u v.toNat o ∧ wr.cell? ⟨w.heap.size, 0, none⟩ = some (.bool t) ∧ wr.cell? ⟨w.heap.size, 1, none⟩ = some (.int .u64 (v / 18446744073709551616)) ∧ wr.cell? ⟨w.heap.size, 2, none⟩ = some (.int .u64 (v % 18446744073709551616)) ∧ (∀ k, wr.frozen? ⟨w.heap.size, k, none⟩ = false) ∧ Below w.heap.size w wr) (fun s _ => 40 - strLen s)
  case atStart => exact ⟨z, [], n0, z0, z1, rfl, Or.inl ⟨rfl, by rw [HZ.out]; simp⟩, hca0, hca1, hca2, hf, HB.out⟩
  case round =>
    obtain ⟨v, o, t, v0, v1, rfl, hD, c0, c1, c2, hf, hB⟩ := hrel
    have hln := digW_len hD hu
    by_cases ho : o = []
    · subst ho
      go_wp2_with fail
      refine (specTen t v v0 (by omega) _).mono ?_
      rintro e w2 ⟨rfl, hB2⟩
      have hlt : w.heap.size < wr.heap.size := World.block_lt_of_cell? wr _ c0
      replace c0 := below_cell c0 hB2
      replace c1 := below_cell c1 hB2
      replace c2 := below_cell c2 hB2
      replace hf : ∀ k, w2.frozen? ⟨w.heap.size, k, none⟩ = false := fun k => frozen_still (hf k) hlt hB2
      replace hlt := Nat.lt_of_lt_of_le hlt hB2.size
      replace hB := bt2 hB hB2
      have hD2 := Lib.hid (digW_int v0 hD (Or.inl rfl))
      have kc : ∀ (W : World) (b : Nat), W.heap.size = b → (convert 22 9 (.slice (some ⟨b, 0, none⟩) 1 1)).run Tryd.prog (W.alloc (.cells #[.int .u8 (48 + v % 10)] 5)) = .ok (.string ⟨[UInt8.ofNat (48 + (v % 10).toNat)].toArray⟩) (W.alloc (.cells #[.int .u8 (48 + v % 10)] 5)) :=
        fun W b e => e ▸ conv_one Tryd.underlying22 Tryd.underlying5 Tryd.underlying9 (48 + (v % 10).toNat) (by omega) (48 + v % 10) (by omega) 1 W
      clear hB2 hD
      go_wp2_with fail
      go_roundw
      case rel =>
        have k := st3_at w2 w.heap.size (.bool false) (.int .u64 (v / 10 / 18446744073709551616)) (.int .u64 (v / 10 % 18446744073709551616)) _ _ _ c0 c1 c2
        exact ⟨v / 10, UInt8.ofNat (48 + (v % 10).toNat) :: [], false, by omega, by omega, congrArg Value.string (byte_cons _ []), hD2.out, kept_alloc (kept_alloc k.1 _) _, kept_alloc (kept_alloc k.2.1 _) _, kept_alloc (kept_alloc k.2.2 _) _, fun j => frozen_still ((st3_frozen _ _ _ _ _ _).trans (hf j)) (by simpa using hlt) (((Below.refl _ _).alloc (Nat.le_refl _) _).alloc (by simp) _), ((st3_below hB (Nat.le_refl _) _ _ _).alloc (by simpa using Nat.le_of_lt hlt) _).alloc (by simp; omega) _⟩
      case measure => exact mea _ [] (by simp)
    · have hem : o.isEmpty = false := by simpa using ho
      have hsum : 1 + o.length ≤ 9223372036854775807 := by omega
      by_cases hv : v = 0
      · subst hv
        have HO := Lib.hid (digW_done hD ho)
        clear hD
        go_wp2_with fail
        refine (specZero t _ _ _).mono ?_
        rintro e w3 ⟨rfl, hB3⟩
        rw [show decide ((0 : Int) = 0 ∧ (0 : Int) = 0) = true from by decide]
        have hlt0 : w.heap.size < wr.heap.size := World.block_lt_of_cell? wr _ c0
        replace c0 := below_cell c0 hB3
        replace c1 := below_cell c1 hB3
        replace c2 := below_cell c2 hB3
        replace hf : ∀ k, w3.frozen? ⟨w.heap.size, k, none⟩ = false := fun k => frozen_still (hf k) hlt0 hB3
        replace hB := bt2 hB hB3
        clear hB3 hlt0
        go_wp2_with fail
        all_goals go_ret
        all_goals exact ⟨by first | (rw [byte_minus, HO.out]; rfl) | (rw [HO.out]; rfl), hB⟩
      · have HV : Hid (o = [] ∨ v.toNat ≠ 0) := Lib.hid (Or.inr (by omega))
        have hz : decide (v / 18446744073709551616 = 0 ∧ v % 18446744073709551616 = 0) = false := by simp; omega
        go_wp2_with fail
        refine (specZero t _ _ _).mono ?_
        rintro e w3 ⟨rfl, hB3⟩
        rw [hz]
        have hlt0 : w.heap.size < wr.heap.size := World.block_lt_of_cell? wr _ c0
        replace c0 := below_cell c0 hB3
        replace c1 := below_cell c1 hB3
        replace c2 := below_cell c2 hB3
        replace hf : ∀ k, w3.frozen? ⟨w.heap.size, k, none⟩ = false := fun k => frozen_still (hf k) hlt0 hB3
        replace hB := bt2 hB hB3
        clear hB3 hlt0
        go_wp2_with fail
        refine (specTen t v v0 (by omega) _).mono ?_
        rintro e w2 ⟨rfl, hB2⟩
        have hlt : w.heap.size < w3.heap.size := World.block_lt_of_cell? w3 _ c0
        replace c0 := below_cell c0 hB2
        replace c1 := below_cell c1 hB2
        replace c2 := below_cell c2 hB2
        replace hf : ∀ k, w2.frozen? ⟨w.heap.size, k, none⟩ = false := fun k => frozen_still (hf k) hlt hB2
        replace hlt := Nat.lt_of_lt_of_le hlt hB2.size
        replace hB := bt2 hB hB2
        have hD2 := Lib.hid (digW_int v0 hD HV.out)
        have kc : ∀ (W : World) (b : Nat), W.heap.size = b → (convert 22 9 (.slice (some ⟨b, 0, none⟩) 1 1)).run Tryd.prog (W.alloc (.cells #[.int .u8 (48 + v % 10)] 5)) = .ok (.string ⟨[UInt8.ofNat (48 + (v % 10).toNat)].toArray⟩) (W.alloc (.cells #[.int .u8 (48 + v % 10)] 5)) :=
          fun W b e => e ▸ conv_one Tryd.underlying22 Tryd.underlying5 Tryd.underlying9 (48 + (v % 10).toNat) (by omega) (48 + v % 10) (by omega) 1 W
        clear hB2 hD
        go_wp2_with fail
        go_roundw
        case rel =>
          have k := st3_at w2 w.heap.size (.bool false) (.int .u64 (v / 10 / 18446744073709551616)) (.int .u64 (v / 10 % 18446744073709551616)) _ _ _ c0 c1 c2
          exact ⟨v / 10, UInt8.ofNat (48 + (v % 10).toNat) :: o, false, by omega, by omega, congrArg Value.string (byte_cons _ o), hD2.out, kept_alloc (kept_alloc k.1 _) _, kept_alloc (kept_alloc k.2.1 _) _, kept_alloc (kept_alloc k.2.2 _) _, fun j => frozen_still ((st3_frozen _ _ _ _ _ _).trans (hf j)) (by simpa using hlt) (((Below.refl _ _).alloc (Nat.le_refl _) _).alloc (by simp) _), ((st3_below hB (Nat.le_refl _) _ _ _).alloc (by simpa using Nat.le_of_lt hlt) _).alloc (by simp; omega) _⟩
        case measure => exact mea _ o (by omega)
/-- THE TEXT, whatever the parts. -/
theorem specWideText (n0 : Bool) (h0 l0 : Int) (hp0 : 0 ≤ h0) (lp0 : 0 ≤ l0) (lq0 : l0 < 18446744073709551616) (w : World) :
    Calls Tryd.prog 38 #[.agg #[.bool n0, .int .u64 h0, .int .u64 l0]] w fun e w' => e = .returned (.string ⟨(textV n0 h0 l0).toArray⟩) ∧ Below w.heap.size w w' := by
  by_cases hk : okV n0 h0 l0 = true
  · have q := okV_yes hk
    obtain ⟨u, hu⟩ : ∃ u : Nat, (u : Int) = h0 * 18446744073709551616 + l0 := ⟨(h0 * 18446744073709551616 + l0).toNat, by omega⟩
    have e0 : h0 = (u : Int) / 18446744073709551616 := by omega
    have e1 : l0 = (u : Int) % 18446744073709551616 := by omega
    have ht : textV n0 h0 l0 = (if n0 = true then [45] else []) ++ Lib.decDigits u := by
      rw [textV, if_pos hk, ← hu]
      cases n0
      · simp [sv, Lib.itoa_nonneg]
      · have := q.2 rfl
        simp [sv, Lib.itoa_neg u (by omega)]
    rw [ht]
    rw [e0, e1] at hk ⊢
    exact specText_ok n0 u (by omega) hk w
  · rw [textV, if_neg hk]
    exact specText_no n0 h0 l0 (by simpa using hk) w
end Go.Proofs.YtapdocfifgnjgaaDoor
