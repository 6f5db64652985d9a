
/-
  A wide number read from its text: the reference's way.
-/
import Derived.Test.YtapdocfifgnjgaaTenT
import Derived.Test.YtapdocfifgnjgaaBox3
namespace Go.Proofs.Ytapdocfifgnjgaa
open Go.RowKit

open Classical in
/-- What reading a text ends in. -/
noncomputable def rdE (l : List UInt8) : Ending := if h : ∃ z, IsW l z then .returned (.tuple #[wideC h.choose, .bool true]) else .returned (.tuple #[.agg #[.bool false, .int .u64 0, .int .u64 0], .bool false])
theorem rdE_yes {l : List UInt8} {z : Int} (h : IsW l z) : rdE l = .returned (.tuple #[wideC z, .bool true]) := by
  have hx : ∃ z, IsW l z := ⟨z, h⟩
  rw [rdE, dif_pos hx, isW_one hx.choose_spec h]
theorem rdE_no {l : List UInt8} (h : ∀ z, ¬ IsW l z) : rdE l = .returned (.tuple #[.agg #[.bool false, .int .u64 0, .int .u64 0], .bool false]) := by
  rw [rdE, dif_neg (fun ⟨z, hz⟩ => h z hz)]
theorem at_byteW {s : ByteArray} {k : Nat} (h : k < s.size) : s.data.toList[k]? = some s[k] := by
  rw [Array.getElem?_toList]
  exact Array.getElem?_eq_getElem h
theorem wideC_nat (v : Nat) (h : v < 170141183460469231731687303715884105728) : wideC (v : Int) = .agg #[.bool false, .int .u64 ((v : Int) / 18446744073709551616), .int .u64 ((v : Int) % 18446744073709551616)] := by
  rw [wideC, show ((v : Int).natAbs : Int) = v by omega, decide_eq_false (by omega)]

theorem strNeW {l : List UInt8} {s : ByteArray} (h : l ≠ s.data.toList) : (!(l == s.toList)) = true := by
  rw [ByteArray.toList_eq]; simpa using h
theorem strEqW {l : List UInt8} {s : ByteArray} (h : l = s.data.toList) : (!(l == s.toList)) = false := by
  rw [ByteArray.toList_eq]; simpa using h
theorem nat_parts (v : Nat) (h : v < 170141183460469231731687303715884105728) : okV false ((v : Int) / 18446744073709551616) ((v : Int) % 18446744073709551616) = true := okV_mk (by omega) (fun k => by cases k)
theorem sv_parts (n : Bool) (v : Nat) : sv n ((v : Int) / 18446744073709551616 * 18446744073709551616 + (v : Int) % 18446744073709551616) = sv n v := by
  rw [show (v : Int) / 18446744073709551616 * 18446744073709551616 + (v : Int) % 18446744073709551616 = v by omega]
theorem textV_nat (v : Nat) (h : v < 170141183460469231731687303715884105728) : textV false ((v : Int) / 18446744073709551616) ((v : Int) % 18446744073709551616) = Lib.itoa (v : Int) := by
  rw [textV, if_pos (nat_parts v h), sv_parts]; rfl
theorem negV_parts (v : Nat) (h : v < 170141183460469231731687303715884105728) : negV false ((v : Int) / 18446744073709551616) ((v : Int) % 18446744073709551616) = decide ((0 : Int) < v) := by
  rw [negV_ok (by omega) (by omega) (nat_parts v h)]
  by_cases hv : v = 0
  · subst hv; simp [sgV]
  · rw [show decide ((0 : Int) < v) = true by simp; omega]
    simp [sgV]; omega
theorem min_parts (v : Nat) : sv (decide ((0 : Int) < v)) v = -(v : Int) := by
  by_cases hv : v = 0
  · subst hv; simp [sv]
  · rw [show decide ((0 : Int) < v) = true by simp; omega]; simp [sv]
theorem okV_min (v : Nat) (h : v < 170141183460469231731687303715884105728) : okV (decide ((0 : Int) < v)) ((v : Int) / 18446744073709551616) ((v : Int) % 18446744073709551616) = true := okV_mk (by omega) (fun k => by simp at k; omega)
theorem textV_min (v : Nat) (h : v < 170141183460469231731687303715884105728) : textV (negV false ((v : Int) / 18446744073709551616) ((v : Int) % 18446744073709551616)) ((v : Int) / 18446744073709551616) ((v : Int) % 18446744073709551616) = Lib.itoa (-(v : Int)) := by
  rw [negV_parts v h, textV, if_pos (okV_min v h), sv_parts, min_parts]
theorem wideC_min (v : Nat) (h : v < 170141183460469231731687303715884105728) : wideC (-(v : Int)) = .agg #[.bool (negV false ((v : Int) / 18446744073709551616) ((v : Int) % 18446744073709551616)), .int .u64 ((v : Int) / 18446744073709551616), .int .u64 ((v : Int) % 18446744073709551616)] := by
  rw [negV_parts v h, wideC, show ((-(v : Int)).natAbs : Int) = v by omega, show decide (-(v : Int) < 0) = decide ((0 : Int) < v) by congr 1; simp]
theorem PairS.putB {W : World} {A B : Nat} {p q : Value} {h0 l0 h1 l1 : Int} {wr : World} (h : PairS W A B (fun _ => p) (fun _ => q) h0 l0 h1 l1 wr) (hA : W.heap.size ≤ B) (hne : B ≠ A) (u : Value) (h2 l2 : Int) :
    PairS W A B (fun _ => p) (fun _ => u) h0 l0 h2 l2 (((wr.setCell ⟨B, 0, none⟩ u).setCell ⟨B, 1, none⟩ (.int .u64 h2)).setCell ⟨B, 2, none⟩ (.int .u64 l2)) :=
  have k := st3_at wr B u (.int .u64 h2) (.int .u64 l2) _ _ _ h.2.2.2.1 h.2.2.2.2.1 h.2.2.2.2.2.1
  ⟨(st3_far _ _ _ _ _ _ _ hne).trans h.1, (st3_far _ _ _ _ _ _ _ hne).trans h.2.1, (st3_far _ _ _ _ _ _ _ hne).trans h.2.2.1, k.1, k.2.1, k.2.2,
    fun j => (st3_frozen _ _ _ _ _ _).trans (h.2.2.2.2.2.2.1 j), fun j => (st3_frozen _ _ _ _ _ _).trans (h.2.2.2.2.2.2.2.1 j), st3_below h.2.2.2.2.2.2.2.2 hA _ _ _⟩
theorem ten_yes {v : Nat} {d : Int} (hv : v < 170141183460469231731687303715884105728) (d0 : 0 ≤ d) (d1 : d ≤ 9) (hb : (v : Int) * 10 + d < 170141183460469231731687303715884105728) :
    tenE false ((v : Int) / 18446744073709551616) ((v : Int) % 18446744073709551616) d = .returned (.tuple #[.agg #[.bool false, .int .u64 (((v : Int) * 10 + d) / 18446744073709551616), .int .u64 (((v : Int) * 10 + d) % 18446744073709551616)], .bool true]) := by
  have hk : okV false ((v : Int) / 18446744073709551616) ((v : Int) % 18446744073709551616) = true := okV_mk (by omega) (fun k => by cases k)
  have e : sv false ((v : Int) / 18446744073709551616 * 18446744073709551616 + (v : Int) % 18446744073709551616) * 10 + sv false d = (v : Int) * 10 + d := by
    simp [sv]; omega
  rw [tenE, if_pos ⟨hk, d0, d1⟩, e, fitW_in (by unfold RoomW; omega)]
  rw [wideC, show (((v : Int) * 10 + d).natAbs : Int) = (v : Int) * 10 + d by omega, decide_eq_false (by omega)]
theorem ten_yes2 {v v2 : Nat} {d : Int} (hv : v < 170141183460469231731687303715884105728) (d0 : 0 ≤ d) (d1 : d ≤ 9) (h2 : (v2 : Int) = (v : Int) * 10 + d) (hb : v2 < 170141183460469231731687303715884105728) :
    tenE false ((v : Int) / 18446744073709551616) ((v : Int) % 18446744073709551616) d = .returned (.tuple #[.agg #[.bool false, .int .u64 ((v2 : Int) / 18446744073709551616), .int .u64 ((v2 : Int) % 18446744073709551616)], .bool true]) := by
  rw [h2]; exact ten_yes hv d0 d1 (by omega)
theorem ten_no {v : Nat} {d : Int} (hv : v < 170141183460469231731687303715884105728) (h : d < 0 ∨ 9 < d ∨ 170141183460469231731687303715884105728 ≤ (v : Int) * 10 + d) :
    tenE false ((v : Int) / 18446744073709551616) ((v : Int) % 18446744073709551616) d = .returned (.tuple #[.agg #[.bool false, .int .u64 0, .int .u64 0], .bool false]) := by
  rw [tenE]
  split
  · rename_i k
    have e : sv false ((v : Int) / 18446744073709551616 * 18446744073709551616 + (v : Int) % 18446744073709551616) * 10 + sv false d = (v : Int) * 10 + d := by
      simp [sv]; omega
    rw [e]
    exact (fitW_no (by unfold RoomW; omega)).symm
  · rfl

theorem startOf_posW {s : ByteArray} (h : 0 < s.size) : startOf s.data.toList = if (s[0].toNat) = 45 then 1 else 0 := by
  unfold startOf
  have e : s.data.toList.head? = some s[0] := by
    rw [List.head?_eq_getElem?, Array.getElem?_toList]
    exact Array.getElem?_eq_getElem h
  rw [e]
  simp
theorem isW_len {l : List UInt8} (h : l.length < 1 ∨ 40 < l.length) : ∀ z, ¬ IsW l z := fun z hz => by
  have := (isW_parts hz).2.2.2.2
  omega
end Go.Proofs.Ytapdocfifgnjgaa
