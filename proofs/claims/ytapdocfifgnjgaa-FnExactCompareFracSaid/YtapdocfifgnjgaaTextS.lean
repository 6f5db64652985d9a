
/-
  The text of a wide number: the reference's way.
-/
import Derived.Test.YtapdocfifgnjgaaTenS
import Derived.Test.YtapdocfifgnjgaaU
import Derived.Test.YtapdocfifgnjgaaImpS
namespace Go.Proofs.Ytapdocfifgnjgaa
open Go.RowKit

/-- What is left to write, and what is written. -/
def DigW (u v : Nat) (o : List UInt8) : Prop := (o = [] ∧ v = u) ∨ (o ≠ [] ∧ Lib.decDigits u = (if v = 0 then [] else Lib.decDigits v) ++ o)
theorem decDigits_step (v : Nat) : Lib.decDigits v = (if v / 10 = 0 then [] else Lib.decDigits (v / 10)) ++ [UInt8.ofNat (48 + v % 10)] := by
  by_cases h : v < 10
  · rw [if_pos (by omega), Lib.decDigits, dif_pos h, show v % 10 = v by omega]; rfl
  · rw [if_neg (by omega)]
    conv => lhs; rw [Lib.decDigits, dif_neg h]
theorem digW_step {u v : Nat} {o : List UInt8} (h : DigW u v o) (hv : o = [] ∨ v ≠ 0) : DigW u (v / 10) (UInt8.ofNat (48 + v % 10) :: o) := by
  refine Or.inr ⟨by simp, ?_⟩
  rcases h with ⟨rfl, rfl⟩ | ⟨ho, h⟩
  · exact decDigits_step v
  · have hv2 : v ≠ 0 := hv.resolve_left ho
    rw [h, if_neg hv2]
    conv => lhs; rw [decDigits_step v]
    simp
theorem digW_done {u : Nat} {o : List UInt8} (h : DigW u 0 o) (ho : o ≠ []) : o = Lib.decDigits u := by
  rcases h with ⟨h, _⟩ | ⟨_, h⟩
  · exact absurd h ho
  · simpa using h.symm
theorem digW_len {u v : Nat} {o : List UInt8} (h : DigW u v o) (hu : u < 170141183460469231731687303715884105728) : o.length ≤ 39 ∧ (v ≠ 0 → o.length < 39) := by
  have hl := decDigits_len39 hu
  rcases h with ⟨rfl, _⟩ | ⟨_, h⟩
  · simp
  · rw [h, List.length_append] at hl
    refine ⟨by omega, fun hv => ?_⟩
    rw [if_neg hv] at hl
    have := decDigits_pos v
    omega
theorem byte_cons (k : Nat) (o : List UInt8) : (({ data := #[48 + UInt8.ofNat k] } : ByteArray) ++ { data := o.toArray }) = { data := (UInt8.ofNat (48 + k) :: o).toArray } := by
  rw [show UInt8.ofNat (48 + k) = 48 + UInt8.ofNat k from UInt8.ofNat_add 48 k]
  apply ByteArray.ext
  simp
theorem byte_minus (o : List UInt8) : (({ data := #[45] } : ByteArray) ++ { data := o.toArray }) = { data := (45 :: o).toArray } := by
  apply ByteArray.ext
  simp
theorem digW_int {u : Nat} {v : Int} {o : List UInt8} (v0 : 0 ≤ v) (h : DigW u v.toNat o) (hv : o = [] ∨ v.toNat ≠ 0) : DigW u (v / 10).toNat (UInt8.ofNat (48 + (v % 10).toNat) :: o) := by
  have := digW_step h hv
  rwa [show v.toNat / 10 = (v / 10).toNat by omega, show v.toNat % 10 = (v % 10).toNat by omega] at this
/-- How long a text is. -/
def strLen (v : Value) : Nat := match v with | .string b => b.size | _ => 0

theorem strLen_list (l : List UInt8) : strLen (.string { data := l.toArray }) = l.length := by
  show l.toArray.size = l.length
  simp
theorem mea (k : Nat) (o : List UInt8) (h : o.length < 40) : 40 - strLen (.string (({ data := #[48 + UInt8.ofNat k] } : ByteArray) ++ { data := o.toArray })) < 40 - strLen (.string { data := o.toArray }) := by
  rw [byte_cons, strLen_list, strLen_list, List.length_cons]
  omega
end Go.Proofs.Ytapdocfifgnjgaa
