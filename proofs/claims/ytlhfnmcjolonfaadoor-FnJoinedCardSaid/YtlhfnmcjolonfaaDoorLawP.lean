/-
  The walk of the law on Parts.
-/
import Derived.Test.YtlhfnmcjolonfaaDoorStrS
import Derived.WalkSmall
import Derived.OpenShut
namespace Go.Proofs.YtlhfnmcjolonfaaDoor
open Go.RowKit

theorem bt2 {a b c : World} (h : Below a.heap.size a b) (k : Below b.heap.size b c) : Below a.heap.size a c := h.trans (k.mono h.size)

set_option maxRecDepth 100000 in
theorem lawParts_long (s : ByteArray) (c : UInt8) (w : World) (hsz : ¬ s.size ≤ 1048576) :
    Calls Tryd.prog 8 #[.string s, .int .u8 (c.toNat : Int)] w fun e w' => e = .returned (.bool true) ∧ Below w.heap.size w w' := by
  go_enter Tryd.func8, Tryd.ntmps8
  go_wp2_with fail
  go_ret
  exact ⟨rfl, Below.refl _ _⟩

set_option maxRecDepth 100000 in
set_option maxHeartbeats 2000000 in
theorem lawParts_short (s : ByteArray) (c : UInt8) (m : Int) (w : World) (hsz : s.size ≤ 1048576) (hm : w.cell? ⟨3, 0, none⟩ = some (.int .i64 m)) :
    Calls Tryd.prog 8 #[.string s, .int .u8 (c.toNat : Int)] w fun e w' => e = .returned (.bool true) ∧ Below w.heap.size w w' := by
  have hpl := parts_len (c := c) s.data.toList
  have hln : s.data.toList.length = s.size := (Lib.size_eq s).symm
  have hgm := World.block_lt_of_cell? w _ hm
  have hn : ∃ n : Nat, (partsL c s.data.toList).length = n ∧ n ≤ 1048577 := ⟨_, rfl, by omega⟩
  obtain ⟨n, hn, hnl⟩ := hn
  have HN := Lib.hid hn
  have HM := Lib.hid hm
  clear hm hn hpl hln
  go_enter Tryd.func8, Tryd.ntmps8
  go_wp2_with fail
  refine (specParts s c w hsz).mono ?_
  rintro e w1 ⟨v1, rfl, ho1, hB1⟩
  have hm1 := (hB1.cell (p := ⟨3, 0, none⟩) hgm).trans HM.out
  have S1 := strRow_of_owns ho1 (by rw [HN.out]; omega)
  have hb1 := ho1.lt
  clear ho1
  go_wp2_with fail
  refine (implParts s c m w1 hsz hm1).mono ?_
  rintro e w2 ⟨v2, rfl, ho2, hB2⟩
  have S2 := strRow_of_owns ho2 (by rw [HN.out]; omega)
  have S1b := S1.below hB2
  have hb2 := ho2.lt
  have hB02 := bt2 hB1 hB2
  have hsep : Hid (v1.ownBlock = none ∨ v1.ownBlock ≠ v2.ownBlock) := by
    show v1.ownBlock = none ∨ v1.ownBlock ≠ v2.ownBlock
    cases h1 : v1.ownBlock with
    | none => exact Or.inl rfl
    | some a =>
      right
      intro h2
      have := (hb1 a h1).2
      have := (hb2 a h2.symm).1
      omega
  have hown2 : Hid (∀ k, v2.ownBlock = some k → w1.heap.size ≤ k) := fun k hk => (hb2 k hk).1
  rw [HN.out] at ho2
  clear S1 hm1 hb1 hb2
  go_wp2_with fail
  refine (eqStr w2 v2 v1 _ S2 S1b).mono ?_
  rintro e w3 ⟨rfl, q, rfl⟩
  have ho3 : (w2.drewN q).ownsRow w1.heap.size 9 1 v2 n (strCells (partsL c s.data.toList)) := ho2
  have S3 : StrRow (w2.drewN q) v1 (partsL c s.data.toList) := S1b
  have hB03 : Below w.heap.size w (w2.drewN q) := below_drewN hB02 q
  have hB13 : Below w1.heap.size w1 (w2.drewN q) := below_drewN hB2 q
  generalize w2.drewN q = w3 at ho3 S3 hB03 hB13 ⊢
  clear S2 S1b ho2 hB2 hB02
  go_wp2_with fail
  refine (markStr w3 w1.heap.size n 1 v2 _ ho3 (by omega) (by omega) (by omega)).mono ?_
  rintro e w4 ⟨rfl, hM4, hg4⟩
  have S4 := S3.grown hg4 hsep.out
  have R4 := strRow_of_marked hM4 (by omega)
  have hB14 : Below w1.heap.size w1 w4 := hB13.grown hg4 hB13.size (fun k hk => hown2.out k hk)
  have hB04 : Below w.heap.size w w4 := hB1.trans (hB14.mono hB1.size)
  clear ho3 S3 hM4 hg4 hB03 hB13
  go_wp2_with fail
  refine (heldStr w4 v2 n 1 R4 (by omega) (by omega)).mono ?_
  rintro e w5 ⟨rfl, hB45⟩
  have S5 := S4.below hB45
  have R5 := R4.below hB45
  have hB05 := bt2 hB04 hB45
  have hm5 := (hB05.cell (p := ⟨3, 0, none⟩) hgm).trans HM.out
  clear S4 R4 hB45 hB04 hB14
  go_wp2_with fail
  refine (implParts s c m w5 hsz hm5).mono ?_
  rintro e w6 ⟨v3, rfl, ho6, hB56⟩
  have S6 := S5.below hB56
  have R6 := R5.below hB56
  have T6 := strRow_of_owns ho6 (by rw [HN.out]; omega)
  have hB06 := bt2 hB05 hB56
  clear S5 R5 hB05 hm5 ho6 hB56
  go_wp2_with fail
  refine (eqStr w6 v3 v1 _ T6 S6).mono ?_
  rintro e w7 ⟨rfl, q7, rfl⟩
  have R7 : StrRow (w6.drewN q7) v2 (marks 1 n) := R6
  have hB07 : Below w.heap.size w (w6.drewN q7) := below_drewN hB06 q7
  generalize w6.drewN q7 = w7 at R7 hB07 ⊢
  clear S6 R6 T6 hB06
  go_wp2_with fail
  refine (heldStr w7 v2 n 1 R7 (by omega) (by omega)).mono ?_
  rintro e w8 ⟨rfl, hB78⟩
  go_wp2_with fail
  go_ret
  exact ⟨rfl, bt2 hB07 hB78⟩

theorem lawParts (s : ByteArray) (z : Int) (hz : (Lit.int .u8 z).wf = true) (m : Int) (w : World) (hm : w.cell? ⟨3, 0, none⟩ = some (.int .i64 m)) :
    Calls Tryd.prog 8 #[.string s, .int .u8 z] w fun e w' => e = .returned (.bool true) ∧ Below w.heap.size w w' := by
  have hb : 0 ≤ z ∧ z ≤ 255 := bounds_u8 hz
  obtain ⟨c, hc⟩ : ∃ c : UInt8, (c.toNat : Int) = z := ⟨UInt8.ofNat z.toNat, by rw [UInt8.toNat_ofNat']; omega⟩
  subst hc
  by_cases hsz : s.size ≤ 1048576
  · exact lawParts_short s c m w hsz hm
  · exact lawParts_long s c w hsz
end Go.Proofs.YtlhfnmcjolonfaaDoor
