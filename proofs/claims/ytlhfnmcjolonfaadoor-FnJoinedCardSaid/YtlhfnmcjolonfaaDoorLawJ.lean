/-
  The walk of the law on Joined.
-/
import Derived.Test.YtlhfnmcjolonfaaDoorJoin
import Derived.Test.YtlhfnmcjolonfaaDoorLawP
import Derived.Test.YtlhfnmcjolonfaaDoorLawD
namespace Go.Proofs.YtlhfnmcjolonfaaDoor
open Go.RowKit

def StrByte (M : Nat) (e : Ending) : Prop := ∃ (s : ByteArray) (c : UInt8), s.size ≤ M ∧ e = .returned (.tuple #[.string s, .int .u8 (c.toNat : Int)])

set_option maxRecDepth 100000 in
set_option maxHeartbeats 1000000 in
theorem drawParts (w : World) (v : Value) (n : Nat) (hb : Bytes w v n) :
    Calls Tryd.prog 16 #[v] w fun e w' => StrByte 100 e ∧ Below w.heap.size w w' := by
  go_enter Tryd.func16, Tryd.ntmps16
  go_wp2_with fail
  refine (l1New w v n hb).mono ?_
  rintro e w1 ⟨rfl, hc1, hB1⟩
  have hne : w1.heap.size ≠ w.heap.size := by have := hc1.lt; omega
  go_wp2_with fail
  refine (l1Pick w _ _ w1.heap.size 6 100 (by omega) (by omega) hne ?_ (hc1.alloc _)).mono ?_
  · refine strList 100 ?_ ?_
    · rfl
    · decide
  rintro e w2 ⟨⟨s, hs, rfl⟩, hc2, hg2⟩
  have hne2 : w2.heap.size ≠ w.heap.size := by have := hc2.lt; omega
  go_wp2_with fail
  refine (l1PickInt w _ _ w2.heap.size 2 (by omega) (by omega) hne2 ?_ (hc2.alloc _)).mono ?_
  · refine intList ?_ ?_
    · rfl
    · decide
  rintro e w3 ⟨⟨z, z0, z1, rfl⟩, hc3, hg3⟩
  go_wp2_with fail
  go_ret2
  refine ⟨⟨s, UInt8.ofNat (z % 256).toNat, hs, ?_⟩, cur_below hc3⟩
  have e : ((UInt8.ofNat (z % 256).toNat).toNat : Int) = z % 256 := by rw [UInt8.toNat_ofNat']; omega
  rw [e]
  rfl

set_option maxRecDepth 100000 in
set_option maxHeartbeats 2000000 in
theorem lawFnJoined (w : World) (v : Value) (n : Nat) (m : Int) (hb : Bytes w v n) (hm : w.cell? ⟨3, 0, none⟩ = some (.int .i64 m)) :
    Calls Tryd.prog 4 #[v] w fun e w' => e = .returned (.bool true) ∧ Below w.heap.size w w' := by
  have hgm := World.block_lt_of_cell? w _ hm
  have HM := Lib.hid hm
  clear hm
  by_cases hbig : 1048576 < n
  · go_enter Tryd.func4, Tryd.ntmps4
    go_wp2_with fail
    refine (big_yes w v n hb hbig).mono ?_
    rintro e w1 ⟨rfl, rfl⟩
    go_wp2_with fail
    go_ret
    exact ⟨rfl, Below.refl _ _⟩
  · go_enter Tryd.func4, Tryd.ntmps4
    go_wp2_with fail
    refine (big_no w v n hb hbig).mono ?_
    rintro e w1 ⟨rfl, rfl⟩
    go_wp2_with fail
    refine (drawParts w v n hb).mono ?_
    rintro e w1 ⟨⟨s, c, hs, rfl⟩, hB1⟩
    have hm1 := (hB1.cell (p := ⟨3, 0, none⟩) hgm).trans HM.out
    have kc := conv_one Tryd.underlying22 Tryd.underlying5 Tryd.underlying9 c.toNat (by have := c.toNat_lt; omega) (c.toNat : Int) rfl 1
    clear hb hbig
    go_wp2_with fail
    refine (implParts s c m w1 (by omega) hm1).mono ?_
    rintro e w2 ⟨v2, rfl, ho2, hB2⟩
    have hB02 := bt2 hB1 hB2
    have hpos := parts_pos (c := c) s.data.toList
    have hpl := parts_len (c := c) s.data.toList
    have hln : s.data.toList.length = s.size := (Lib.size_eq s).symm
    obtain ⟨g, cap, rfl, hcap⟩ : ∃ g cap, v2 = .slice (some ⟨g, 0, none⟩) (partsL c s.data.toList).length cap ∧ (partsL c s.data.toList).length ≤ cap := by
      rcases ho2.2 with ⟨_, h0⟩ | ⟨g, cap, cur, rfl, _, _, hnc, _⟩
      · omega
      · exact ⟨g, cap, rfl, hnc⟩
    have hg2 := (ho2.lt g rfl).2
    have hcl : Hid (∀ (j : Nat) p, (partsL c s.data.toList)[j]? = some p → w2.cell? ⟨g, 0 + j, none⟩ = some (.string ⟨p.toArray⟩)) := by
      show ∀ (j : Nat) p, (partsL c s.data.toList)[j]? = some p → w2.cell? ⟨g, 0 + j, none⟩ = some (.string ⟨p.toArray⟩)
      intro j p hj
      have hjl := (List.getElem?_eq_some_iff.1 hj).1
      rw [Nat.zero_add, ho2.cellAt j (by omega), strCells, List.getElem?_map, hj]
      rfl
    have HJ : Hid ((⟨(Lib.join (partsL c s.data.toList) [c]).toArray⟩ : ByteArray) = s) := by
      show (⟨(Lib.join (partsL c s.data.toList) [c]).toArray⟩ : ByteArray) = s
      rw [parts_join, mk_toList]
    have HJL : Hid ((Lib.join (partsL c s.data.toList) [c]).length ≤ 140737488355328) := by
      show (Lib.join (partsL c s.data.toList) [c]).length ≤ 140737488355328
      rw [parts_join, hln]; omega
    obtain ⟨k, hk⟩ : ∃ k : Nat, (partsL c s.data.toList).length = k := ⟨_, rfl⟩
    have HK := Lib.hid hk
    rw [hk] at hpos hpl hcap
    rw [hk] at ho2 ⊢
    clear hk ho2 hm1 hB1 hB2
    have hk0 : (0 : Int) < k := by omega
    go_wp2_with fail
    refine (specParts s c w2 (by omega)).mono ?_
    rintro e w3 ⟨v3, rfl, ho3, hB3⟩
    obtain ⟨g3, cap3, rfl⟩ : ∃ g cap, v3 = .slice (some ⟨g, 0, none⟩) k cap := by
      rw [HK.out] at ho3
      rcases ho3.2 with ⟨_, h0⟩ | ⟨g, cap, cur, rfl, _⟩
      · omega
      · exact ⟨g, cap, rfl⟩
    have hB03 := bt2 hB02 hB3
    clear ho3 hB02
    go_wp2_with fail
    have hj : Calls Tryd.prog 19 #[.slice (some ⟨g, 0, none⟩) k cap, .string ⟨#[c]⟩] (w3.alloc (.cells #[.int .u8 (c.toNat : Int)] 5)) fun e w' => e = .returned (.string s) ∧ Below (w3.alloc (.cells #[.int .u8 (c.toNat : Int)] 5)).heap.size (w3.alloc (.cells #[.int .u8 (c.toNat : Int)] 5)) w' := by
      have hBa : Below w2.heap.size w2 (w3.alloc (.cells #[.int .u8 (c.toNat : Int)] 5)) := hB3.alloc hB3.size _
      have h := implJoined_some (w3.alloc (.cells #[.int .u8 (c.toNat : Int)] 5)) g 0 cap (partsL c s.data.toList) ⟨#[c]⟩ (by rw [HK.out]; exact hcap) (by rw [HK.out]; omega) (Nat.lt_of_lt_of_le hg2 hBa.size) HJL.out
        (fun j p hp => (hBa.cell (p := ⟨g, 0 + j, none⟩) hg2).trans (hcl.out j p hp))
      rw [HK.out] at h
      refine h.mono fun e w' ⟨he, hB⟩ => ⟨?_, hB⟩
      rw [he]
      exact congrArg (fun x => Ending.returned (Value.string x)) HJ.out
    refine hj.mono ?_
    rintro e w4 ⟨rfl, hB4⟩
    have hB04 : Below w.heap.size w w4 := (hB03.alloc hB03.size _).trans (hB4.mono (by have := hB03.size; simp; omega))
    clear hB4 hB03 hj
    go_wp2_with fail
    go_ret
    exact ⟨rfl, hB04⟩
end Go.Proofs.YtlhfnmcjolonfaaDoor
