
/-
  Bytes in turned order, in place: the library's loop from both ends inward.
-/
import Derived.Test.YtjmlpeapbealfaaCur
import Derived.Deep.LoopGhost
import Derived.Sort.WalkB12
import Derived.Lib.SlicesMore
import Derived.Lib.OwnBridge
namespace Go.Proofs.Ytjmlpeapbealfaa
open Go.RowKit Go.Sort

/-- A byte as a cell. -/
abbrev byteV (c : UInt8) : Value := .int .u8 c.toNat
set_option maxRecDepth 100000 in
set_option maxHeartbeats 1000000 in
theorem libReverse (blk cap : Nat) (d : Array UInt8) (w : World) (hH : Holds byteV w blk 0 d) (hsz : d.size ≤ 1000) :
    Calls Try.prog 60 #[.slice (some ⟨blk, 0, none⟩) d.size cap] w fun e w' => e = .returned (.tuple #[]) ∧ ∃ n, w' = putRow byteV (Sort.ahead w n) blk 0 d.reverse := by
  go_enter Try.func60, Try.ntmps60
  go_wp2
  go_loopg [2, 3] d.size (fun k a b wr => ∃ (i jn : Nat) (jz : Int) (x : Array UInt8) (n : Nat), a = .int .i64 i ∧ b = .int .i64 jz ∧ ((i : Int) < jz → jz = jn ∧ jn < d.size) ∧ (¬ (i : Int) < jz → ¬ i < jn) ∧ jn - i ≤ k ∧
    x.size = d.size ∧ wr = putRow byteV (Sort.ahead w n) blk 0 x ∧ reverseLoop i jn x = reverseLoop 0 (d.size - 1) d)
  case atStart => exact ⟨0, d.size - 1, (d.size : Int) - 1, d, 0, rfl, rfl, fun h => ⟨by omega, by omega⟩, fun h => by omega, by omega, rfl, (putRow_self byteV w blk 0 d hH).symm, rfl⟩
  case round =>
    obtain ⟨i, jn, jz, x, n, rfl, rfl, h1, h2, hk, hds, hwr, heq⟩ := hrel
    by_cases hlt : (i : Int) < jz
    · obtain ⟨rfl, hjn⟩ := h1 hlt
      have hij : i < jn := by omega
      have hHk : Holds byteV wr blk 0 x := by rw [hwr]; exact holds_putRow byteV _ blk 0 d x (holds_ahead byteV w n blk 0 d hH) hds
      obtain ⟨ci, fi⟩ := hHk i (by omega)
      obtain ⟨cj, fj⟩ := hHk jn (by omega)
      rw [Nat.zero_add] at ci fi cj fj
      have hh := Lib.hid hwr
      clear hwr hHk hH h1 h2
      go_wp2_with fail
      go_region
      go_wp2
      go_roundg (jn - 1 - (i + 1))
      case measure => omega
      case rel =>
        rw [reverseLoop, if_pos hij] at heq
        exact ⟨i + 1, jn - 1, (jn : Int) - 1, swp x i jn, n + 1, by simp, rfl, fun h => ⟨by omega, by omega⟩, fun h => by omega, Nat.le_refl _, by rw [size_swp]; exact hds,
by have q := swap_world byteV (show i < x.size by omega) (show jn < x.size by omega) hh.out rfl rfl; rw [Nat.zero_add, Nat.zero_add] at q; rw [← q]; simp [getElem!_pos, show jn < x.size by omega, show i < x.size by omega], heq⟩
    · have hnot := h2 hlt
      go_wp2
      go_end0
      refine ⟨rfl, n, ?_⟩
      rw [reverseLoop, if_neg hnot] at heq
      rw [← Lib.reverseLoop_reverse, ← heq]
end Go.Proofs.Ytjmlpeapbealfaa
