/-
  Small laws that the walks of this seat share: a string of one byte out of a new slice of one byte.
-/
import Derived.Test.YtekdlkakcclejaaRows
import Derived.WalkKit
import Derived.ProofKit
import Derived.Outline
import Derived.Lib.Hide
import Derived.Laws.IdiomStrings
namespace Go.Proofs.Ytekdlkakcclejaa
open Go.RowKit

theorem conv_one {P : Program} {src dst e : TypeId} (hs : P.underlying src = some (.slice e)) (he : P.underlying e = some (.int .u8)) (hd : P.underlying dst = some .string)
    (c : Nat) (hc : c < 256) (z : Int) (hz : z = (c : Int)) (cap : Nat) (w : World) :
    (convert src dst (.slice (some ⟨w.heap.size, 0, none⟩) 1 cap)).run P (w.alloc (.cells #[.int .u8 z] e)) = .ok (.string ⟨[UInt8.ofNat c].toArray⟩) (w.alloc (.cells #[.int .u8 z] e)) := by
  subst hz
  refine run_convert_bytes_back (w.alloc (.cells #[.int .u8 (c : Int)] e)) src dst e ⟨w.heap.size, 0, none⟩ cap [UInt8.ofNat c] hs he hd ?_
  intro j hj
  obtain rfl : j = 0 := by simpa using hj
  have h := World.cell?_alloc_mark w #[.int .u8 (c : Int)] e (0, 0) 0
  simp only [Addr.add, Nat.add_zero, if_true]
  rw [h]
  simp
  omega
end Go.Proofs.Ytekdlkakcclejaa
