/-
  The cursor of the draws: what it holds, and that every draw answers something and writes to the cursor alone.
-/
import Derived.Test.YtekdlkakcclejaaRows
import Derived.WalkKit
import Derived.ProofKit
import Derived.Outline
import Derived.Lib.Hide
import Derived.Lib.SmallJoins
import Derived.Lib.BufferMore
import Derived.Laws.Bits128
import Derived.Deep.QuietTactic
import Derived.BigQuiet
import Derived.RegionTactic
namespace Go.Proofs.Ytekdlkakcclejaa
open Go.RowKit

theorem i64_and255 (n : Int) : bits .and .i64 n 255 = n % 256 := by
  have h127 : (BitVec.ofInt 64 255).toNat = 2 ^ 8 - 1 := by decide
  have key : (BitVec.ofInt 64 n &&& BitVec.ofInt 64 255).toNat = (n % ((2 ^ 64 : Nat) : Int)).toNat % 2 ^ 8 := by
    rw [BitVec.toNat_and, BitVec.toNat_ofInt, h127, Nat.and_two_pow_sub_one_eq_mod]
  show IntKind.i64.wrap ((BitVec.ofInt 64 n &&& BitVec.ofInt 64 255).toNat : Nat) = n % 256
  rw [key, IntKind.wrap_i64]
  omega

/-- v is a slice of n bytes in the world W. -/
def Bytes (W : World) (v : Value) (n : Nat) : Prop :=
  (∃ c, v = .slice none 0 c ∧ n = 0) ∨ (∃ a c, v = .slice (some a) 0 c ∧ n = 0) ∨ ∃ b off c, v = .slice (some ⟨b, off, none⟩) n c ∧ n ≤ 140737488355328 ∧ ∀ j, j < n → b < W.heap.size ∧ ∃ z : Int, 0 ≤ z ∧ z ≤ 255 ∧ W.cell? ⟨b, off + j, none⟩ = some (.int .u8 z)

/-- Block p is a cursor over bytes of W, made behind W. -/
def Cur (W w : World) (p : Nat) : Prop :=
  W.heap.size ≤ p ∧ Below W.heap.size W w ∧ ∃ (v : Value) (n : Nat) (i : Nat) (h : Int), Bytes W v n ∧ i ≤ n ∧ -9223372036854775808 ≤ h ∧ h ≤ 9223372036854775807 ∧
    w.heap[p]? = some (.cells #[v, .int .i64 i, .int .i64 h] 44 (0, 0))

def ByteOut (e : Ending) : Prop := ∃ n : Nat, n < 256 ∧ e = .returned (.int .i64 n)

theorem cell_blk {w : World} {p : Nat} {cs : Array Value} {T : TypeId} {fr : Nat × Nat} (h : w.heap[p]? = some (.cells cs T fr)) (k : Nat) : w.cell? ⟨p, k, none⟩ = cs[k]? := by
  simp [World.cell?, h]
theorem free_blk {w : World} {p : Nat} {cs : Array Value} {T : TypeId} (h : w.heap[p]? = some (.cells cs T (0, 0))) (k : Nat) : w.frozen? ⟨p, k, none⟩ = false := by
  simp [World.frozen?, h]

theorem byteOut_mod (E : Int) : ByteOut (.returned (.int .i64 (E % 256))) := ⟨(E % 256).toNat, by omega, by rw [Int.toNat_of_nonneg (by omega)]⟩

/-- What a draw does to the world: it writes to the cursor alone. -/
def ByteW (w : World) (p : Nat) (v : Value) (i : Nat) (w' : World) : Prop :=
  (∃ h : Int, -9223372036854775808 ≤ h ∧ h ≤ 9223372036854775807 ∧ w'.heap[p]? = some (.cells #[v, .int .i64 i, .int .i64 h] 44 (0, 0))) ∧ w.grownBy w' (some p)

theorem wrap64_bounds (x : Int) : -9223372036854775808 ≤ wrap64 x ∧ wrap64 x ≤ 9223372036854775807 := by unfold wrap64; omega

theorem grownBy_refl (w : World) (r : Option Nat) : w.grownBy w r := ⟨rfl, rfl, rfl, Nat.le_refl _, fun _ _ _ => rfl⟩
theorem grownBy_trans {a b c : World} {r : Option Nat} (h : a.grownBy b r) (k : b.grownBy c r) : a.grownBy c r :=
  ⟨k.os.trans h.os, k.tape.trans h.tape, k.output.trans h.output, Nat.le_trans h.size k.size, fun i hi hr => (k.block i (Nat.lt_of_lt_of_le hi h.size) hr).trans (h.block i hi hr)⟩
theorem grownBy_set (w : World) (p k : Nat) (x : Value) : w.grownBy (w.setCell ⟨p, k, none⟩ x) (some p) :=
  ⟨rfl, rfl, rfl, by simp [World.setCell], fun i _ hr => Below.heap_setCell _ _ _ _ (fun e => hr (by rw [e]))⟩
theorem grownBy_drewN {a w : World} {r : Option Nat} (h : a.grownBy w r) (n : Nat) : a.grownBy (w.drewN n) r := ⟨h.os, h.tape, h.output, h.size, h.block⟩

theorem byteW_first {w : World} {p i : Nat} {v : Value} {h : Int} (hblk : w.heap[p]? = some (.cells #[v, .int .i64 i, .int .i64 h] 44 (0, 0))) (x : Int) :
    ByteW w p v i (w.setCell ⟨p, 2, none⟩ (.int .i64 (wrap64 x))) := by
  refine ⟨⟨wrap64 x, (wrap64_bounds x).1, (wrap64_bounds x).2, ?_⟩, grownBy_set _ _ _ _⟩
  rw [Go.Joins.block_setCell hblk]
  rfl
theorem ByteW.drewN {w w' : World} {p i : Nat} {v : Value} (h : ByteW w p v i w') (k : Nat) : ByteW w p v i (w'.drewN k) := ⟨h.1, grownBy_drewN h.2 k⟩
theorem ByteW.inc {w w' : World} {p i : Nat} {v : Value} (h : ByteW w p v i w') : ByteW w p v (i + 1) (w'.setCell ⟨p, 1, none⟩ (.int .i64 ((i : Int) + 1))) := by
  obtain ⟨⟨x, h0, h1, hb⟩, hg⟩ := h
  refine ⟨⟨x, h0, h1, ?_⟩, grownBy_trans hg (grownBy_set _ _ _ _)⟩
  rw [Go.Joins.block_setCell hb]
  rfl

set_option maxRecDepth 100000 in
set_option maxHeartbeats 1000000 in
theorem l1Byte_end (w : World) (p : Nat) (v : Value) (n : Nat) (h : Int) (hv : (∃ c, v = .slice none n c) ∨ ∃ a c, v = .slice (some a) n c) (hblk : w.heap[p]? = some (.cells #[v, .int .i64 n, .int .i64 h] 44 (0, 0))) :
    Calls Try.prog 45 #[.pointer (some ⟨p, 0, none⟩)] w fun e w' => ByteOut e ∧ ByteW w p v n w' := by
  have hc0 : w.cell? ⟨p, 0, none⟩ = some v := cell_blk hblk 0
  have hc1 : w.cell? ⟨p, 1, none⟩ = some (.int .i64 n) := cell_blk hblk 1
  have hc2 : w.cell? ⟨p, 2, none⟩ = some (.int .i64 h) := cell_blk hblk 2
  have hf1 := free_blk hblk 1
  have hf2 := free_blk hblk 2
  have ka := i64_and255
  have HB := Lib.hid (byteW_first hblk (wrap64 (h * 6364136223846793005) + 1442695040888963407))
  clear hblk
  rcases hv with ⟨c, rfl⟩ | ⟨a, c, rfl⟩
  all_goals
    go_enter Try.func45, Try.ntmps45
    go_wp2_with fail
    go_quiet (fail)
    go_wp2_with fail
    go_quiet (fail)
    go_wp2_with fail
    go_ret
    exact ⟨byteOut_mod _, (HB.out.drewN _).drewN _⟩

set_option maxRecDepth 100000 in
set_option maxHeartbeats 1000000 in
theorem l1Byte_more (w : World) (p b off c : Nat) (n i : Nat) (z h : Int) (hi : i < n) (hn : n ≤ 140737488355328) (hz0 : 0 ≤ z) (hz1 : z ≤ 255) (hbp : ¬ b = p) (hcz : w.cell? ⟨b, off + i, none⟩ = some (.int .u8 z))
    (hblk : w.heap[p]? = some (.cells #[.slice (some ⟨b, off, none⟩) n c, .int .i64 i, .int .i64 h] 44 (0, 0))) :
    Calls Try.prog 45 #[.pointer (some ⟨p, 0, none⟩)] w fun e w' => ByteOut e ∧ ByteW w p (.slice (some ⟨b, off, none⟩) n c) (i + 1) w' := by
  have hc0 : w.cell? ⟨p, 0, none⟩ = some (.slice (some ⟨b, off, none⟩) n c) := cell_blk hblk 0
  have hc1 : w.cell? ⟨p, 1, none⟩ = some (.int .i64 i) := cell_blk hblk 1
  have hc2 : w.cell? ⟨p, 2, none⟩ = some (.int .i64 h) := cell_blk hblk 2
  have hf1 := free_blk hblk 1
  have hf2 := free_blk hblk 2
  have ka := i64_and255
  have hi1 : (i : Int) < n := by omega
  have hi0 : (0 : Int) ≤ i := by omega
  have HB := Lib.hid (byteW_first hblk (wrap64 (h * 6364136223846793005) + 1442695040888963407))
  clear hblk
  go_enter Try.func45, Try.ntmps45
  go_wp2_with fail
  go_quiet (fail)
  go_wp2_with fail
  go_quiet (fail)
  go_wp2_with fail
  go_quiet (fail)
  go_wp2_with fail
  go_ret
  exact ⟨byteOut_mod _, (HB.out.drewN _).inc⟩
/-- ONE BYTE OF A DRAW. -/
theorem l1Byte (W w : World) (p : Nat) (hc : Cur W w p) :
    Calls Try.prog 45 #[.pointer (some ⟨p, 0, none⟩)] w fun e w' => ByteOut e ∧ Cur W w' p ∧ w.grownBy w' (some p) := by
  obtain ⟨hp, hB, v, n, i, h, hbytes, hin, h0, h1, hblk⟩ := hc
  have fin : ∀ (j : Nat) (w' : World), j ≤ n → ByteW w p v j w' → Cur W w' p ∧ w.grownBy w' (some p) := fun j w' hj hw => by
    obtain ⟨⟨x, a, b, hx⟩, hg⟩ := hw
    exact ⟨⟨hp, hB.grown hg (hB.size) (fun k hk => by obtain rfl := Option.some.inj hk; exact hp), v, n, j, x, hbytes, hj, a, b, hx⟩, hg⟩
  by_cases hlt : i < n
  · rcases hbytes with ⟨c, rfl, rfl⟩ | ⟨a, c, rfl, rfl⟩ | ⟨b, off, c, rfl, hn, hcell⟩
    · omega
    · omega
    · obtain ⟨hb, z, z0, z1, hz⟩ := hcell i hlt
      have hz' : w.cell? ⟨b, off + i, none⟩ = some (.int .u8 z) := (hB.cell (p := ⟨b, off + i, none⟩) hb).trans hz
      exact (l1Byte_more w p b off c n i z h hlt hn z0 z1 (by omega) hz' hblk).mono fun e w' ⟨he, hw⟩ => ⟨he, fin _ _ (by omega) hw⟩
  · obtain rfl : i = n := by omega
    refine (l1Byte_end w p v i h ?_ hblk).mono fun e w' ⟨he, hw⟩ => ⟨he, fin _ _ (Nat.le_refl _) hw⟩
    rcases hbytes with ⟨c, rfl, rfl⟩ | ⟨a, c, rfl, rfl⟩ | ⟨b, off, c, rfl, _⟩
    · exact Or.inl ⟨c, rfl⟩
    · exact Or.inr ⟨a, c, rfl⟩
    · exact Or.inr ⟨_, c, rfl⟩
end Go.Proofs.Ytekdlkakcclejaa
