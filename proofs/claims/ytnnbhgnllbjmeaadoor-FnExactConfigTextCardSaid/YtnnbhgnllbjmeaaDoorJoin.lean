/-
  What impl.Joined answers: the library's join.
-/
import Derived.Test.YtnnbhgnllbjmeaaDoorShStr
import Derived.Test.YtnnbhgnllbjmeaaDoorRows
import Derived.WalkKit
import Derived.ProofKit
import Derived.Outline
import Derived.Lib.Hide
import Derived.Lib.Join
namespace Go.Proofs.YtnnbhgnllbjmeaaDoor
open Go.RowKit

theorem join_call (w : World) (b off c : Nat) (ps : List (List UInt8)) (sep : ByteArray) (hcap : ps.length ≤ c) (hn : ps.length ≤ 140737488355328) (hb : b < w.heap.size)
    (hlen : (Lib.join ps sep.data.toList).length ≤ 140737488355328) (hc : ∀ (j : Nat) p, ps[j]? = some p → w.cell? ⟨b, off + j, none⟩ = some (.string ⟨p.toArray⟩)) :
    Calls Tryd.prog 82 #[.slice (some ⟨b, off, none⟩) ps.length c, .string sep] w fun e w' => e = .returned (.string ⟨(Lib.join ps sep.data.toList).toArray⟩) ∧ Below w.heap.size w w' := by
  have e : (ps.map fun p => (⟨p.toArray⟩ : ByteArray)).map (·.data.toList) = ps := by
    rw [List.map_map]
    conv => rhs; rw [← List.map_id ps]
    refine List.map_congr_left fun p _ => ?_
    simp
  have h := Tryd.strings_Join b off c (ps.map fun p => ⟨p.toArray⟩) sep w (fun j x hx => by
    rw [List.getElem?_map] at hx
    cases hp : ps[j]? with
    | none => rw [hp] at hx; cases hx
    | some p =>
      rw [hp] at hx
      obtain rfl := Option.some.inj hx
      exact hc j p hp) hb (by simpa using hn) (by simpa using hcap) (by rw [e]; exact hlen)
  rw [e, List.length_map] at h
  exact h

theorem implJoined_some (w : World) (b off c : Nat) (ps : List (List UInt8)) (sep : ByteArray) (hcap : ps.length ≤ c) (hn : ps.length ≤ 140737488355328) (hb : b < w.heap.size)
    (hlen : (Lib.join ps sep.data.toList).length ≤ 140737488355328) (hc : ∀ (j : Nat) p, ps[j]? = some p → w.cell? ⟨b, off + j, none⟩ = some (.string ⟨p.toArray⟩)) :
    Calls Tryd.prog 64 #[.slice (some ⟨b, off, none⟩) ps.length c, .string sep] w fun e w' => e = .returned (.string ⟨(Lib.join ps sep.data.toList).toArray⟩) ∧ Below w.heap.size w w' := by
  have HC := Lib.hid (join_call w b off c ps sep hcap hn hb hlen hc)
  clear hc
  go_enter Tryd.func64, Tryd.ntmps64
  go_wp2_with fail
  refine HC.out.mono ?_
  rintro e w1 ⟨rfl, hB⟩
  go_wp2_with fail
  go_ret
  exact ⟨rfl, hB⟩
end Go.Proofs.YtnnbhgnllbjmeaaDoor
