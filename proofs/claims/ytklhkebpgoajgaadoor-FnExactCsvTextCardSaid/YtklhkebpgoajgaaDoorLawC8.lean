/-
  The walks of the exact laws on CSV that take rows; the program's contracts are hypotheses.
-/
import Derived.Test.YtklhkebpgoajgaaDoorLawC7
namespace Go.Proofs.YtklhkebpgoajgaaDoor
open Go.RowKit

theorem szSS_fits (w : World) (v : Value) (left : Nat) (L : List (List (List UInt8))) (h : SSRow w v L) (hleft : left ≤ 1048576) (hsz : ∀ r ∈ L, ∀ p ∈ r, p.length ≤ 9223372036854775807) (hf : L.length + szL L ≤ left) :
    Calls Tryd.prog 19 #[v, .int .i64 left] w fun e w' => e = .returned (.int .i64 ((left - (L.length + szL L) : Nat) : Int)) ∧ w = w' :=
  (szSS w v left L h hleft hsz).mono fun e w' ⟨he, hw⟩ => ⟨by
    rcases he with ⟨_, he⟩ | ⟨hlt, _⟩
    · rw [he]
      exact ret_int (by omega)
    · omega, hw⟩
theorem szSS_not (w : World) (v : Value) (left : Nat) (L : List (List (List UInt8))) (h : SSRow w v L) (hleft : left ≤ 1048576) (hsz : ∀ r ∈ L, ∀ p ∈ r, p.length ≤ 9223372036854775807) (hf : left < L.length + szL L) :
    Calls Tryd.prog 19 #[v, .int .i64 left] w fun e w' => e = .returned (.int .i64 (-1)) ∧ w = w' :=
  (szSS w v left L h hleft hsz).mono fun e w' ⟨he, hw⟩ => ⟨by
    rcases he with ⟨hle, _⟩ | ⟨_, he⟩
    · omega
    · exact he, hw⟩
theorem row_bounds {L : List (List (List UInt8))} (h : szL L ≤ 1048576) : ∀ r ∈ L, r.length ≤ 1048576 ∧ ∀ p ∈ r, p.length ≤ 1048576 := fun r hr => by
  have h1 := szL_mem hr
  refine ⟨by omega, fun p hp => ?_⟩
  have h2 := lensum_mem hp
  omega

set_option maxRecDepth 100000 in
set_option maxHeartbeats 4000000 in
theorem lawExCsvText (v : Value) (L : List (List (List UInt8))) (w : World) (hI : ImplText w) (h : SSRow w v L) (hsz : ∀ r ∈ L, ∀ p ∈ r, p.length ≤ 9223372036854775807) :
    Calls Tryd.prog 6 #[v] w fun e w' => e = .returned (.bool true) ∧ Below w.heap.size w w' := by
  have HZ := Lib.hid hsz
  clear hsz
  by_cases hov : 1048576 < L.length + szL L
  · have HK := Lib.hid (szSS_not w v 1048576 L h (by omega) HZ.out hov)
    go_enter Tryd.func6, Tryd.ntmps6
    go_wp2_with fail
    refine HK.out.mono ?_
    rintro e w1 ⟨rfl, rfl⟩
    go_wp2_with fail
    go_ret
    exact ⟨rfl, Below.refl _ _⟩
  · have HK := Lib.hid (szSS_fits w v 1048576 L h (by omega) HZ.out (by omega))
    obtain ⟨r, hr⟩ : ∃ r : Nat, 1048576 - (L.length + szL L) = r := ⟨_, rfl⟩
    rw [hr] at HK
    have hr0 : ¬ (r : Int) < 0 := by omega
    have hl : L.length ≤ 1048576 := by omega
    have hct := csvT_sz L
    have hlen : (csvT L).length ≤ 16777216 := by omega
    have hrb := row_bounds (L := L) (by omega)
    have HRB := Lib.hid hrb
    have HL : Hid (∀ r ∈ L, r.length ≤ 1048576) := Lib.hid (fun r hr => (hrb r hr).1)
    have HL9 : Hid (∀ r ∈ L, r.length ≤ 9223372036854775807) := Lib.hid (fun r hr => by have := (hrb r hr).1; omega)
    have hP : ∀ W u, Below w.heap.size w W → SSRow W u L → Calls Tryd.prog 10 #[u] W fun e w' => e = .returned (.string ⟨(csvT L).toArray⟩) ∧ Below W.heap.size W w' := fun W u hW hu => hI W u L hW hu hlen (by omega) (fun r hr => ⟨by have := (hrb r hr).1; omega, fun p hp => by have := (hrb r hr).2 p hp; omega⟩)
    have hS : ∀ W u, SSRow W u L → Calls Tryd.prog 12 #[u] W fun e w' => e = .returned (.string ⟨(csvT L).toArray⟩) ∧ Below W.heap.size W w' := fun W u hu => specCsvText W u L hu (by omega) (fun r hr p hp => by have := (hrb r hr).2 p hp; omega)
    have HP := Lib.hid hP
    have HS := Lib.hid hS
    have h0 := Lib.hid h
    clear hP hS hI hrb hct hov hr h
    go_enter Tryd.func6, Tryd.ntmps6
    go_wp2_with fail
    refine HK.out.mono ?_
    rintro e w0 ⟨rfl, rfl⟩
    go_wp2_with fail
    refine (toSS w v L h0.out hl HL.out).mono ?_
    rintro e w1 ⟨v1, rfl, ho1, B01⟩
    have S1 := ho1.row (by omega) HL9.out
    clear ho1
    go_wp2_with fail
    refine (HS.out w1 v1 S1).mono ?_
    rintro e w2 ⟨rfl, B12⟩
    have B02 := bt B01 B12
    clear S1 B12 B01
    go_wp2_with fail
    refine (toSS w2 v L (h0.out.below B02) hl HL.out).mono ?_
    rintro e w3 ⟨v3, rfl, ho3, B23⟩
    have S3 := Lib.hid (ho3.row (by omega) HL9.out)
    have B03 := bt B02 B23
    clear ho3 B23 B02
    go_wp2_with fail
    refine (HP.out w3 v3 B03 S3.out).mono ?_
    rintro e w4 ⟨rfl, B34⟩
    have S4 := Lib.hid (S3.out.below B34)
    have B04 := bt B03 B34
    clear S3 B34 B03
    go_wp2_with fail
    refine (toSS w4 v L (h0.out.below B04) hl HL.out).mono ?_
    rintro e w5 ⟨v5, rfl, ho5, B45⟩
    have S5 := Lib.hid (ho5.row (by omega) HL9.out)
    have T5 := Lib.hid (S4.out.below B45)
    have B05 := bt B04 B45
    clear ho5 B45 B04 S4
    go_wp2_with fail
    refine (eqSS w5 v3 v5 L T5.out S5.out).mono ?_
    rintro e w6 ⟨rfl, q, rfl⟩
    go_wp2_with fail
    go_ret
    exact ⟨rfl, below_drewN2 B05 q⟩

end Go.Proofs.YtklhkebpgoajgaaDoor
