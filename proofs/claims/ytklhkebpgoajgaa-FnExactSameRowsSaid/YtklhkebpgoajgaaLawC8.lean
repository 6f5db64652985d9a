/-
  The walks of the exact laws on CSV that take rows; the program's contracts are hypotheses.
-/
import Derived.Test.YtklhkebpgoajgaaLawC7
namespace Go.Proofs.Ytklhkebpgoajgaa
open Go.RowKit

theorem szSS_fits (w : World) (v : Value) (left : Nat) (L : List (List (List UInt8))) (h : SSRow w v L) (hleft : left ≤ 1048576) (hsz : ∀ r ∈ L, ∀ p ∈ r, p.length ≤ 9223372036854775807) (hf : L.length + szL L ≤ left) :
    Calls Try.prog 4 #[v, .int .i64 left] w fun e w' => e = .returned (.int .i64 ((left - (L.length + szL L) : Nat) : Int)) ∧ w = w' :=
  (szSS w v left L h hleft hsz).mono fun e w' ⟨he, hw⟩ => ⟨by
    rcases he with ⟨_, he⟩ | ⟨hlt, _⟩
    · rw [he]
      exact ret_int (by omega)
    · omega, hw⟩
theorem szSS_not (w : World) (v : Value) (left : Nat) (L : List (List (List UInt8))) (h : SSRow w v L) (hleft : left ≤ 1048576) (hsz : ∀ r ∈ L, ∀ p ∈ r, p.length ≤ 9223372036854775807) (hf : left < L.length + szL L) :
    Calls Try.prog 4 #[v, .int .i64 left] w fun e w' => e = .returned (.int .i64 (-1)) ∧ w = w' :=
  (szSS w v left L h hleft hsz).mono fun e w' ⟨he, hw⟩ => ⟨by
    rcases he with ⟨hle, _⟩ | ⟨_, he⟩
    · omega
    · exact he, hw⟩
theorem row_bounds {L : List (List (List UInt8))} (h : szL L ≤ 1048576) : ∀ r ∈ L, r.length ≤ 1048576 ∧ ∀ p ∈ r, p.length ≤ 1048576 := fun r hr => by
  have h1 := szL_mem hr
  refine ⟨by omega, fun p hp => ?_⟩
  have h2 := lensum_mem hp
  omega

set_option maxRecDepth 100000 in
set_option maxHeartbeats 4000000 in
theorem lawExSameRows (hI : ImplSame) (va vb : Value) (La Lb : List (List (List UInt8))) (w : World) (ha : SSRow w va La) (hb : SSRow w vb Lb) (hza : ∀ r ∈ La, ∀ p ∈ r, p.length ≤ 9223372036854775807) (hzb : ∀ r ∈ Lb, ∀ p ∈ r, p.length ≤ 9223372036854775807) :
    Calls Try.prog 3 #[va, vb] w fun e w' => e = .returned (.bool true) ∧ Below w.heap.size w w' := by
  have HZa := Lib.hid hza
  have HZb := Lib.hid hzb
  clear hza hzb
  by_cases hova : 1048576 < La.length + szL La
  · have HK := Lib.hid (szSS_not w va 1048576 La ha (by omega) HZa.out hova)
    go_enter Try.func3, Try.ntmps3
    go_wp2_with fail
    refine HK.out.mono ?_
    rintro e w1 ⟨rfl, rfl⟩
    go_wp2_with fail
    go_ret
    exact ⟨rfl, Below.refl _ _⟩
  · have HK := Lib.hid (szSS_fits w va 1048576 La ha (by omega) HZa.out (by omega))
    obtain ⟨r, hr⟩ : ∃ r : Nat, 1048576 - (La.length + szL La) = r := ⟨_, rfl⟩
    have hr9 : r ≤ 1048576 := by omega
    rw [hr] at HK
    have hr0 : ¬ (r : Int) < 0 := by omega
    clear hr
    by_cases hovb : r < Lb.length + szL Lb
    · have HK2 := Lib.hid (szSS_not w vb r Lb hb hr9 HZb.out hovb)
      go_enter Try.func3, Try.ntmps3
      go_wp2_with fail
      refine HK.out.mono ?_
      rintro e w1 ⟨rfl, rfl⟩
      go_wp2_with fail
      refine HK2.out.mono ?_
      rintro e w1 ⟨rfl, rfl⟩
      go_wp2_with fail
      go_ret
      exact ⟨rfl, Below.refl _ _⟩
    · have HK2 := Lib.hid (szSS_fits w vb r Lb hb hr9 HZb.out (by omega))
      obtain ⟨r2, hr2⟩ : ∃ r2 : Nat, r - (Lb.length + szL Lb) = r2 := ⟨_, rfl⟩
      rw [hr2] at HK2
      have hr20 : ¬ (r2 : Int) < 0 := by omega
      clear hr2
      have hla : La.length ≤ 1048576 := by omega
      have hlb : Lb.length ≤ 1048576 := by omega
      have hra := row_bounds (L := La) (by omega)
      have hrb := row_bounds (L := Lb) (by omega)
      have HLa : Hid (∀ r ∈ La, r.length ≤ 1048576) := Lib.hid (fun r hr => (hra r hr).1)
      have HLb : Hid (∀ r ∈ Lb, r.length ≤ 1048576) := Lib.hid (fun r hr => (hrb r hr).1)
      have HLa9 : Hid (∀ r ∈ La, r.length ≤ 9223372036854775807) := Lib.hid (fun r hr => by have := (hra r hr).1; omega)
      have HLb9 : Hid (∀ r ∈ Lb, r.length ≤ 9223372036854775807) := Lib.hid (fun r hr => by have := (hrb r hr).1; omega)
      have hP : ∀ W u1 u2, SSRow W u1 La → SSRow W u2 Lb → Calls Try.prog 7 #[u1, u2] W fun e w' => e = .returned (.bool (sameB La Lb)) ∧ Below W.heap.size W w' := fun W u1 u2 h1 h2 => hI W u1 u2 La Lb h1 h2 (by omega) (by omega)
      have HP := Lib.hid hP
      have h0a := Lib.hid ha
      have h0b := Lib.hid hb
      obtain ⟨sb, hsb⟩ : ∃ sb, sameB La Lb = sb := ⟨_, rfl⟩
      have HSB := Lib.hid hsb
      clear hP hI hra hrb hova hovb ha hb hsb
      go_enter Try.func3, Try.ntmps3
      go_wp2_with fail
      refine HK.out.mono ?_
      rintro e w0 ⟨rfl, rfl⟩
      go_wp2_with fail
      refine HK2.out.mono ?_
      rintro e w0 ⟨rfl, rfl⟩
      go_wp2_with fail
      refine (toSS w va La h0a.out hla HLa.out).mono ?_
      rintro e w1 ⟨v1, rfl, ho1, B01⟩
      have S1 := Lib.hid (ho1.row (by omega) HLa9.out)
      clear ho1
      go_wp2_with fail
      refine (toSS w1 vb Lb (h0b.out.below B01) hlb HLb.out).mono ?_
      rintro e w2 ⟨v2, rfl, ho2, B12⟩
      have S2 := Lib.hid (ho2.row (by omega) HLb9.out)
      have S12 := Lib.hid (S1.out.below B12)
      have B02 := bt B01 B12
      clear ho2 B12 B01 S1
      go_wp2_with fail
      refine (specSameRows w2 v1 v2 La Lb S12.out S2.out).mono ?_
      rintro e w3 ⟨rfl, q, hw3⟩
      have B03 : Below w.heap.size w w3 := by rw [hw3]; exact below_drewN2 B02 q
      rw [HSB.out]
      clear hw3 B02 S12 S2
      go_wp2_with fail
      refine (toSS w3 va La (h0a.out.below B03) hla HLa.out).mono ?_
      rintro e w4 ⟨v4, rfl, ho4, B34⟩
      have S4 := Lib.hid (ho4.row (by omega) HLa9.out)
      have B04 := bt B03 B34
      clear ho4 B34 B03
      go_wp2_with fail
      refine (toSS w4 vb Lb (h0b.out.below B04) hlb HLb.out).mono ?_
      rintro e w5 ⟨v5, rfl, ho5, B45⟩
      have S5 := Lib.hid (ho5.row (by omega) HLb9.out)
      have S45 := Lib.hid (S4.out.below B45)
      have B05 := bt B04 B45
      clear ho5 B45 B04 S4
      go_wp2_with fail
      refine (HP.out w5 v4 v5 S45.out S5.out).mono ?_
      rintro e w6 ⟨rfl, B56⟩
      rw [HSB.out]
      have S46 := Lib.hid (S45.out.below B56)
      have S56 := Lib.hid (S5.out.below B56)
      have B06 := bt B05 B56
      clear B56 B05 S45 S5
      have hbb : (sb != sb) = false := by cases sb <;> rfl
      go_wp2_with fail
      refine (toSS w6 va La (h0a.out.below B06) hla HLa.out).mono ?_
      rintro e w7 ⟨v7, rfl, ho7, B67⟩
      have S7 := Lib.hid (ho7.row (by omega) HLa9.out)
      have S47 := Lib.hid (S46.out.below B67)
      have S57 := Lib.hid (S56.out.below B67)
      have B07 := bt B06 B67
      clear ho7 B67 B06 S46 S56
      go_wp2_with fail
      refine (eqSS w7 v4 v7 La S47.out S7.out).mono ?_
      rintro e w8 ⟨rfl, q8, hw8⟩
      have B78 : Below w7.heap.size w7 w8 := by rw [hw8]; exact below_drewN2 (Below.refl _ _) q8
      have S58 := Lib.hid (S57.out.below B78)
      have B08 := bt B07 B78
      clear hw8 B78 B07 S57 S47 S7
      go_wp2_with fail
      refine (toSS w8 vb Lb (h0b.out.below B08) hlb HLb.out).mono ?_
      rintro e w9 ⟨v9, rfl, ho9, B89⟩
      have S9 := Lib.hid (ho9.row (by omega) HLb9.out)
      have S59 := Lib.hid (S58.out.below B89)
      have B09 := bt B08 B89
      clear ho9 B89 B08 S58
      go_wp2_with fail
      refine (eqSS w9 v5 v9 Lb S59.out S9.out).mono ?_
      rintro e w10 ⟨rfl, q10, hw10⟩
      have B010 : Below w.heap.size w w10 := by rw [hw10]; exact below_drewN2 B09 q10
      clear hw10 B09 S59 S9
      go_wp2_with fail
      go_ret
      exact ⟨rfl, B010⟩

end Go.Proofs.Ytklhkebpgoajgaa
