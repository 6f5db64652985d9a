/-
  The laws' own helpers on lists of numbers: equal, how often, rising.
-/
import Derived.Test.YtekdlkakcclejaaRowI
import Derived.Test.YtekdlkakcclejaaBas
import Derived.BigQuiet
namespace Go.Proofs.Ytekdlkakcclejaa
open Go.RowKit

set_option maxRecDepth 100000 in
theorem smI_zero (w : World) (a b : Option Addr) (c d : Nat) :
    Calls Try.prog 18 #[.slice a 0 c, .slice b 0 d] w fun e w' => e = .returned (.bool true) ∧ w = w' := by
  go_enter Try.func18, Try.ntmps18
  go_wp2_with fail
  go_loop [5] (fun i => i = .int .i64 0) (fun _ => 0)
  case atStart => rfl
  case round =>
    subst hrel
    go_wp2_with fail
    go_ret
    exact ⟨rfl, rfl⟩

set_option maxRecDepth 100000 in
set_option maxHeartbeats 1000000 in
theorem smI_some (w : World) (b1 o1 c1 b2 o2 c2 : Nat) (zs : List Int) (hl : zs.length ≤ 9223372036854775807)
    (h1 : ∀ (j : Nat) z, zs[j]? = some z → w.cell? ⟨b1, o1 + j, none⟩ = some (.int .i64 z)) (h2 : ∀ (j : Nat) z, zs[j]? = some z → w.cell? ⟨b2, o2 + j, none⟩ = some (.int .i64 z)) :
    Calls Try.prog 18 #[.slice (some ⟨b1, o1, none⟩) zs.length c1, .slice (some ⟨b2, o2, none⟩) zs.length c2] w fun e w' => e = .returned (.bool true) ∧ ∃ k, w' = w.drewN k := by
  have H1 := Lib.hid h1
  have H2 := Lib.hid h2
  clear h1 h2
  have HN : Hid (∃ n : Nat, zs.length = n) := ⟨_, rfl⟩
  obtain ⟨n, hn⟩ := HN.out
  rw [hn] at hl ⊢
  have HE := Lib.hid hn
  clear hn HN
  go_enter Try.func18, Try.ntmps18
  go_wp2_with fail
  go_loopw [4, 5] (fun _ i wr => ∃ (k q : Nat), k ≤ n ∧ i = .int .i64 k ∧ wr = w.drewN q) (fun _ i _ => n - (intOf i).toNat)
  case atStart => exact ⟨0, 0, Nat.zero_le _, rfl, rfl⟩
  case round =>
    obtain ⟨k, q, hk, rfl, rfl⟩ := hrel
    by_cases hlt : k < n
    · have hk1 : (k : Int) < n := by omega
      have hk0 : (0 : Int) ≤ k := by omega
      obtain ⟨p, hp⟩ : ∃ p, zs[k]? = some p := ⟨_, List.getElem?_eq_getElem (by rw [HE.out]; exact hlt)⟩
      have hc1 := H1.out k p hp
      have hc2 := H2.out k p hp
      have HP := Lib.hid hp
      clear hp
      go_wp2_with fail
      go_quiet (fail)
      go_wp2_with fail
      go_roundw
      case rel => exact ⟨k + 1, _, by omega, by go_num, rfl⟩
      case measure => simp [intOf]; omega
    · have hk1 : ¬ (k : Int) < n := by omega
      go_wp2_with fail
      go_ret
      exact ⟨rfl, q, rfl⟩

/-- TWO LISTS OF NUMBERS THAT READ ALIKE ARE EQUAL. -/
theorem smI (w : World) (v1 v2 : Value) (zs : List Int) (h1 : IntRow w v1 zs) (h2 : IntRow w v2 zs) :
    Calls Try.prog 18 #[v1, v2] w fun e w' => e = .returned (.bool true) ∧ ∃ k, w' = w.drewN k := by
  rcases h1 with ⟨rfl, a, c, rfl⟩ | ⟨b1, o1, c1, rfl, hl, _, h1⟩
  · rcases h2 with ⟨_, b, d, rfl⟩ | ⟨b2, o2, c2, rfl, _, _, _⟩
    · exact (smI_zero w a b c d).mono fun e w' ⟨he, hw⟩ => ⟨he, 0, hw ▸ rfl⟩
    · exact (smI_zero w a _ c c2).mono fun e w' ⟨he, hw⟩ => ⟨he, 0, hw ▸ rfl⟩
  · rcases h2 with ⟨rfl, b, d, rfl⟩ | ⟨b2, o2, c2, rfl, _, _, h2⟩
    · exact (smI_zero w _ b c1 d).mono fun e w' ⟨he, hw⟩ => ⟨he, 0, hw ▸ rfl⟩
    · exact smI_some w b1 o1 c1 b2 o2 c2 zs hl h1 h2

theorem smI_B (w : World) (v1 v2 : Value) (zs : List Int) (h1 : IntRow w v1 zs) (h2 : IntRow w v2 zs) :
    Calls Try.prog 18 #[v1, v2] w fun e w' => e = .returned (.bool true) ∧ Below w.heap.size w w' :=
  (smI w v1 v2 zs h1 h2).mono fun _ _ ⟨he, q, hq⟩ => ⟨he, hq ▸ below_drewN2 (Below.refl _ _) q⟩


theorem count_succ {zs : List Int} {j : Nat} {z : Int} (x : Int) (h : zs[j]? = some z) : (zs.take (j + 1)).count x = (zs.take j).count x + (if z = x then 1 else 0) := by
  rw [List.take_add_one, h, List.count_append]
  by_cases e : z = x
  · subst e
    simp
  · rw [if_neg e]
    simp [e]
set_option maxRecDepth 100000 in
set_option maxHeartbeats 1000000 in
theorem timesI_some (w : World) (b off c : Nat) (zs : List Int) (x : Int) (hl : zs.length ≤ 9223372036854775807) (hc : ∀ (j : Nat) z, zs[j]? = some z → w.cell? ⟨b, off + j, none⟩ = some (.int .i64 z)) :
    Calls Try.prog 15 #[.slice (some ⟨b, off, none⟩) zs.length c, .int .i64 x] w fun e w' => e = .returned (.int .i64 (zs.count x : Nat)) ∧ ∃ k, w' = w.drewN k := by
  have H1 := Lib.hid hc
  clear hc
  obtain ⟨n, hn⟩ : ∃ n : Nat, zs.length = n := ⟨_, rfl⟩
  rw [hn] at hl ⊢
  have HE := Lib.hid hn
  clear hn
  go_enter Try.func15, Try.ntmps15
  go_wp2_with fail
  go_loopw [5, 6] (fun v i wr => ∃ (k q : Nat), k ≤ n ∧ i = .int .i64 k ∧ v = .int .i64 ((zs.take k).count x : Nat) ∧ wr = w.drewN q) (fun _ i _ => n - (intOf i).toNat)
  case atStart => exact ⟨0, 0, Nat.zero_le _, rfl, by simp, rfl⟩
  case round =>
    obtain ⟨k, q, hk, rfl, rfl, rfl⟩ := hrel
    by_cases hlt : k < n
    · have hk1 : (k : Int) < n := by omega
      have hk0 : (0 : Int) ≤ k := by omega
      obtain ⟨z, hz⟩ : ∃ p, zs[k]? = some p := ⟨_, List.getElem?_eq_getElem (by rw [HE.out]; exact hlt)⟩
      have hc1 := H1.out k z hz
      have hcs := count_succ x hz
      have hct : (zs.take k).count x ≤ k := Nat.le_trans List.count_le_length (by rw [List.length_take]; omega)
      generalize (zs.take k).count x = m at hcs hct
      have HCS := Lib.hid hcs
      clear hz hcs
      by_cases hzx : z = x
      · subst hzx
        go_wp2_with fail
        go_roundw
        case rel => exact ⟨k + 1, _, by omega, by go_num, by rw [HCS.out, if_pos rfl]; go_num, rfl⟩
        case measure => simp [intOf]; omega
      · go_wp2_with fail
        go_roundw
        case rel => exact ⟨k + 1, _, by omega, by go_num, by rw [HCS.out, if_neg hzx]; rfl, rfl⟩
        case measure => simp [intOf]; omega
    · have hk1 : ¬ (k : Int) < n := by omega
      have e : zs.take k = zs := by rw [List.take_of_length_le]; rw [HE.out]; omega
      rw [e]
      go_wp2_with fail
      go_ret
      exact ⟨rfl, q, rfl⟩
set_option maxRecDepth 100000 in
theorem timesI_zero (w : World) (a : Option Addr) (c : Nat) (x : Int) :
    Calls Try.prog 15 #[.slice a 0 c, .int .i64 x] w fun e w' => e = .returned (.int .i64 0) ∧ w = w' := by
  go_enter Try.func15, Try.ntmps15
  go_wp2_with fail
  go_loop [5, 6] (fun v i => v = .int .i64 0 ∧ i = .int .i64 0) (fun _ _ => 0)
  case atStart => exact ⟨rfl, rfl⟩
  case round =>
    obtain ⟨rfl, rfl⟩ := hrel
    go_wp2_with fail
    go_ret
    exact ⟨rfl, rfl⟩
/-- HOW OFTEN A NUMBER IS IN A LIST. -/
theorem timesI (w : World) (v : Value) (zs : List Int) (x : Int) (h : IntRow w v zs) :
    Calls Try.prog 15 #[v, .int .i64 x] w fun e w' => e = .returned (.int .i64 (zs.count x : Nat)) ∧ Below w.heap.size w w' := by
  rcases h with ⟨rfl, a, c, rfl⟩ | ⟨b, off, c, rfl, hl, _, hc⟩
  · exact (timesI_zero w a c x).mono fun e w' ⟨he, hw⟩ => ⟨by simpa using he, hw ▸ Below.refl _ _⟩
  · exact (timesI_some w b off c zs x hl hc).mono fun e w' ⟨he, q, hq⟩ => ⟨he, hq ▸ below_drewN2 (Below.refl _ _) q⟩
theorem timesQ (w : World) (v : Value) (zs : List Int) (x : Int) (h : IntRow w v zs) :
    Calls Try.prog 15 #[v, .int .i64 x] w fun e w' => e = .returned (.int .i64 (zs.count x : Nat)) ∧ ∃ k, w' = w.drewN k := by
  rcases h with ⟨rfl, a, c, rfl⟩ | ⟨b, off, c, rfl, hl, _, hc⟩
  · exact (timesI_zero w a c x).mono fun e w' ⟨he, hw⟩ => ⟨by simpa using he, 0, hw ▸ rfl⟩
  · exact timesI_some w b off c zs x hl hc
set_option maxRecDepth 100000 in
set_option maxHeartbeats 1000000 in
theorem risI_some (w : World) (b off c : Nat) (zs : List Int) (hl : zs.length ≤ 9223372036854775807) (hs : zs.Pairwise (· ≤ ·)) (hc : ∀ (j : Nat) z, zs[j]? = some z → w.cell? ⟨b, off + j, none⟩ = some (.int .i64 z)) :
    Calls Try.prog 13 #[.slice (some ⟨b, off, none⟩) zs.length c] w fun e w' => e = .returned (.bool true) ∧ ∃ k, w' = w.drewN k := by
  have H1 := Lib.hid hc
  have HS := Lib.hid hs
  clear hc hs
  obtain ⟨n, hn⟩ : ∃ n : Nat, zs.length = n := ⟨_, rfl⟩
  rw [hn] at hl ⊢
  have HE := Lib.hid hn
  clear hn
  go_enter Try.func13, Try.ntmps13
  go_wp2_with fail
  go_loopw [3] (fun i wr => ∃ (k q : Nat), 1 ≤ k ∧ i = .int .i64 k ∧ wr = w.drewN q) (fun i _ => n + 1 - (intOf i).toNat)
  case atStart => exact ⟨1, 0, Nat.le_refl _, rfl, rfl⟩
  case round =>
    obtain ⟨k, q, hk, rfl, rfl⟩ := hrel
    by_cases hlt : k < n
    · have hk1 : (k : Int) < n := by omega
      have hk0 : (0 : Int) ≤ k := by omega
      have hkm : IntKind.i64.wrap ((k : Int) - 1) = ((k - 1 : Nat) : Int) := by rw [IntKind.wrap_i64]; omega
      have hkn : ((k - 1 : Nat) : Int) < n := by omega
      have hk9 : (0 : Int) ≤ ((k - 1 : Nat) : Int) := by omega
      obtain ⟨z, hz⟩ : ∃ p, zs[k]? = some p := ⟨_, List.getElem?_eq_getElem (by rw [HE.out]; exact hlt)⟩
      obtain ⟨y, hy⟩ : ∃ p, zs[k - 1]? = some p := ⟨_, List.getElem?_eq_getElem (by rw [HE.out]; omega)⟩
      have hc1 := H1.out k z hz
      have hc2 := H1.out (k - 1) y hy
      have hle : ¬ z < y := by
        obtain ⟨h1, rfl⟩ := List.getElem?_eq_some_iff.1 hz
        obtain ⟨h2, rfl⟩ := List.getElem?_eq_some_iff.1 hy
        have := List.pairwise_iff_getElem.1 HS.out (k - 1) k h2 h1 (by omega)
        omega
      clear hz hy
      generalize hkg : k - 1 = k9 at *
      go_wp2_with fail
      go_quiet (fail)
      go_wp2_with fail
      go_roundw
      case rel => exact ⟨k + 1, _, by omega, by go_num, rfl⟩
      case measure => simp [intOf]; omega
    · have hk1 : ¬ (k : Int) < n := by omega
      go_wp2_with fail
      go_ret
      exact ⟨rfl, q, rfl⟩
set_option maxRecDepth 100000 in
theorem risI_zero (w : World) (a : Option Addr) (c : Nat) :
    Calls Try.prog 13 #[.slice a 0 c] w fun e w' => e = .returned (.bool true) ∧ w = w' := by
  go_enter Try.func13, Try.ntmps13
  go_wp2_with fail
  go_loop [3] (fun i => i = .int .i64 1) (fun _ => 0)
  case atStart => rfl
  case round =>
    subst hrel
    go_wp2_with fail
    go_ret
    exact ⟨rfl, rfl⟩
/-- A LIST THAT RISES. -/
theorem risI (w : World) (v : Value) (zs : List Int) (hs : zs.Pairwise (· ≤ ·)) (h : IntRow w v zs) :
    Calls Try.prog 13 #[v] w fun e w' => e = .returned (.bool true) ∧ Below w.heap.size w w' := by
  rcases h with ⟨rfl, a, c, rfl⟩ | ⟨b, off, c, rfl, hl, _, hc⟩
  · exact (risI_zero w a c).mono fun e w' ⟨he, hw⟩ => ⟨he, hw ▸ Below.refl _ _⟩
  · exact (risI_some w b off c zs hl hs hc).mono fun e w' ⟨he, q, hq⟩ => ⟨he, hq ▸ below_drewN2 (Below.refl _ _) q⟩
set_option maxRecDepth 100000 in
/-- WHETHER A NUMBER IS IN A LIST. -/
theorem hasI (w : World) (v : Value) (zs : List Int) (x : Int) (hx : x ∈ zs) (h : IntRow w v zs) :
    Calls Try.prog 20 #[v, .int .i64 x] w fun e w' => e = .returned (.bool true) ∧ Below w.heap.size w w' := by
  have hp : 0 < zs.count x := List.count_pos_iff.2 hx
  obtain ⟨a, c, rfl, _⟩ := intRow_form h
  have HT := Lib.hid (timesI w _ zs x h)
  obtain ⟨m, hm⟩ : ∃ m, zs.count x = m := ⟨_, rfl⟩
  rw [hm] at HT hp
  have hp1 : (0 : Int) < m := by omega
  clear h hx hm
  go_enter Try.func20, Try.ntmps20
  go_wp2_with fail
  refine HT.out.mono ?_
  rintro e w1 ⟨rfl, B⟩
  go_wp2_with fail
  go_ret
  exact ⟨rfl, B⟩
set_option maxRecDepth 100000 in
theorem hasQ (w : World) (v : Value) (zs : List Int) (x : Int) (hx : x ∈ zs) (h : IntRow w v zs) :
    Calls Try.prog 20 #[v, .int .i64 x] w fun e w' => e = .returned (.bool true) ∧ ∃ k, w' = w.drewN k := by
  have hp : 0 < zs.count x := List.count_pos_iff.2 hx
  obtain ⟨a, c, rfl, _⟩ := intRow_form h
  have HT := Lib.hid (timesQ w _ zs x h)
  obtain ⟨m, hm⟩ : ∃ m, zs.count x = m := ⟨_, rfl⟩
  rw [hm] at HT hp
  have hp1 : (0 : Int) < m := by omega
  clear h hx hm
  go_enter Try.func20, Try.ntmps20
  go_wp2_with fail
  refine HT.out.mono ?_
  rintro e w1 ⟨rfl, k, rfl⟩
  go_wp2_with fail
  go_ret
  exact ⟨rfl, k, rfl⟩
end Go.Proofs.Ytekdlkakcclejaa
