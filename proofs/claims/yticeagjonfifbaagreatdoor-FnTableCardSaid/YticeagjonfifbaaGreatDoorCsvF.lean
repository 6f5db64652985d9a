/-
  What the reference answers for one field of a text.
-/
import Derived.Test.YticeagjonfifbaaGreatDoorPk3
import Derived.Test.YticeagjonfifbaaGreatDoorPk1
namespace Go.Proofs.YticeagjonfifbaaGreatDoor
open Go.RowKit

theorem drop_at {s : ByteArray} {p : Nat} (h : p < s.size) : s.data.toList.drop p = s[p] :: s.data.toList.drop (p + 1) := by
  have hl : p < s.data.toList.length := by rw [← Lib.size_eq]; exact h
  have e : s.data.toList[p] = s[p] := by simp; rfl
  rw [List.drop_eq_getElem_cons hl, e]
theorem drop_none {s : ByteArray} {p : Nat} (h : s.size ≤ p) : s.data.toList.drop p = [] := List.drop_of_length_le (by rw [← Lib.size_eq]; exact h)

/-- What has been read of a field, and what is still to come. -/
def ReadI (g : List UInt8 → Option (List UInt8 × List UInt8)) (l : List UInt8) (acc : List UInt8) (R : Option (List UInt8 × List UInt8)) : Prop := (g l).map (fun x => (acc ++ x.1, x.2)) = R
theorem readI_start (g : List UInt8 → Option (List UInt8 × List UInt8)) (l : List UInt8) : ReadI g l [] (g l) := by
  unfold ReadI
  cases g l <;> rfl
theorem qI_none {s : ByteArray} {p : Nat} {acc : List UInt8} {R : Option (List UInt8 × List UInt8)} (hp : s.size ≤ p) (h : ReadI rdQ (s.data.toList.drop p) acc R) : R = none := by
  rw [drop_none hp] at h
  exact h.symm
theorem qI_plain {s : ByteArray} {p : Nat} {acc : List UInt8} {R : Option (List UInt8 × List UInt8)} (hp : p < s.size) (hc : ¬ s[p] = 34) (h : ReadI rdQ (s.data.toList.drop p) acc R) : ReadI rdQ (s.data.toList.drop (p + 1)) (acc ++ [s[p]]) R := by
  unfold ReadI at h ⊢
  rw [drop_at hp, rdQ_plain hc] at h
  rw [← h, Option.map_map]
  congr 1
  funext x
  simp
theorem qI_two {s : ByteArray} {p : Nat} {acc : List UInt8} {R : Option (List UInt8 × List UInt8)} (hp : p + 1 < s.size) (hc : s[p] = 34) (hd : s[p + 1] = 34) (h : ReadI rdQ (s.data.toList.drop p) acc R) : ReadI rdQ (s.data.toList.drop (p + 2)) (acc ++ [34]) R := by
  unfold ReadI at h ⊢
  rw [drop_at (by omega : p < s.size), drop_at hp, hc, hd, rdQ_two] at h
  rw [← h, Option.map_map]
  congr 1
  funext x
  simp
theorem qI_end {s : ByteArray} {p : Nat} {acc : List UInt8} {R : Option (List UInt8 × List UInt8)} (hp : p < s.size) (hc : s[p] = 34) (hd : ∀ h : p + 1 < s.size, ¬ s[p + 1] = 34) (h : ReadI rdQ (s.data.toList.drop p) acc R) : R = some (acc, s.data.toList.drop (p + 1)) := by
  unfold ReadI at h
  rw [drop_at hp, hc, rdQ_end] at h
  · rw [← h]; simp
  · by_cases h1 : p + 1 < s.size
    · rw [drop_at h1]
      intro e
      exact hd h1 (by simpa using e)
    · rw [drop_none (by omega)]
      simp
theorem uI_end {s : ByteArray} {p : Nat} {acc : List UInt8} {R : Option (List UInt8 × List UInt8)} (hp : s.size ≤ p) (h : ReadI rdU (s.data.toList.drop p) acc R) : R = some (acc, s.data.toList.drop p) := by
  unfold ReadI at h
  rw [drop_none hp] at h ⊢
  rw [← h]
  simp [rdU]
theorem uI_stop {s : ByteArray} {p : Nat} {acc : List UInt8} {R : Option (List UInt8 × List UInt8)} (hp : p < s.size) (hc : s[p] = 44 ∨ s[p] = 10 ∨ s[p] = 13) (h : ReadI rdU (s.data.toList.drop p) acc R) : R = some (acc, s.data.toList.drop p) := by
  unfold ReadI at h
  rw [drop_at hp, rdU, if_pos hc, ← drop_at hp] at h
  rw [← h]
  simp
theorem uI_bad {s : ByteArray} {p : Nat} {acc : List UInt8} {R : Option (List UInt8 × List UInt8)} (hp : p < s.size) (hc : s[p] = 34) (h : ReadI rdU (s.data.toList.drop p) acc R) : R = none := by
  unfold ReadI at h
  rw [drop_at hp, rdU, if_neg (by rw [hc]; decide), if_pos hc] at h
  exact h.symm
theorem uI_step {s : ByteArray} {p : Nat} {acc : List UInt8} {R : Option (List UInt8 × List UInt8)} (hp : p < s.size) (hc : ¬ (s[p] = 44 ∨ s[p] = 10 ∨ s[p] = 13)) (h34 : ¬ s[p] = 34) (h : ReadI rdU (s.data.toList.drop p) acc R) : ReadI rdU (s.data.toList.drop (p + 1)) (acc ++ [s[p]]) R := by
  unfold ReadI at h ⊢
  rw [drop_at hp, rdU, if_neg hc, if_neg h34] at h
  rw [← h, Option.map_map]
  congr 1
  funext x
  simp

/-- What reading a field ends in: the field, and the place behind it; or no field. -/
def FieldPost (l : List UInt8) (R : Option (List UInt8 × List UInt8)) (e : Ending) : Prop :=
  (∃ (f : List UInt8) (p : Nat), R = some (f, l.drop p) ∧ p ≤ l.length ∧ e = .returned (.tuple #[.string ⟨f.toArray⟩, .int .i64 p, .bool true])) ∨
  (R = none ∧ ∃ k : Int, e = .returned (.tuple #[.string ⟨#[]⟩, .int .i64 k, .bool false]))
theorem fieldPost_yes {s : ByteArray} {R : Option (List UInt8 × List UInt8)} {f : List UInt8} {p : Nat} {z : Int} (hz : z = p) (hp : p ≤ s.size) (h : R = some (f, s.data.toList.drop p)) : FieldPost s.data.toList R (.returned (.tuple #[.string ⟨f.toArray⟩, .int .i64 z, .bool true])) := by
  subst hz
  exact Or.inl ⟨f, p, h, by rw [← Lib.size_eq]; exact hp, rfl⟩
theorem fieldPost_no {l : List UInt8} {R : Option (List UInt8 × List UInt8)} {z : Int} (h : R = none) : FieldPost l R (.returned (.tuple #[.string ⟨#[]⟩, .int .i64 z, .bool false])) := Or.inr ⟨h, z, rfl⟩

set_option maxRecDepth 100000 in
set_option maxHeartbeats 2000000 in
theorem specFieldQ (s : ByteArray) (hs : s.size ≤ 1099511627776) (p0 : Nat) (h : p0 < s.size) (h34 : ((s[p0].toNat : Int) == 34) = true) (w : World) :
    Calls Tryz.prog 93 #[.string s, .int .i64 p0] w fun e w' => FieldPost s.data.toList (rdQ (s.data.toList.drop (p0 + 1))) e ∧ Below w.heap.size w w' := by
  obtain ⟨i0, hi, hz0, hz1, hz2⟩ := info_parts infoU8
  have h1 : (p0 : Int) < s.size := by omega
  have h0 : (0 : Int) ≤ p0 := by omega
  have HS := Lib.hid (readI_start rdQ (s.data.toList.drop (p0 + 1)))
  obtain ⟨R, hR⟩ : ∃ R, rdQ (s.data.toList.drop (p0 + 1)) = R := ⟨_, rfl⟩
  rw [hR] at HS ⊢
  clear hR
  go_enter Tryz.func93, Tryz.ntmps93
  go_wp2_with fail
  go_loopw [1, 7] (fun a v wr => ∃ (p : Nat) (acc : List UInt8), p ≤ s.size ∧ a = .int .i64 p ∧ ByRow wr w.heap.size v acc ∧ acc.length ≤ p ∧ ReadI rdQ (s.data.toList.drop p) acc R ∧ Below w.heap.size w wr) (fun a _ _ => s.size - (intOf a).toNat)
  case atStart => exact ⟨p0 + 1, [], by omega, by go_num, byRow_made w, by simp, HS.out, (Below.refl _ _).alloc (Nat.le_refl _) _⟩
  case round =>
    obtain ⟨p, acc, hp, rfl, hR, hacc, hI, hB⟩ := hrel
    clear h34
    try clear h1
    try clear h0
    have HI := Lib.hid hI
    clear hI HS
    by_cases hlt : p < s.size
    · have hp1 : (p : Int) < s.size := by omega
      have hp2 : ¬ (s.size : Int) ≤ p := by omega
      have hp0 : (0 : Int) ≤ p := by omega
      obtain ⟨hown, g, cap, rfl⟩ := hR
      have hR : ByRow wr w.heap.size (.slice (some ⟨g, 0, none⟩) acc.length cap) acc := ⟨hown, g, cap, rfl⟩
      clear hown
      by_cases hc : s[p] = 34
      · have e34 : ((s[p].toNat : Int) == 34) = true := byte_eq (c := 34) hc
        have e34n : ((s[p].toNat : Int) != 34) = false := by rw [bne, e34]; rfl
        have hw1 : IntKind.i64.wrap ((p : Int) + 1) = (p : Int) + 1 := IntWalk.i64_in _ (by omega)
        have hn1 : (0 : Int) ≤ (p : Int) + 1 := by omega
        have hn2 : ((p : Int) + 1).toNat = p + 1 := by omega
        by_cases hlt2 : p + 1 < s.size
        · have hq1 : (p : Int) + 1 < s.size := by omega
          by_cases hd : s[p + 1] = 34
          · have d34 : ((s[p + 1].toNat : Int) == 34) = true := byte_eq (c := 34) hd
            have HN := Lib.hid (qI_two hlt2 hc hd HI.out)
            clear hc hd
            go_wp2_with (at_builtin; refine wpList_append_own _ rfl _ _ 22 rfl w.heap.size 5 i0 (.int .u8 0) 1 1 Tryz.underlying22 hi hz0 hz1 hz2 rfl (by decide) _ _ _ rfl (hR.1.alloc _) ⟨wr.heap.size, 0, none⟩ 1 1 [.int .u8 34] rfl rfl ?u11 ?u12 ?u13 ?u14 ?u15 ?_)
            try (case u11 => exact news_one)
            case u12 => first | (intro u hu; simp at hu; subst hu; rfl) | rfl
            case u13 => have := hacc; unfold maxLen; omega
            case u14 => have := hacc; omega
            case u15 => have := hB.size; simp; omega
            intro v1 w1 hown1 hg1 _
            have hR1 := byRow_one (c := 34) rfl hown1
            have hB1 := below_one hB.size hB hR hg1
            clear hown1 hg1 hR hB
            go_wp2_with fail
            go_roundw
            case rel => exact ⟨p + 2, acc ++ [34], by omega, by go_num, hR1, by rw [List.length_append, List.length_singleton]; omega, HN.out, hB1⟩
            case measure => simp [intOf]; omega
          · have d34 : ((s[p + 1].toNat : Int) == 34) = false := byte_ne (c := 34) hd
            have HN := Lib.hid (qI_end hlt hc (fun _ => hd) HI.out)
            have kc := byRow_conv Tryz.underlying22 Tryz.underlying5 Tryz.underlying9 hR
            clear hc hd
            go_wp2_with fail
            go_ret3
            exact ⟨fieldPost_yes (by omega) (by omega) HN.out, hB⟩
        · have hq1 : ¬ (p : Int) + 1 < s.size := by omega
          have HN := Lib.hid (qI_end hlt hc (fun h => absurd h hlt2) HI.out)
          have kc := byRow_conv Tryz.underlying22 Tryz.underlying5 Tryz.underlying9 hR
          clear hc
          go_wp2_with fail
          go_ret3
          exact ⟨fieldPost_yes (by omega) (by omega) HN.out, hB⟩
      · have e34 : ((s[p].toNat : Int) == 34) = false := byte_ne (c := 34) hc
        have e34n : ((s[p].toNat : Int) != 34) = true := by rw [bne, e34]; rfl
        have HN := Lib.hid (qI_plain hlt hc HI.out)
        clear hc
        go_wp2_with (at_builtin; refine wpList_append_own _ rfl _ _ 22 rfl w.heap.size 5 i0 (.int .u8 0) 1 1 Tryz.underlying22 hi hz0 hz1 hz2 rfl (by decide) _ _ _ rfl (hR.1.alloc _) ⟨wr.heap.size, 0, none⟩ 1 1 [.int .u8 (s[p].toNat : Int)] rfl rfl ?u21 ?u22 ?u23 ?u24 ?u25 ?_)
        try (case u21 => exact news_one)
        case u22 => first | (intro u hu; simp at hu; subst hu; rfl) | rfl
        case u23 => have := hacc; unfold maxLen; omega
        case u24 => have := hacc; omega
        case u25 => have := hB.size; simp; omega
        intro v1 w1 hown1 hg1 _
        have hR1 := byRow_one (c := s[p]) rfl hown1
        have hB1 := below_one hB.size hB hR hg1
        clear hown1 hg1 hR hB
        go_wp2_with fail
        go_roundw
        case rel => exact ⟨p + 1, acc ++ [s[p]], by omega, by go_num, hR1, by rw [List.length_append, List.length_singleton]; omega, HN.out, hB1⟩
        case measure => simp [intOf]; omega
    · have hp2 : (s.size : Int) ≤ p := by omega
      have HN := Lib.hid (qI_none (by omega) HI.out)
      go_wp2_with fail
      go_ret3
      exact ⟨fieldPost_no HN.out, hB⟩

set_option maxRecDepth 100000 in
set_option maxHeartbeats 2000000 in
theorem specFieldU (s : ByteArray) (hs : s.size ≤ 1099511627776) (p0 : Nat) (h : p0 < s.size) (h34 : ((s[p0].toNat : Int) == 34) = false) (w : World) :
    Calls Tryz.prog 93 #[.string s, .int .i64 p0] w fun e w' => FieldPost s.data.toList (rdU (s.data.toList.drop p0)) e ∧ Below w.heap.size w w' := by
  obtain ⟨i0, hi, hz0, hz1, hz2⟩ := info_parts infoU8
  have h1 : (p0 : Int) < s.size := by omega
  have h0 : (0 : Int) ≤ p0 := by omega
  have HS := Lib.hid (readI_start rdU (s.data.toList.drop p0))
  obtain ⟨R, hR⟩ : ∃ R, rdU (s.data.toList.drop p0) = R := ⟨_, rfl⟩
  rw [hR] at HS ⊢
  clear hR
  go_enter Tryz.func93, Tryz.ntmps93
  go_wp2_with fail
  go_loopw [1, 7] (fun a v wr => ∃ (p : Nat) (acc : List UInt8), p ≤ s.size ∧ a = .int .i64 p ∧ ByRow wr w.heap.size v acc ∧ acc.length ≤ p ∧ ReadI rdU (s.data.toList.drop p) acc R ∧ Below w.heap.size w wr) (fun a _ _ => s.size - (intOf a).toNat)
  case atStart => exact ⟨p0, [], by omega, rfl, byRow_made w, by simp, HS.out, (Below.refl _ _).alloc (Nat.le_refl _) _⟩
  case round =>
    obtain ⟨p, acc, hp, rfl, hR, hacc, hI, hB⟩ := hrel
    clear h34
    try clear h1
    try clear h0
    have HI := Lib.hid hI
    clear hI HS
    obtain ⟨hown, g, cap, rfl⟩ := hR
    have hR : ByRow wr w.heap.size (.slice (some ⟨g, 0, none⟩) acc.length cap) acc := ⟨hown, g, cap, rfl⟩
    clear hown
    have kc := byRow_conv Tryz.underlying22 Tryz.underlying5 Tryz.underlying9 hR
    by_cases hlt : p < s.size
    · have hp1 : (p : Int) < s.size := by omega
      have hp0 : (0 : Int) ≤ p := by omega
      by_cases hst : s[p] = 44 ∨ s[p] = 10 ∨ s[p] = 13
      · have HN := Lib.hid (uI_stop hlt hst HI.out)
        rcases hst with hc | hc | hc
        · have f1 : ((s[p].toNat : Int) != 44) = false := by rw [hc]; decide
          have f2 : ((s[p].toNat : Int) != 10) = true := by rw [hc]; decide
          have f3 : ((s[p].toNat : Int) != 13) = true := by rw [hc]; decide
          clear hc
          go_wp2_with fail
          go_ret3
          exact ⟨fieldPost_yes rfl (by omega) HN.out, hB⟩
        · have f1 : ((s[p].toNat : Int) != 44) = true := by rw [hc]; decide
          have f2 : ((s[p].toNat : Int) != 10) = false := by rw [hc]; decide
          have f3 : ((s[p].toNat : Int) != 13) = true := by rw [hc]; decide
          clear hc
          go_wp2_with fail
          go_ret3
          exact ⟨fieldPost_yes rfl (by omega) HN.out, hB⟩
        · have f1 : ((s[p].toNat : Int) != 44) = true := by rw [hc]; decide
          have f2 : ((s[p].toNat : Int) != 10) = true := by rw [hc]; decide
          have f3 : ((s[p].toNat : Int) != 13) = false := by rw [hc]; decide
          clear hc
          go_wp2_with fail
          go_ret3
          exact ⟨fieldPost_yes rfl (by omega) HN.out, hB⟩
      · have hno : ¬ s[p] = 44 ∧ ¬ s[p] = 10 ∧ ¬ s[p] = 13 := ⟨fun h => hst (Or.inl h), fun h => hst (Or.inr (Or.inl h)), fun h => hst (Or.inr (Or.inr h))⟩
        have f1 : ((s[p].toNat : Int) != 44) = true := by have e : ((s[p].toNat : Int) == 44) = false := byte_ne (c := 44) hno.1; rw [bne, e]; rfl
        have f2 : ((s[p].toNat : Int) != 10) = true := by have e : ((s[p].toNat : Int) == 10) = false := byte_ne (c := 10) hno.2.1; rw [bne, e]; rfl
        have f3 : ((s[p].toNat : Int) != 13) = true := by have e : ((s[p].toNat : Int) == 13) = false := byte_ne (c := 13) hno.2.2; rw [bne, e]; rfl
        by_cases hc : s[p] = 34
        · have e34 : ((s[p].toNat : Int) == 34) = true := byte_eq (c := 34) hc
          have HN := Lib.hid (uI_bad hlt hc HI.out)
          clear hc hno hst
          go_wp2_with fail
          go_ret3
          exact ⟨fieldPost_no HN.out, hB⟩
        · have e34 : ((s[p].toNat : Int) == 34) = false := byte_ne (c := 34) hc
          have HN := Lib.hid (uI_step hlt hst hc HI.out)
          clear hc hno hst kc
          go_wp2_with (at_builtin; refine wpList_append_own _ rfl _ _ 22 rfl w.heap.size 5 i0 (.int .u8 0) 1 1 Tryz.underlying22 hi hz0 hz1 hz2 rfl (by decide) _ _ _ rfl (hR.1.alloc _) ⟨wr.heap.size, 0, none⟩ 1 1 [.int .u8 (s[p].toNat : Int)] rfl rfl ?u31 ?u32 ?u33 ?u34 ?u35 ?_)
          try (case u31 => exact news_one)
          case u32 => first | (intro u hu; simp at hu; subst hu; rfl) | rfl
          case u33 => have := hacc; unfold maxLen; omega
          case u34 => have := hacc; omega
          case u35 => have := hB.size; simp; omega
          intro v1 w1 hown1 hg1 _
          have hR1 := byRow_one (c := s[p]) rfl hown1
          have hB1 := below_one hB.size hB hR hg1
          clear hown1 hg1 hR hB
          go_wp2_with fail
          go_roundw
          case rel => exact ⟨p + 1, acc ++ [s[p]], by omega, by go_num, hR1, by rw [List.length_append, List.length_singleton]; omega, HN.out, hB1⟩
          case measure => simp [intOf]; omega
    · have hp1 : ¬ (p : Int) < s.size := by omega
      have HN := Lib.hid (uI_end (by omega) HI.out)
      go_wp2_with fail
      go_ret3
      exact ⟨fieldPost_yes rfl (by omega) HN.out, hB⟩

set_option maxRecDepth 100000 in
theorem specFieldE (s : ByteArray) (p0 : Nat) (h : s.size ≤ p0) (hp0 : p0 ≤ 1099511627776) (w : World) :
    Calls Tryz.prog 93 #[.string s, .int .i64 p0] w fun e w' => e = .returned (.tuple #[.string ⟨#[]⟩, .int .i64 p0, .bool true]) ∧ Below w.heap.size w w' := by
  have h1 : ¬ (p0 : Int) < s.size := by
    have := hp0
    omega
  have kc := byRow_conv Tryz.underlying22 Tryz.underlying5 Tryz.underlying9 (byRow_made w)
  go_enter Tryz.func93, Tryz.ntmps93
  go_wp2_with fail
  go_loopw [1, 7] (fun a v wr => a = .int .i64 p0 ∧ v = .slice (some ⟨w.heap.size, 0, none⟩) 0 0 ∧ wr = w.alloc (.cells #[] 5)) (fun _ _ _ => 0)
  case atStart => exact ⟨rfl, rfl, rfl⟩
  case round =>
    obtain ⟨rfl, rfl, rfl⟩ := hrel
    go_wp2_with fail
    go_ret3
    exact ⟨rfl, (Below.refl _ _).alloc (Nat.le_refl _) _⟩

/-- WHAT spec.l7Field ANSWERS. -/
theorem specField (s : ByteArray) (hs : s.size ≤ 1099511627776) (p0 : Nat) (h : p0 ≤ s.size) (w : World) :
    Calls Tryz.prog 93 #[.string s, .int .i64 p0] w fun e w' => FieldPost s.data.toList (rdF (s.data.toList.drop p0)) e ∧ Below w.heap.size w w' := by
  by_cases hlt : p0 < s.size
  · by_cases hc : s[p0] = 34
    · rw [show rdF (s.data.toList.drop p0) = rdQ (s.data.toList.drop (p0 + 1)) by rw [drop_at hlt, rdF, if_pos hc]]
      exact specFieldQ s hs p0 hlt (byte_eq (c := 34) hc) w
    · rw [show rdF (s.data.toList.drop p0) = rdU (s.data.toList.drop p0) by rw [drop_at hlt, rdF, if_neg hc]]
      exact specFieldU s hs p0 hlt (byte_ne (c := 34) hc) w
  · refine (specFieldE s p0 (by omega) (by omega) w).mono fun e w' ⟨he, hB⟩ => ⟨?_, hB⟩
    rw [he]
    exact fieldPost_yes rfl h (by rw [drop_none (by omega)]; rfl)
end Go.Proofs.YticeagjonfifbaaGreatDoor
