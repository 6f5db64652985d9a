/-
  Cuts, the program's way.
-/
import Derived.Test.YtgknkjiifcnkpaaPk6
import Derived.Test.YtgknkjiifcnkpaaI9N
import Derived.Test.YtgknkjiifcnkpaaSrtV
namespace Go.Proofs.Ytgknkjiifcnkpaa
open Go.RowKit

theorem raw_mem {A : List Int} {b : Nat} : ∀ j x, x ∈ rawZ A b j → ∃ k, k ≤ j ∧ 1 ≤ A.length * k / b ∧ x = A.getD (A.length * k / b - 1) 0
  | 0, _, h => by simp [rawZ] at h
  | j + 1, x, h => by
    unfold rawZ at h
    split at h
    · rename_i hc
      rcases List.mem_append.1 h with h | h
      · obtain ⟨k, hk, h1, h2⟩ := raw_mem j x h
        exact ⟨k, by omega, h1, h2⟩
      · exact ⟨j + 1, Nat.le_refl _, hc.1, List.mem_singleton.1 h⟩
    · obtain ⟨k, hk, h1, h2⟩ := raw_mem j x h
      exact ⟨k, by omega, h1, h2⟩
theorem raw_srt {A : List Int} {b : Nat} (h : A.Pairwise (· ≤ ·)) (hb : 0 < b) : ∀ j, j ≤ b → (rawZ A b j).Pairwise (· ≤ ·)
  | 0, _ => by simp [rawZ]
  | j + 1, hj => by
    have ih := raw_srt h hb j (by omega)
    unfold rawZ
    split
    · rename_i hc
      refine List.pairwise_append.2 ⟨ih, by simp, fun a ha c hc2 => ?_⟩
      obtain rfl := List.mem_singleton.1 hc2
      obtain ⟨k, hk, h1, rfl⟩ := raw_mem j a ha
      have hle : A.length * k / b ≤ A.length * (j + 1) / b := Nat.div_le_div_right (Nat.mul_le_mul_left _ (by omega))
      have hn : A.length * (j + 1) / b ≤ A.length := by
        refine Nat.div_le_of_le_mul ?_
        rw [Nat.mul_comm]
        exact Nat.mul_le_mul hj (Nat.le_refl _)
      exact srt_le h (by omega) (by omega)
    · exact ih

set_option maxRecDepth 100000 in
set_option maxHeartbeats 800000 in
theorem implCutsOf (zs : List Int) (b : Int) (u : Value) (w : World) (h : IntRow w u zs) (hle : zs.length ≤ 1048576) :
    Calls Try.prog 13 #[u, .int .i64 b] w fun e w' => (∃ v, e = .returned v ∧ w'.ownsRow w.heap.size 3 1 v (cutsZ zs b).length (intCells (cutsZ zs b))) ∧ Below w.heap.size w w' := by
  obtain ⟨iI, gi, gz0, gz1, gz2⟩ := info_parts infoInt
  obtain ⟨a, c, rfl, hl9, _⟩ := intRow_form h
  by_cases hb : inZ b 2 8 = true
  · by_cases hn1 : inZ (zs.length : Int) 1 40 = true
    · have hbb := inZ_iff.1 hb
      have hnn := inZ_iff.1 hn1
      obtain ⟨bn, rfl⟩ : ∃ bn : Nat, b = bn := ⟨b.toNat, by omega⟩
      obtain ⟨D, hdz⟩ : ∃ D, distZ (rawZ (sortZ zs) bn (bn - 1)) = D := ⟨_, rfl⟩
      have hDD : cutsZ zs bn = D := by rw [cutsZ, if_pos ⟨hb, hn1⟩]; exact hdz
      rw [hDD]
      have h1 := Lib.hid h
      clear h hDD
      go_enter Try.func13, Try.ntmps13
      go_wp2_with fail
      refine (inRange9 _ _ _ _).mono ?_
      rintro e w1a ⟨rfl, rfl⟩
      rw [hb]
      go_wp2_with fail
      refine (inRange9 _ _ _ _).mono ?_
      rintro e w1b ⟨rfl, rfl⟩
      rw [hn1]
      go_wp2_with fail
      refine (implSorted zs _ _ h1.out hle).mono ?_
      rintro e w1 ⟨⟨ga, ca, rfl, hoa⟩, B1⟩
      have hsl := sortZ_len zs
      have hss := sortZ_srt zs
      generalize sortZ zs = A at hoa hsl hdz hss
      have HSS := Lib.hid hss
      obtain ⟨n, hn⟩ : ∃ n : Nat, zs.length = n := ⟨_, rfl⟩
      rw [← hsl] at hoa
      rw [hn] at hsl hnn hn1 hle hl9 ⊢
      have HE := Lib.hid hsl
      have HD0 : Hid (DedS w (w1.alloc (.cells #[] 3)) (.slice (some ⟨w1.heap.size, 0, none⟩) 0 0) (.slice (some ⟨ga, 0, none⟩) A.length ca) [] A) := Lib.hid ⟨World.ownsRow.mono (World.ownsRow_made w1 #[] 0 (Nat.le_refl _) (by unfold maxLen; omega) (by simp)) B1.size, owns_bl hoa (bl_al w1 _), fun g hg e => by
        have h1 := (hoa.lt g e).2
        have h2 : w1.heap.size = g := Option.some.inj hg
        omega, bt B1 (bl_al w1 _)⟩
      rw [hsl] at HD0
      obtain ⟨y, hy⟩ : ∃ y, A[n - 1]? = some y := ⟨_, List.getElem?_eq_getElem (by omega)⟩
      have HYD : Hid (A.getD (n - 1) 0 = y) := Lib.hid (by rw [List.getD_eq_getElem?_getD, hy]; rfl)
      have HY := Lib.hid hy
      have hcy0 : w1.cell? ⟨ga, n - 1, none⟩ = some (.int .i64 y) := by
        have h := hoa.cellAt (n - 1) (by omega)
        rw [h]
        exact intCells_at hy
      have HSR : Hid ((rawZ A bn (bn - 1)).Pairwise (· ≤ ·)) := Lib.hid (raw_srt hss (by omega) _ (by omega))
      have HDZ := Lib.hid hdz
      have hnm : IntKind.i64.wrap ((n : Int) - 1) = ((n - 1 : Nat) : Int) := by rw [IntKind.wrap_i64]; omega
      have hn0 : (0 : Int) ≤ ((n - 1 : Nat) : Int) := by omega
      have hnl : ((n - 1 : Nat) : Int) < n := by omega
      have hbz : ¬ (bn : Int) = 0 := by omega
      have hbm : ¬ (bn : Int) = -1 := by omega
      clear hoa B1 h1 hdz hn hy hb hn1 hsl hss
      go_wp2_with fail
      go_loopg [7, 8] (bn - 1) (fun g_ v_ k_ wr => ∃ (j : Nat) (vo : Value), g_ = bn - 1 - j ∧ k_ = .int .i64 ((j + 1 : Nat) : Int) ∧ j ≤ bn - 1 ∧ vo = v_ ∧ DedS w wr vo (.slice (some ⟨ga, 0, none⟩) n ca) (rawZ A bn j) A)
      case atStart => exact ⟨0, _, rfl, rfl, Nat.zero_le _, rfl, HD0.out⟩
      case round =>
        clear HD0
        obtain ⟨j, vo, rfl, rfl, hj, rfl, hD⟩ := hrel
        by_cases hlt : j < bn - 1
        · have hj1 : ((j + 1 : Nat) : Int) < bn := by omega
          obtain ⟨m, hm⟩ : ∃ m, n * (j + 1) = m := ⟨_, rfl⟩
          have hm320 : m ≤ 320 := by
            have h1 : n * (j + 1) ≤ 40 * 8 := Nat.mul_le_mul (by omega) (by omega)
            omega
          have hmi : (n : Int) * ((j : Int) + 1) = (m : Int) := by rw [← hm]; push_cast; rfl
          have hw1 : wrap64 ((n : Int) * ((j : Int) + 1)) = (m : Int) := by rw [hmi]; unfold wrap64; omega
          obtain ⟨i, hi⟩ : ∃ i, m / bn = i := ⟨_, rfl⟩
          have hile : i ≤ n := by
            rw [← hi, ← hm]
            refine Nat.div_le_of_le_mul ?_
            rw [Nat.mul_comm]
            exact Nat.mul_le_mul (by omega) (Nat.le_refl _)
          have hdq : (m : Int).tdiv (bn : Int) = (i : Int) := by rw [← hi]; rfl
          have hw2 : wrap64 (i : Int) = i := by unfold wrap64; omega
          have hW : wrap64 ((wrap64 ((n : Int) * ((j : Int) + 1))).tdiv (bn : Int)) = (i : Int) := by rw [hw1, hdq, hw2]
          have HW := Lib.hid hW
          clear hw1 hdq hw2 hW
          have HI9 := Lib.hid hi
          have hraw : rawZ A bn (j + 1) = if 1 ≤ i ∧ A.getD (i - 1) 0 < A.getD (n - 1) 0 then rawZ A bn j ++ [A.getD (i - 1) 0] else rawZ A bn j := by rw [rawZ, HE.out, hm, hi]
          have HRW := Lib.hid hraw
          have LEN := Lib.hid (Nat.le_trans (rawZ_len A bn j) (show j ≤ 1048576 by omega))
          have HD := Lib.hid hD
          clear hi hD hraw hmi hm
          by_cases hi0 : i = 0
          · subst hi0
            have HNO : Hid (rawZ A bn (j + 1) = rawZ A bn j) := Lib.hid (by rw [HRW.out, if_neg (fun h => absurd h.1 (by decide))])
            have hW : wrap64 ((wrap64 ((n : Int) * ((j : Int) + 1))).tdiv (bn : Int)) = 0 := by simpa using HW.out
            go_wp2_with fail
            clear hW
            go_roundg (bn - 1 - (j + 1))
            case measure => omega
            case rel => exact ⟨j + 1, _, rfl, by go_num, by omega, rfl, by rw [HNO.out]; exact HD.out⟩
          · obtain ⟨p, hp⟩ : ∃ p, i = p + 1 := ⟨i - 1, by omega⟩
            have hin : 1 ≤ i := by omega
            have hin1 : (1 : Int) ≤ i := by omega
            have hin0 : 0 < i := by omega
            have hqm : IntKind.i64.wrap ((i : Int) - 1) = p := by rw [IntKind.wrap_i64]; omega
            have hqw : wrap64 ((i : Int) - 1) = p := by unfold wrap64; omega
            have hp0 : (0 : Int) ≤ p := by omega
            have hpn : p < n := by omega
            have hpi : (p : Int) < n := by omega
            have him : i - 1 = p := by omega
            have HP := Lib.hid hp
            clear hp hi0
            obtain ⟨x, hx⟩ : ∃ x, A[p]? = some x := ⟨_, List.getElem?_eq_getElem (by rw [HE.out]; exact hpn)⟩
            have hxd : A.getD (i - 1) 0 = x := by rw [him, List.getD_eq_getElem?_getD, hx]; rfl
            have HX := Lib.hid hx
            have HXD := Lib.hid hxd
            have hcx := HD.out.cell HE.out hx
            have hcy := HD.out.cell HE.out HY.out
            clear hx him
            by_cases hxy : x < y
            · have HYES : Hid (rawZ A bn (j + 1) = rawZ A bn j ++ [x]) := Lib.hid (by rw [HRW.out, hxd, HYD.out, if_pos ⟨hin, hxy⟩])
              clear hxd
              have hW := HW.out
              have hne : ¬ x = y := by omega
              clear hcy
              obtain ⟨ao, co, hvo⟩ := owns_form HD.out.own
              subst hvo
              have hll := LEN.out
              go_wp2_with (at_builtin; refine wpList_append_own_at _ rfl _ _ 24 rfl w.heap.size 3 iI (.int .i64 0) 1 8 Try.underlying24 gi gz0 gz1 gz2 rfl (by decide) _ _ _ rfl (World.ownsRow.alloc HD.out.own (.cells #[.int .i64 x] 3)) ⟨wr.heap.size, 0, none⟩ 1 1 [.int .i64 x] rfl rfl ?a103 ?b103 ?c103 ?d103 ?e103 ?_)
              try (case a103 => exact news_blkS (alloc_blk wr _ _))
              try (case b103 => first | (intro u hu; simp at hu; subst hu; rfl) | rfl)
              case c103 => unfold maxLen; omega
              case d103 => omega
              case e103 => have := HD.out.bel.size; (try simp); omega
              intro v5 w5 hown5 hg5 _ hat5
              have HN := Lib.hid ((HD.out.next (bl_al wr (.cells #[.int .i64 x] 3))).app (x := x) hg5 hown5 (by rw [sz_alloc]; exact hat5))
              clear hown5 hg5 hat5
              go_wp2_with fail
              go_roundg (bn - 1 - (j + 1))
              case measure => omega
              case rel => exact ⟨j + 1, _, rfl, by go_num, by omega, rfl, by rw [HYES.out]; exact HN.out⟩
            · have HNO : Hid (rawZ A bn (j + 1) = rawZ A bn j) := Lib.hid (by rw [HRW.out, hxd, HYD.out, if_neg (fun h => hxy h.2)])
              clear hxd
              have hxy2 : x = y := by
                have h := srt_le HSS.out (i := i - 1) (j := n - 1) (by omega) (by rw [HE.out]; omega)
                rw [HXD.out, HYD.out] at h
                omega
              subst hxy2
              have hW := HW.out
              go_wp2_with fail
              clear hW
              go_roundg (bn - 1 - (j + 1))
              case measure => omega
              case rel => exact ⟨j + 1, _, rfl, by go_num, by omega, rfl, by rw [HNO.out]; exact HD.out⟩
        · have hj1 : ¬ ((j + 1 : Nat) : Int) < bn := by omega
          have hjn : j = bn - 1 := by omega
          rw [hjn] at hD
          have hO := hD.own
          have hB := Lib.hid hD.bel
          have hlr := rawZ_len A bn (bn - 1)
          have HIR := Lib.hid hO
          clear hD hO hjn
          go_wp2_with fail
          refine (libCompact HIR.out (by omega) HSR.out).mono ?_
          rintro e w9 ⟨⟨v9, rfl, ho9⟩, B9⟩
          rw [HDZ.out] at ho9
          obtain ⟨ao, co, hvo⟩ := owns_form ho9
          subst hvo
          have HO9 := Lib.hid ho9
          go_wp2_with fail
          go_ret
          exact ⟨⟨_, rfl, HO9.out⟩, hB.out.trans B9⟩
    · have hn9 : inZ (zs.length : Int) 1 40 = false := by simpa using hn1
      rw [show cutsZ zs b = [] by rw [cutsZ, if_neg (fun h => hn1 h.2)]]
      clear hn1 h
      go_enter Try.func13, Try.ntmps13
      go_wp2_with fail
      refine (inRange9 _ _ _ _).mono ?_
      rintro e w1a ⟨rfl, rfl⟩
      rw [hb]
      go_wp2_with fail
      refine (inRange9 _ _ _ _).mono ?_
      rintro e w1b ⟨rfl, rfl⟩
      rw [hn9]
      go_wp2_with fail
      go_ret
      exact ⟨⟨_, rfl, ⟨rfl, Or.inl ⟨rfl, rfl⟩⟩⟩, Below.refl _ _⟩
  · have hb9 : inZ b 2 8 = false := by simpa using hb
    rw [show cutsZ zs b = [] by rw [cutsZ, if_neg (fun h => hb h.1)]]
    clear hb h
    go_enter Try.func13, Try.ntmps13
    go_wp2_with fail
    refine (inRange9 _ _ _ _).mono ?_
    rintro e w1a ⟨rfl, rfl⟩
    rw [hb9]
    go_wp2_with fail
    go_ret
    exact ⟨⟨_, rfl, ⟨rfl, Or.inl ⟨rfl, rfl⟩⟩⟩, Below.refl _ _⟩
end Go.Proofs.Ytgknkjiifcnkpaa
