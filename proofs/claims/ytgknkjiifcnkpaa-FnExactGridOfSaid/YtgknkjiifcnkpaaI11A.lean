/-
  The bin of a value, the program's way: a search among sorted cuts.
-/
import Derived.Test.YtgknkjiifcnkpaaPk6
import Derived.Test.YtgknkjiifcnkpaaI9N
import Derived.Test.YtgknkjiifcnkpaaLawB11
namespace Go.Proofs.Ytgknkjiifcnkpaa
open Go.RowKit

theorem cnt_rangeB (l : List Int) (p : Int → Bool) : (List.range l.length).countP (fun i => p (l.getD i 0)) = l.countP p := by
  have e : l = (List.range l.length).map (fun i => l.getD i 0) := by
    refine List.ext_getElem (by simp) fun i h1 h2 => ?_
    simp [List.getD, h1]
  conv => rhs; rw [e]
  rw [List.countP_map]
  rfl
theorem cnt_sortedB (zs : List Int) (v : Int) : (List.range (sortZ zs).length).countP (fun i => !decide (v ≤ (sortZ zs).getD i 0)) = binZ zs v := by
  refine (cnt_rangeB (sortZ zs) (fun c => !decide (v ≤ c))).trans ?_
  rw [(sortZ_perm zs).countP_eq, binZ]
  refine List.countP_congr fun c _ => ?_
  simp only [Bool.not_eq_true', decide_eq_false_iff_not, decide_eq_true_eq]
  omega
set_option maxRecDepth 100000 in
set_option maxHeartbeats 1000000 in
/-- Whether a cut is not less than v. -/
theorem notLess9 (W : World) (bo bv n c i b off : Nat) (x v : Int) (hi : i < n) (h1 : W.cell? ⟨bo, 0, none⟩ = some (.slice (some ⟨b, off, none⟩) n c)) (h2 : W.cell? ⟨bv, 0, none⟩ = some (.int .i64 v)) (h3 : W.cell? ⟨b, off + i, none⟩ = some (.int .i64 x)) :
    Calls Try.prog 48 #[.int .i64 i, .pointer (some ⟨bo, 0, none⟩), .pointer (some ⟨bv, 0, none⟩)] W fun e w' => e = .returned (.bool (decide (v ≤ x))) ∧ ∃ q, w' = W.drewN q := by
  have hi0 : (0 : Int) ≤ i := by omega
  have hi1 : (i : Int) < n := by omega
  by_cases hx : v ≤ x
  · have HD := Lib.hid (decide_eq_true hx)
    go_enter Try.func48, Try.ntmps48
    go_wp2_with fail
    go_quiet (fail)
    go_wp2_with fail
    go_ret
    exact ⟨ret_bool9 (by rw [HD.out]), _, rfl⟩
  · have HD := Lib.hid (decide_eq_false hx)
    go_enter Try.func48, Try.ntmps48
    go_wp2_with fail
    go_quiet (fail)
    go_wp2_with fail
    go_ret
    exact ⟨ret_bool9 (by rw [HD.out]), _, rfl⟩
set_option maxRecDepth 100000 in
set_option maxHeartbeats 2000000 in
/-- The search among n places: the first at which the closure says true. -/
theorem search9 (w : World) (bo bv n : Nat) (p : Nat → Bool) (hn : n ≤ 1048576)
    (hf : ∀ z i : Nat, i < n → Calls Try.prog 48 #[.int .i64 i, .pointer (some ⟨bo, 0, none⟩), .pointer (some ⟨bv, 0, none⟩)] (w.drewN z) fun e w' => e = .returned (.bool (p i)) ∧ ∃ q, w' = (w.drewN z).drewN q)
    (hmono : ∀ a b, a ≤ b → b < n → p a = true → p b = true) :
    Calls Try.prog 47 #[.int .i64 n, .func (.func 48) #[] #[.pointer (some ⟨bo, 0, none⟩), .pointer (some ⟨bv, 0, none⟩)]] w fun e w' => (∃ r : Nat, e = .returned (.int .i64 r) ∧ r ≤ n ∧ (∀ t, t < r → p t = false) ∧ ∀ t, r ≤ t → t < n → p t = true) ∧ ∃ q, w' = w.drewN q := by
  have HF := Lib.hid hf
  have HM := Lib.hid hmono
  clear hf hmono
  go_enter Try.func47, Try.ntmps47
  go_wp2_with fail
  go_loopg [5, 6] n (fun g lo_ hi_ wr => ∃ lo hi z : Nat, lo_ = .int .i64 lo ∧ hi_ = .int .i64 hi ∧ lo ≤ hi ∧ hi ≤ n ∧ g = hi - lo ∧ wr = w.drewN z ∧ Hid ((∀ t, t < lo → p t = false) ∧ ∀ t, hi ≤ t → t < n → p t = true))
  case atStart => exact ⟨0, n, 0, rfl, rfl, Nat.zero_le _, Nat.le_refl _, by omega, rfl, Lib.hid ⟨fun t ht => by omega, fun t h1 h2 => by omega⟩⟩
  case round =>
    obtain ⟨lo, hi, z, rfl, rfl, hlh, hin, rfl, rfl, I⟩ := hrel
    by_cases hlt : lo < hi
    · have hlt1 : (lo : Int) < hi := by omega
      obtain ⟨m, hm⟩ : ∃ m : Nat, (lo + hi) / 2 = m := ⟨_, rfl⟩
      have hmi : ((lo : Int) + (hi : Int)) / 2 = (m : Int) := by omega
      have hmn : m < n := by omega
      have hml : lo ≤ m := by omega
      have hmh : m < hi := by omega
      have hw1 : wrap64 ((lo : Int) + (hi : Int)) = (lo : Int) + (hi : Int) := by unfold wrap64; omega
      have HR := Lib.hid (HF.out z m hmn)
      obtain ⟨wq, hwq⟩ : ∃ wq, w.drewN z = wq := ⟨_, rfl⟩
      rw [hwq] at HR ⊢
      have HW := Lib.hid hwq
      clear hwq hm
      cases hp : p m with
      | false =>
        rw [hp] at HR
        have HP := Lib.hid hp
        clear hp
        go_wp2_with fail
        refine HR.out.mono ?_
        rintro e w1 ⟨rfl, q, rfl⟩
        go_wp2_with fail
        go_roundg (hi - (m + 1))
        case measure => omega
        case rel =>
          have HI : ∀ t, t < m + 1 → p t = false := fun t ht => by
            cases h : p t with
            | false => rfl
            | true =>
              have h2 := HM.out t m (by omega) hmn h
              rw [HP.out] at h2
              cases h2
          exact ⟨m + 1, hi, z + q, by go_num, rfl, by omega, hin, rfl, by rw [← HW.out, World.drewN_drewN], Lib.hid ⟨HI, I.out.2⟩⟩
      | true =>
        rw [hp] at HR
        have HP := Lib.hid hp
        clear hp
        go_wp2_with fail
        refine HR.out.mono ?_
        rintro e w1 ⟨rfl, q, rfl⟩
        go_wp2_with fail
        go_roundg (m - lo)
        case measure => omega
        case rel => exact ⟨lo, m, z + q, rfl, by go_num, hml, by omega, rfl, by rw [← HW.out, World.drewN_drewN], Lib.hid ⟨I.out.1, fun t ht htn => HM.out m t ht htn HP.out⟩⟩
    · have hlt1 : ¬ (lo : Int) < hi := by omega
      obtain rfl : hi = lo := by omega
      go_wp2_with fail
      go_ret
      exact ⟨⟨hi, rfl, hin, I.out.1, I.out.2⟩, z, rfl⟩
theorem cnt_cutB {n r : Nat} {p : Nat → Bool} (hr : r ≤ n) (h1 : ∀ t, t < r → p t = false) (h2 : ∀ t, r ≤ t → t < n → p t = true) : (List.range n).countP (fun i => !p i) = r := by
  obtain ⟨k, rfl⟩ : ∃ k, n = r + k := ⟨n - r, by omega⟩
  rw [List.range_add, List.countP_append, List.countP_map]
  have e1 : (List.range r).countP (fun i => !p i) = r := by
    rw [List.countP_eq_length.2 (fun a ha => by rw [h1 a (List.mem_range.1 ha)]; rfl), List.length_range]
  have e2 : (List.range k).countP ((fun i => !p i) ∘ fun x => r + x) = 0 := by
    rw [List.countP_eq_zero]
    intro a ha
    have := List.mem_range.1 ha
    simp [h2 (r + a) (by omega) (by omega)]
  rw [e1, e2]
  rfl
set_option maxRecDepth 100000 in
set_option maxHeartbeats 1000000 in
/-- THE BIN OF A VALUE. -/
theorem implBin : ImplBin := fun zs v u w h hle => by
  obtain ⟨a, c, rfl, _⟩ := intRow_form h
  have hA := bl_al w (.cells #[.int .i64 v] 3)
  have h0 := Lib.hid (h.below hA)
  have x := alloc_blk w #[.int .i64 v] 3
  have HA := Lib.hid hA
  have X := Lib.hid x
  have HC := Lib.hid (cnt_sortedB zs v)
  have HS := Lib.hid (sortZ_srt zs)
  have HL := Lib.hid (sortZ_len zs)
  clear h hA x
  go_enter Try.func14, Try.ntmps14
  go_wp2_with fail
  refine (implSorted zs _ _ h0.out hle).mono ?_
  rintro e w1 ⟨⟨g, c1, rfl, ho⟩, B1⟩
  obtain ⟨n, hn⟩ : ∃ n : Nat, zs.length = n := ⟨_, rfl⟩
  rw [hn] at ho HL hle ⊢
  generalize sortZ zs = S at HC HS HL ho
  have hBA := bt (bt HA.out B1) (bl_al w1 (.cells #[.slice (some ⟨g, 0, none⟩) n c1] 24))
  have xv := blk_al (blk_next X.out B1) (.cells #[.slice (some ⟨g, 0, none⟩) n c1] 24)
  have xo := alloc_blk w1 #[.slice (some ⟨g, 0, none⟩) n c1] 24
  have ho2 := owns_bl ho (bl_al w1 (.cells #[.slice (some ⟨g, 0, none⟩) n c1] 24))
  obtain ⟨w2, hw2⟩ : ∃ x, w1.alloc (.cells #[.slice (some ⟨g, 0, none⟩) n c1] 24) = x := ⟨_, rfl⟩
  rw [hw2] at hBA xv xo ho2
  have hS := search9 w2 w1.heap.size w.heap.size n (fun i => decide (v ≤ S.getD i 0)) hle (fun z i hi => by
    have hx : S[i]? = some (S.getD i 0) := by
      have hi2 : i < S.length := by rw [HL.out]; exact hi
      rw [List.getD_eq_getElem?_getD, List.getElem?_eq_getElem hi2]
      rfl
    have hc := ho2.cellAt i (by omega)
    rw [intCells_at hx] at hc
    refine notLess9 (w2.drewN z) w1.heap.size w.heap.size n c1 i g 0 (S.getD i 0) v hi (cell_blk xo 0) (cell_blk xv 0) ?_
    rw [Nat.zero_add]
    exact hc) (fun x y hxy hy hp => by
    have h1 := of_decide_eq_true hp
    have h2 := srt_le HS.out hxy (by rw [HL.out]; exact hy)
    exact decide_eq_true (by omega))
  have HR := Lib.hid hS
  have HB := Lib.hid hBA
  have HCC : Hid ((List.range n).countP (fun i => !decide (v ≤ S.getD i 0)) = binZ zs v) := Lib.hid (by rw [← HC.out, HL.out])
  clear hS hBA xv xo ho2 ho B1 HS HC
  subst hw2
  go_wp2_with fail
  refine HR.out.mono ?_
  rintro e w3 ⟨⟨k, rfl, hk, k1, k2⟩, q, rfl⟩
  obtain rfl : k = binZ zs v := (cnt_cutB hk k1 k2).symm.trans HCC.out
  go_wp2_with fail
  go_ret
  exact ⟨rfl, below_drewN2 HB.out q⟩
end Go.Proofs.Ytgknkjiifcnkpaa
