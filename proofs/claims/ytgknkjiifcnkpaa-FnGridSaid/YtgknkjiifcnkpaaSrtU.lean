/-
  Lists without duplicates, and cuts: what the reference answers.
-/
import Derived.Test.YtgknkjiifcnkpaaSrtS
import Derived.Test.YtgknkjiifcnkpaaPk1
namespace Go.Proofs.Ytgknkjiifcnkpaa
open Go.RowKit

theorem dedK_yes {all : List Int} {k : Nat} (h : k = 0 ∨ all.getD k 0 ≠ all.getD (k - 1) 0) : dedK all (k + 1) = dedK all k ++ [all.getD k 0] := by rw [dedK, if_pos h]
theorem dedK_no {all : List Int} {k : Nat} (h : ¬ (k = 0 ∨ all.getD k 0 ≠ all.getD (k - 1) 0)) : dedK all (k + 1) = dedK all k := by rw [dedK, if_neg h]
/-- What is kept while numbers are gathered beside a row that is read. -/
structure DedS (w wr : World) (vo va : Value) (L A : List Int) : Prop where
  own : wr.ownsRow w.heap.size 3 1 vo L.length (intCells L)
  all : wr.ownsRow w.heap.size 3 1 va A.length (intCells A)
  sep : ∀ g, vo.ownBlock = some g → va.ownBlock ≠ some g
  bel : Below w.heap.size w wr
theorem DedS.next {w wr w' : World} {vo va : Value} {L A : List Int} (h : DedS w wr vo va L A) (hB : Below wr.heap.size wr w') : DedS w w' vo va L A :=
  ⟨owns_bl h.own hB, owns_bl h.all hB, h.sep, bt h.bel hB⟩
theorem DedS.cell {w wr : World} {vo : Value} {L A : List Int} {ga n ca j : Nat} {x : Int} (h : DedS w wr vo (.slice (some ⟨ga, 0, none⟩) n ca) L A) (he : A.length = n) (hx : A[j]? = some x) : wr.cell? ⟨ga, j, none⟩ = some (.int .i64 x) := by
  subst he
  exact (h.all.cellAt j (by have := (List.getElem?_eq_some_iff.1 hx).1; omega)).trans (intCells_at hx)
theorem DedS.app {w wr w' : World} {vo va vo' : Value} {L A : List Int} {x : Int} (h : DedS w wr vo va L A) (hg : wr.grownBy w' vo.ownBlock) (ho : w'.ownsRow w.heap.size 3 1 vo' (L.length + 1) (intCells L ++ [.int .i64 x])) (hat : vo'.ownBlock = vo.ownBlock ∨ vo'.ownBlock = some wr.heap.size) : DedS w w' vo' va (L ++ [x]) A := by
  refine ⟨?_, owns_far h.all hg h.sep, fun g hgg => ?_, h.bel.grown hg h.bel.size (fun g hg => (h.own.lt g hg).1)⟩
  · rw [List.length_append, intCells_appS]
    exact ho
  · rcases hat with e | e
    · exact h.sep g (e ▸ hgg)
    · intro ha
      have h1 := (h.all.lt g ha).2
      rw [e] at hgg
      have h2 : wr.heap.size = g := Option.some.inj hgg
      omega
set_option maxRecDepth 100000 in
set_option maxHeartbeats 4000000 in
theorem specDistinct (zs : List Int) (u : Value) (w : World) (h : IntRow w u zs) (hle : zs.length ≤ 1048576) :
    Calls Try.prog 18 #[u] w fun e w' => (∃ v, e = .returned v ∧ w'.ownsRow w.heap.size 3 1 v (distZ zs).length (intCells (distZ zs))) ∧ Below w.heap.size w w' := by
  obtain ⟨iI, gi, gz0, gz1, gz2⟩ := info_parts infoInt
  obtain ⟨a, c, rfl, hl9, _⟩ := intRow_form h
  obtain ⟨D, hdz⟩ : ∃ D, dedK (sortZ zs) (sortZ zs).length = D := ⟨_, rfl⟩
  have hDD : distZ zs = D := hdz
  rw [hDD]
  have h1 := Lib.hid (h.below (bl_al w (.cells #[] 3)))
  have hO0 := Lib.hid (show (w.alloc (.cells #[] 3)).ownsRow w.heap.size 3 1 (.slice (some ⟨w.heap.size, 0, none⟩) 0 0) 0 [] from World.ownsRow_made w #[] 0 (Nat.le_refl _) (by unfold maxLen; omega) (by simp))
  clear h hDD
  go_enter Try.func18, Try.ntmps18
  go_wp2_with fail
  refine (specSortInts zs _ _ h1.out (by omega)).mono ?_
  rintro e w1 ⟨⟨va, rfl, hoa⟩, B1⟩
  have hsl := sortZ_len zs
  generalize sortZ zs = A at hoa hsl hdz
  obtain ⟨n, hn⟩ : ∃ n : Nat, A.length = n := ⟨_, rfl⟩
  have HE := Lib.hid hn
  have hnle : n ≤ 1048576 := by omega
  obtain ⟨aa, ca, hva⟩ := owns_form hoa
  subst hva
  have HD0 : Hid (DedS w w1 (.slice (some ⟨w.heap.size, 0, none⟩) 0 0) (.slice aa A.length ca) [] A) := Lib.hid ⟨owns_bl hO0.out B1, World.ownsRow.mono hoa (bl_al w _).size, fun g hg e => by
    have h1 := (hoa.lt g e).1
    have h2 : w.heap.size = g := Option.some.inj hg
    rw [sz_alloc] at h1
    omega, bt (bl_al w _) B1⟩
  rw [hn] at HD0 hdz
  have HDZ := Lib.hid hdz
  clear hoa B1 h1 hO0 hsl hdz
  go_wp2_with fail
  go_loopg [3, 5] n (fun g_ v_ i_ wr => ∃ (j : Nat) (vo : Value), g_ = n - j ∧ i_ = .int .i64 j ∧ j ≤ n ∧ vo = v_ ∧ DedS w wr vo (.slice aa n ca) (dedK A j) A)
  case atStart => exact ⟨0, _, rfl, rfl, Nat.zero_le _, rfl, HD0.out⟩
  case round =>
    clear HD0
    obtain ⟨j, vo, rfl, rfl, hj, rfl, hD⟩ := hrel
    by_cases hlt : j < n
    · have hj1 : (j : Int) < n := by omega
      have hj0 : (0 : Int) ≤ j := by omega
      obtain ⟨ga, ca2, hv⟩ := Go.Joins.ownsRow_form hD.all (by rw [HE.out]; omega)
      injection hv with hv hv2 hv3
      subst hv
      clear hv2 hv3
      obtain ⟨x, hx⟩ : ∃ x, A[j]? = some x := ⟨_, List.getElem?_eq_getElem (by rw [HE.out]; exact hlt)⟩
      have hxd : A.getD j 0 = x := by rw [List.getD_eq_getElem?_getD, hx]; rfl
      have HX := Lib.hid hx
      have LEN := Lib.hid (Nat.le_trans (dedK_len A j) (Nat.le_trans hj hnle))
      clear hx
      by_cases hj00 : j = 0
      · subst hj00
        have hcx := hD.cell HE.out HX.out
        have HDK := Lib.hid (dedK_yes (all := A) (k := 0) (Or.inl rfl))
        rw [hxd] at HDK
        have HD := Lib.hid hD
        clear hD hxd
        go_wp2_with fail
        go_quiet (fail)
        have HDq := Lib.hid (HD.out.next (below_drewN2 (Below.refl _ _) nq))
        have hcq := HDq.out.cell HE.out HX.out
        clear HD hcx
        generalize wr.drewN nq = wq at HDq hcq ⊢
        obtain ⟨ao, co, hvo⟩ := owns_form HDq.out.own
        subst hvo
        have hll := LEN.out
        go_wp2_with (at_builtin; refine wpList_append_own_at _ rfl _ _ 24 rfl w.heap.size 3 iI (.int .i64 0) 1 8 Try.underlying24 gi gz0 gz1 gz2 rfl (by decide) _ _ _ rfl (World.ownsRow.alloc HDq.out.own (.cells #[.int .i64 x] 3)) ⟨wq.heap.size, 0, none⟩ 1 1 [.int .i64 x] rfl rfl ?a101 ?b101 ?c101 ?d101 ?e101 ?_)
        try (case a101 => exact news_blkS (alloc_blk wq _ _))
        try (case b101 => first | (intro u hu; simp at hu; subst hu; rfl) | rfl)
        case c101 => unfold maxLen; omega
        case d101 => omega
        case e101 => have := HDq.out.bel.size; (try simp); omega
        intro v5 w5 hown5 hg5 _ hat5
        have HN := Lib.hid ((HDq.out.next (bl_al wq (.cells #[.int .i64 x] 3))).app (x := x) hg5 hown5 (by rw [sz_alloc]; exact hat5))
        clear hown5 hg5 hat5
        go_wp2_with fail
        go_roundg (n - 1)
        case measure => omega
        case rel => exact ⟨1, _, rfl, rfl, by omega, rfl, by rw [HDK.out]; exact HN.out⟩
      · have hjz : ¬ (j : Int) = 0 := by omega
        obtain ⟨r, hr⟩ : ∃ r, j = r + 1 := ⟨j - 1, by omega⟩
        have hqm : IntKind.i64.wrap ((j : Int) - 1) = r := by rw [IntKind.wrap_i64]; omega
        have hr0 : (0 : Int) ≤ r := by omega
        have hrj : (r : Int) < n := by omega
        have hrn : r < n := by omega
        have hjm1 : j - 1 = r := by omega
        have HR := Lib.hid hr
        clear hr
        obtain ⟨y, hy⟩ : ∃ y, A[r]? = some y := ⟨_, List.getElem?_eq_getElem (by rw [HE.out]; exact hrn)⟩
        have hyd : A.getD (j - 1) 0 = y := by rw [hjm1, List.getD_eq_getElem?_getD, hy]; rfl
        have hcx := hD.cell HE.out HX.out
        have hcy := hD.cell HE.out hy
        have HD := Lib.hid hD
        clear hD hy hjm1
        by_cases hxy : x = y
        · have HDK := Lib.hid (dedK_no (all := A) (k := j) (by rw [hxd, hyd]; exact fun h => h.elim hj00 (fun h => h hxy)))
          subst hxy
          clear hxd hyd
          go_wp2_with fail
          go_quiet (fail)
          go_wp2_with fail
          go_roundg (n - (j + 1))
          case measure => omega
          case rel => exact ⟨j + 1, vo, rfl, by go_num, by omega, rfl, by rw [HDK.out]; exact HD.out.next (below_drewN2 (Below.refl _ _) _)⟩
        · have HDK := Lib.hid (dedK_yes (all := A) (k := j) (by rw [hxd, hyd]; exact Or.inr hxy))
          have hxb : (x != y) = true := bne_iff_ne.2 hxy
          rw [hxd] at HDK
          clear hxd hyd
          go_wp2_with fail
          go_quiet (fail)
          have HDq := Lib.hid (HD.out.next (below_drewN2 (Below.refl _ _) nq))
          have hcq := HDq.out.cell HE.out HX.out
          clear HD hcx hcy
          generalize wr.drewN nq = wq at HDq hcq ⊢
          obtain ⟨ao, co, hvo⟩ := owns_form HDq.out.own
          subst hvo
          have hll := LEN.out
          go_wp2_with (at_builtin; refine wpList_append_own_at _ rfl _ _ 24 rfl w.heap.size 3 iI (.int .i64 0) 1 8 Try.underlying24 gi gz0 gz1 gz2 rfl (by decide) _ _ _ rfl (World.ownsRow.alloc HDq.out.own (.cells #[.int .i64 x] 3)) ⟨wq.heap.size, 0, none⟩ 1 1 [.int .i64 x] rfl rfl ?a102 ?b102 ?c102 ?d102 ?e102 ?_)
          try (case a102 => exact news_blkS (alloc_blk wq _ _))
          try (case b102 => first | (intro u hu; simp at hu; subst hu; rfl) | rfl)
          case c102 => unfold maxLen; omega
          case d102 => omega
          case e102 => have := HDq.out.bel.size; (try simp); omega
          intro v5 w5 hown5 hg5 _ hat5
          have HN := Lib.hid ((HDq.out.next (bl_al wq (.cells #[.int .i64 x] 3))).app (x := x) hg5 hown5 (by rw [sz_alloc]; exact hat5))
          clear hown5 hg5 hat5
          go_wp2_with fail
          go_roundg (n - (j + 1))
          case measure => omega
          case rel => exact ⟨j + 1, _, rfl, by go_num, by omega, rfl, by rw [HDK.out]; exact HN.out⟩
    · have hj1 : ¬ (j : Int) < n := by omega
      have hjn : j = n := by omega
      rw [hjn, HDZ.out] at hD
      obtain ⟨ao, co, hvo⟩ := owns_form hD.own
      have hO := hD.own
      have hB := hD.bel
      subst hvo
      clear hD
      go_wp2_with fail
      go_ret
      exact ⟨⟨_, rfl, hO⟩, hB⟩
theorem all_upto {p : Nat → Bool} {k : Nat} (h : (List.range k).all p = true) (hk : p k = true) : (List.range (k + 1)).all p = true := by
  rw [List.range_succ, List.all_append, h]
  simpa using hk
theorem not_all {p : Nat → Bool} {k n : Nat} (hk : k < n) (h : p k = false) : (List.range n).all p = false := by
  rw [List.all_eq_false]
  exact ⟨k, List.mem_range.2 hk, by rw [h]; decide⟩
theorem ret_boolC {a b : Bool} (h : a = b) : Ending.returned (.bool a) = .returned (.bool b) := by rw [h]
set_option maxRecDepth 100000 in
set_option maxHeartbeats 4000000 in
theorem specCutsOk (zs : List Int) (u : Value) (w : World) (h : IntRow w u zs) (_hle : zs.length ≤ 1048576) :
    Calls Try.prog 65 #[u] w fun e w' => e = .returned (.bool (cutsB zs)) ∧ Below w.heap.size w w' := by
  obtain ⟨a, c, rfl, hl9, hcell⟩ := intRow_form h
  obtain ⟨n, hn⟩ : ∃ n : Nat, zs.length = n := ⟨_, rfl⟩
  have HE := Lib.hid hn
  have HC := Lib.hid hcell
  obtain ⟨q, hq⟩ : ∃ q, cutsB zs = q := ⟨_, rfl⟩
  have hqq := hq
  rw [cutsB, hn] at hqq
  have HQ := Lib.hid hqq
  rw [hn] at hl9 ⊢
  rw [hq]
  clear h hcell hn hq hqq
  go_enter Try.func65, Try.ntmps65
  go_wp2_with fail
  go_loopg [3] n (fun g_ i_ wr => ∃ j : Nat, g_ = n - j ∧ i_ = .int .i64 j ∧ j ≤ n ∧ (List.range j).all (okCuts zs) = true ∧ Below w.heap.size w wr)
  case atStart => exact ⟨0, rfl, rfl, Nat.zero_le _, rfl, Below.refl _ _⟩
  case round =>
    obtain ⟨j, rfl, rfl, hj, hall, hB⟩ := hrel
    have HA := Lib.hid hall
    clear hall
    by_cases hlt : j < n
    · have hj1 : (j : Int) < n := by omega
      have hj0 : (0 : Int) ≤ j := by omega
      obtain ⟨x, hx⟩ : ∃ x, zs[j]? = some x := ⟨_, List.getElem?_eq_getElem (by rw [HE.out]; exact hlt)⟩
      obtain ⟨b, off, rfl, hcz⟩ := HC.out j x hx
      have hcx := (hB.cell (p := ⟨b, off + j, none⟩) (World.block_lt_of_cell? w _ hcz)).trans hcz
      have hxd : zs.getD j 0 = x := by rw [List.getD_eq_getElem?_getD, hx]; rfl
      obtain ⟨r, hr⟩ : ∃ r, valB x = r := ⟨_, rfl⟩
      have KV : ∀ z, Hid (Calls Try.prog 62 #[.int .i64 x] (wr.drewN z) fun e w' => e = .returned (.bool r) ∧ ∃ k, w' = (wr.drewN z).drewN k) := fun z => Lib.hid ((specVal9 x _ r hr).mono fun e w' h => ⟨h.1, 0, h.2 ▸ rfl⟩)
      clear hx hcz
      cases r with
      | false =>
        have HOK : Hid (okCuts zs j = false) := Lib.hid (by rw [okCuts, hxd, hr]; rfl)
        clear hr hxd
        go_wp2_with fail
        go_quiet ((go_at_call 62; exact Calls.quiet_of (KV _).out))
        go_wp2_with fail
        go_ret
        exact ⟨ret_boolC (by rw [← HQ.out, not_all hlt HOK.out]; rfl), below_drewN2 hB _⟩
      | true =>
        by_cases hj00 : j = 0
        · subst hj00
          rw [Nat.add_zero] at hcx
          have HOK : Hid (okCuts zs 0 = true) := Lib.hid (by rw [okCuts, hxd, hr]; rfl)
          clear hr hxd
          go_wp2_with fail
          go_quiet ((go_at_call 62; exact Calls.quiet_of (KV _).out))
          go_wp2_with fail
          go_roundg (n - 1)
          case measure => omega
          case rel => exact ⟨1, rfl, rfl, by omega, all_upto HA.out HOK.out, below_drewN2 hB _⟩
        · have hjz : ¬ (j : Int) = 0 := by omega
          have hjp : (0 : Int) < j := by omega
          have hjn : 0 < j := by omega
          obtain ⟨p, hp⟩ : ∃ p, j = p + 1 := ⟨j - 1, by omega⟩
          have hqm : IntKind.i64.wrap ((j : Int) - 1) = p := by rw [IntKind.wrap_i64]; omega
          have hp0 : (0 : Int) ≤ p := by omega
          have hpj : (p : Int) < n := by omega
          have hpn : p < n := by omega
          have hjm1 : j - 1 = p := by omega
          have HR := Lib.hid hp
          clear hp
          obtain ⟨y, hy⟩ : ∃ y, zs[p]? = some y := ⟨_, List.getElem?_eq_getElem (by rw [HE.out]; exact hpn)⟩
          obtain ⟨b2, off2, hb2, hcz2⟩ := HC.out p y hy
          injection hb2 with hb2
          injection hb2 with hb2 ho2
          subst hb2
          subst ho2
          have hcy := (hB.cell (p := ⟨b, off + p, none⟩) (World.block_lt_of_cell? w _ hcz2)).trans hcz2
          have hyd : zs.getD (j - 1) 0 = y := by rw [hjm1, List.getD_eq_getElem?_getD, hy]; rfl
          clear hy hcz2 hjm1
          by_cases hxy : y < x
          · have HOK : Hid (okCuts zs j = true) := Lib.hid (by rw [okCuts, hxd, hyd, hr]; simp [hxy])
            have hge : ¬ x ≤ y := by omega
            clear hr hxd hyd
            go_wp2_with fail
            go_quiet ((go_at_call 62; exact Calls.quiet_of (KV _).out))
            go_wp2_with fail
            go_roundg (n - (j + 1))
            case measure => omega
            case rel => exact ⟨j + 1, rfl, by go_num, by omega, all_upto HA.out HOK.out, below_drewN2 hB _⟩
          · have HOK : Hid (okCuts zs j = false) := Lib.hid (by rw [okCuts, hxd, hyd, hr]; simp [hxy, hj00])
            have hge : x ≤ y := by omega
            clear hr hxd hyd
            go_wp2_with fail
            go_quiet ((go_at_call 62; exact Calls.quiet_of (KV _).out))
            go_wp2_with fail
            go_ret
            exact ⟨ret_boolC (by rw [← HQ.out, not_all hlt HOK.out]; rfl), below_drewN2 hB _⟩
    · have hj1 : ¬ (j : Int) < n := by omega
      have hjn : j = n := by omega
      rw [hjn] at HA
      have hqe : decide ((n : Int) ≤ 7) = q := by
        rw [← HQ.out, HA.out, Bool.true_and]
        exact decide_eq_decide.2 (by omega)
      have HQE := Lib.hid hqe
      clear hqe
      go_wp2_with fail
      go_ret
      exact ⟨ret_boolC HQE.out, hB⟩
end Go.Proofs.Ytgknkjiifcnkpaa
