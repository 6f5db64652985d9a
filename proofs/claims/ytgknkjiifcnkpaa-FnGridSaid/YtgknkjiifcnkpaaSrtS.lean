/-
  Sorted lists and cuts: what the reference answers.
-/
import Derived.Test.YtgknkjiifcnkpaaPk5
import Derived.Test.YtgknkjiifcnkpaaRowII
import Derived.Test.YtgknkjiifcnkpaaTabS
import Derived.Deep.LoopGhost
import Derived.Deep.DeepCutAuto
import Derived.Deep.RegionHeld3
import Derived.Maps.AppendAt
namespace Go.Proofs.Ytgknkjiifcnkpaa
open Go.RowKit

/-- An append at a step of a region that draws its order, whatever is appended. -/
theorem step_append_u {P : Program} {w : World} {ops : Array Oper} {o : Oper} {a : Act} {K : Act → World → Prop} {Q : Exit → Act → World → Prop} {E : Prop} (hgd : o.guard = none) (s x : Operand) (t : TypeId)
    (ho : o.op = .call { callee := .builtin .append, args := #[s, x], argTypes := #[t, t] })
    (base : Nat) (e : TypeId) (i : TypeInfo) (z : Value) (size bytes : Nat) (ht : P.underlying t = some (.slice e)) (hi : P.info? e = some i) (hz : i.zero = some z)
    (hsize : i.size = size) (hby : i.bytes = bytes) (hzs : z.cells.size = size) (hsz : 0 < size)
    (v : Value) (n : Nat) (xs : List Value) (hs : a.eval s = v) (hown : w.ownsRow base e size v n xs)
    (ad : Addr) (m c : Nat) (news : List Value) (hx : a.eval x = .slice (some ad) m c) (hl : news.length = m * size) (hnews : ∀ j u, news[j]? = some u → w.cell? (ad.add j) = some u) (h1 : ∀ u ∈ news, u.oneCell' = true)
    (h63 : n + m ≤ maxLen) (hbytes : (n + m) * bytes ≤ 140737488355328) (hbase : base ≤ w.heap.size)
    (h : ∀ v' w', w'.ownsRow base e size v' (n + m) (xs ++ news) → w.grownBy w' v.ownBlock → K (a.put o.dst v') w') :
    if Region.wanted o (yielded ops a.tmps) = true then Oper.wp P o a w K Q else E := by
  have hw : Region.wanted o (yielded ops a.tmps) = true := by simp [Region.wanted, hgd]
  rw [if_pos hw]
  obtain ⟨v', w', hr, h2, h3, _⟩ := run_append_own (P := P) w base t o.type e i z size bytes ht hi hz hsize hby hzs hsz v n xs hown ad m c news hl hnews h1 h63 hbytes hbase
  unfold Oper.wp execOp
  simp only [ho, resolve, invoke, builtin, Sem.run_bind, Sem.run_pure, Result.andThen_ok, List.map_toArray, List.map_cons, List.map_nil, hs, hx, hr]
  exact h v' w' h2 h3
theorem addr_addS (b i j : Nat) : ((⟨b, i, none⟩ : Addr).add j) = ⟨b, i + j, none⟩ := by unfold Addr.add; split <;> simp_all
/-- A part of a row, as what is appended. -/
theorem part_news {w : World} {base g n c i k : Nat} {T : TypeId} {xs : List Value} (h : w.ownsRow base T 1 (.slice (some ⟨g, 0, none⟩) n c) n xs) : ∀ (j : Nat) u, ((xs.drop i).take k)[j]? = some u → w.cell? ((⟨g, i, none⟩ : Addr).add j) = some u := by
  intro j u hu
  rw [List.getElem?_take] at hu
  split at hu
  · rw [List.getElem?_drop] at hu
    have hl := h.1
    have hj := (List.getElem?_eq_some_iff.1 hu).1
    rw [addr_addS]
    exact (h.cellAt (i + j) (by omega)).trans hu
  · cases hu
theorem intCells_oneS (L : List Int) : ∀ u ∈ intCells L, u.oneCell' = true := by
  intro u hu
  unfold intCells at hu
  obtain ⟨x, _, rfl⟩ := List.mem_map.1 hu
  rfl
theorem intCells_takeS (L : List Int) (k : Nat) : intCells (L.take k) = (intCells L).take k := by unfold intCells; rw [List.map_take]
theorem intCells_dropS (L : List Int) (k : Nat) : intCells (L.drop k) = (intCells L).drop k := by unfold intCells; rw [List.map_drop]
theorem intCells_appS (L M : List Int) : intCells (L ++ M) = intCells L ++ intCells M := by unfold intCells; rw [List.map_append]
theorem news_blkS {w : World} {b : Nat} {T : TypeId} {x : Value} (h : w.heap[b]? = some (.cells #[x] T (0, 0))) : ∀ (j : Nat) u, [x][j]? = some u → w.cell? ((⟨b, 0, none⟩ : Addr).add j) = some u := by
  intro j u hu
  rw [addr_addS]
  have k := cell_blk h j
  rw [Nat.zero_add, k]
  simpa using hu
theorem own_capS {w : World} {base g n c : Nat} {T : TypeId} {xs : List Value} (h : w.ownsRow base T 1 (.slice (some ⟨g, 0, none⟩) n c) n xs) : n ≤ c := by
  rcases h.2 with ⟨h, _⟩ | ⟨g1, c1, cur, h, _, _, h4, _⟩
  · cases h
  · injection h with _ _ h3
    omega
set_option maxRecDepth 100000 in
set_option maxHeartbeats 4000000 in
theorem specSortInts (zs : List Int) (u : Value) (w : World) (h : IntRow w u zs) (hle : zs.length ≤ 4194304) :
    Calls Try.prog 50 #[u] w fun e w' => (∃ v, e = .returned v ∧ w'.ownsRow w.heap.size 3 1 v (sortZ zs).length (intCells (sortZ zs))) ∧ Below w.heap.size w w' := by
  obtain ⟨iI, gi, gz0, gz1, gz2⟩ := info_parts infoInt
  obtain ⟨a, c, rfl, hl9, hcell⟩ := intRow_form h
  obtain ⟨n, hn⟩ : ∃ n : Nat, zs.length = n := ⟨_, rfl⟩
  have HE := Lib.hid hn
  have HC := Lib.hid hcell
  rw [hn] at hle hl9 ⊢
  clear h hcell hn
  have hO0 : (w.alloc (.cells #[] 3)).ownsRow w.heap.size 3 1 (.slice (some ⟨w.heap.size, 0, none⟩) 0 0) 0 (intCells (sortZ (zs.take 0))) := World.ownsRow_made w #[] 0 (Nat.le_refl _) (by unfold maxLen; omega) (by simp)
  go_enter Try.func50, Try.ntmps50
  go_wp2_with fail
  go_loopg [3, 4] n (fun g_ vo i_ wr => ∃ (j gv cv : Nat), g_ = n - j ∧ i_ = .int .i64 j ∧ j ≤ n ∧ vo = (.slice (some ⟨gv, 0, none⟩) j cv) ∧ wr.ownsRow w.heap.size 3 1 (.slice (some ⟨gv, 0, none⟩) j cv) j (intCells (sortZ (zs.take j))) ∧ Below w.heap.size w wr)
  case atStart => exact ⟨0, w.heap.size, 0, rfl, rfl, Nat.zero_le _, rfl, hO0, bl_al _ _⟩
  case round =>
    clear hO0
    obtain ⟨j, gv, cv, rfl, rfl, hj, rfl, hown, hB⟩ := hrel
    by_cases hlt : j < n
    · have hj1 : (j : Int) < n := by omega
      have hj0 : (0 : Int) ≤ j := by omega
      obtain ⟨z, hz⟩ : ∃ z, zs[j]? = some z := ⟨_, List.getElem?_eq_getElem (by rw [HE.out]; exact hlt)⟩
      obtain ⟨b, off, rfl, hcz⟩ := HC.out j z hz
      have hST := sortZ_take (zs := zs) (k := j) (by rw [HE.out]; exact hlt)
      rw [show zs.getD j 0 = z by rw [List.getD_eq_getElem?_getD, hz]; rfl] at hST
      have hSl : (sortZ (zs.take j)).length = j := by rw [sortZ_len, List.length_take, HE.out]; omega
      generalize sortZ (zs.take j) = S at hown hST hSl
      have HST := Lib.hid hST
      have HSL := Lib.hid hSl
      have HOW := Lib.hid hown
      have HB := Lib.hid hB
      have HCZ := Lib.hid ((hB.cell (p := ⟨b, off + j, none⟩) (World.block_lt_of_cell? w _ hcz)).trans hcz)
      have hcv := own_capS hown
      clear hz hcz hST hSl hown hB
      obtain ⟨wo, hwo⟩ : ∃ x, x = wr := ⟨_, rfl⟩
      subst hwo
      go_wp2_with fail
      go_loopg [5] j (fun g_ k_ wi => ∃ q : Nat, q = g_ ∧ k_ = .int .i64 q ∧ q ≤ j ∧ posK S z S.length = posK S z q ∧ Below wo.heap.size wo wi)
      case atStart => exact ⟨j, rfl, rfl, Nat.le_refl _, by rw [HSL.out], Below.refl _ _⟩
      case round =>
        obtain ⟨q0, rfl, rfl, hqj, hpk, hBi⟩ := hrel
        have HPK := Lib.hid hpk
        have hcz2 := (hBi.cell (p := ⟨b, off + j, none⟩) (World.block_lt_of_cell? wo _ HCZ.out)).trans HCZ.out
        have HOI := Lib.hid (owns_bl HOW.out hBi)
        clear hpk
        by_cases hqz : q0 = 0
        · have hq1 : ¬ (0 : Int) < q0 := by omega
          have hpz : posK S z S.length = q0 := by rw [HPK.out, hqz]; rfl
          have hqn : ¬ 0 < q0 := by omega
          clear hqz
          go_wp2_with fail
          go_quiet (fail)
          generalize q0 = q at hpz hqj ⊢
          have hBq : Below wo.heap.size wo (wr.drewN nq) := below_drewN2 hBi nq
          generalize wr.drewN nq = wq at hBq ⊢
          have HOQ := Lib.hid (owns_bl HOW.out hBq)
          have HCQ := Lib.hid ((hBq.cell (p := ⟨b, off + j, none⟩) (World.block_lt_of_cell? wo _ HCZ.out)).trans HCZ.out)
          have HBQ := Lib.hid (bt HB.out hBq)
          have hq9 : (0 : Int) ≤ q := by omega
          have hqc : q ≤ cv := by omega
          have hqci : (q : Int) ≤ cv := by omega
          have hqji : (q : Int) ≤ j := by omega
          have hcji : (j : Int) ≤ cv := by omega
          have hj9 : (0 : Int) ≤ j := by omega
          have HPZ := Lib.hid hpz
          clear hpz hBi hcz2 HOI hBq
          have hS0 : (fun w' => w'.cell? ⟨b, off + j, none⟩ = some (.int .i64 z)) wq.drew := HCQ.out
          go_upto_region 8 with fail
          go_cut [6] (fun v6 wx => ∃ g6 c6 : Nat, v6 = .slice (some ⟨g6, 0, none⟩) (q + 1) c6 ∧ wx.ownsRow wq.heap.size 3 1 (.slice (some ⟨g6, 0, none⟩) (q + 1) c6) (q + 1) (intCells (S.take q ++ [z])) ∧ Below wq.heap.size wq wx)
          case first =>
            refine wp_region_noPanic ?_
            refine wp_region_held_drew (S := (fun w' => w'.cell? ⟨b, off + j, none⟩ = some (.int .i64 z))) (by kernel_rfl) hS0 (fun hHeld => ?_)
            clear hS0
            refine wpAnyH_take (i := 1) (oi := ?o1) (v := ?v1) ?hi1 ?hs1 ?hf1 ?hr1 ?hQ1 ?hy1 ?hS1 ?rest1
            case hi1 => rfl
            case hs1 => kernel_rfl
            case hf1 => kernel_rfl
            case hr1 => kernel_rfl
            case hQ1 => exact fun _ _ _ h => h
            case hS1 => assumption
            case hy1 =>
              refine Or.inl ⟨by kernel_rfl, ?_⟩
              intro w' hSw
              (try dsimp only at hSw)
              go_simp
              (try rfl)
            (try simp only [List.getElem_toArray, List.getElem_cons_succ, List.getElem_cons_zero, Act.put, List.setIfInBounds_toArray, List.set_cons_zero, List.set_cons_succ])
            refine wpAnyH_take (i := 2) (oi := ?o2) (v := ?v2) ?hi2 ?hs2 ?hf2 ?hr2 ?hQ2 ?hy2 ?hS2 ?rest2
            case hi2 => rfl
            case hs2 => kernel_rfl
            case hf2 => kernel_rfl
            case hr2 => kernel_rfl
            case hQ2 => exact fun _ _ _ h => h
            case hS2 => assumption
            case hy2 =>
              refine Or.inl ⟨by kernel_rfl, ?_⟩
              intro w' hSw
              (try dsimp only at hSw)
              go_simp
              (try rfl)
            (try simp only [List.getElem_toArray, List.getElem_cons_succ, List.getElem_cons_zero, Act.put, List.setIfInBounds_toArray, List.set_cons_zero, List.set_cons_succ])
            refine wpAnyH_take (i := 3) (oi := ?o3) (v := ?v3) ?hi3 ?hs3 ?hf3 ?hr3 ?hQ3 ?hy3 ?hS3 ?rest3
            case hi3 => rfl
            case hs3 => kernel_rfl
            case hf3 => kernel_rfl
            case hr3 => kernel_rfl
            case hQ3 => exact fun _ _ _ h => h
            case hS3 => assumption
            case hy3 =>
              refine Or.inl ⟨by kernel_rfl, ?_⟩
              intro w' hSw
              (try dsimp only at hSw)
              go_simp
              (try rfl)
            (try simp only [List.getElem_toArray, List.getElem_cons_succ, List.getElem_cons_zero, Act.put, List.setIfInBounds_toArray, List.set_cons_zero, List.set_cons_succ])
            refine wpAnyH_take (i := 5) (oi := ?o4) (v := ?v4) ?hi4 ?hs4 ?hf4 ?hr4 ?hQ4 ?hy4 ?hS4 ?rest4
            case hi4 => rfl
            case hs4 => kernel_rfl
            case hf4 => kernel_rfl
            case hr4 => kernel_rfl
            case hQ4 => exact fun _ _ _ h => h
            case hS4 => assumption
            case hy4 =>
              refine Or.inl ⟨by kernel_rfl, ?_⟩
              intro w' hSw
              (try dsimp only at hSw)
              go_simp
              (try rfl)
            (try simp only [List.getElem_toArray, List.getElem_cons_succ, List.getElem_cons_zero, Act.put, List.setIfInBounds_toArray, List.set_cons_zero, List.set_cons_succ])
            refine wpAnyH_take (i := 6) (oi := ?o5) (v := ?v5) ?hi5 ?hs5 ?hf5 ?hr5 ?hQ5 ?hy5 ?hS5 ?rest5
            case hi5 => rfl
            case hs5 => kernel_rfl
            case hf5 => kernel_rfl
            case hr5 => kernel_rfl
            case hQ5 => exact fun _ _ _ h => h
            case hS5 => assumption
            case hy5 =>
              refine Or.inl ⟨by kernel_rfl, ?_⟩
              intro w' hSw
              (try dsimp only at hSw)
              go_simp
              (try rfl)
            (try simp only [List.getElem_toArray, List.getElem_cons_succ, List.getElem_cons_zero, Act.put, List.setIfInBounds_toArray, List.set_cons_zero, List.set_cons_succ])
            refine wpAnyH_take (i := 7) (oi := ?o6) (v := ?v6) ?hi6 ?hs6 ?hf6 ?hr6 ?hQ6 ?hy6 ?hS6 ?rest6
            case hi6 => rfl
            case hs6 => kernel_rfl
            case hf6 => kernel_rfl
            case hr6 => kernel_rfl
            case hQ6 => exact fun _ _ _ h => h
            case hS6 => assumption
            case hy6 =>
              refine Or.inl ⟨by kernel_rfl, ?_⟩
              intro w' hSw
              (try dsimp only at hSw)
              go_simp
              (try rfl)
            (try simp only [List.getElem_toArray, List.getElem_cons_succ, List.getElem_cons_zero, Act.put, List.setIfInBounds_toArray, List.set_cons_zero, List.set_cons_succ])
            refine wpAnyH_take (i := 8) (oi := ?o7) (v := ?v7) ?hi7 ?hs7 ?hf7 ?hr7 ?hQ7 ?hy7 ?hS7 ?rest7
            case hi7 => rfl
            case hs7 => kernel_rfl
            case hf7 => kernel_rfl
            case hr7 => kernel_rfl
            case hQ7 => exact fun _ _ _ h => h
            case hS7 => assumption
            case hy7 =>
              refine Or.inl ⟨by kernel_rfl, ?_⟩
              intro w' hSw
              (try dsimp only at hSw)
              go_simp
              (try rfl)
            (try simp only [List.getElem_toArray, List.getElem_cons_succ, List.getElem_cons_zero, Act.put, List.setIfInBounds_toArray, List.set_cons_zero, List.set_cons_succ])
            refine wpAnyH_ready (rs := [0, 9]) (by kernel_rfl) (by simp) ?_
            refine AllReadyH.cons rfl (fun K hK => ?_) (AllReadyH.cons rfl (fun K hK => ?_) AllReadyH.nil)
            · go_simp
              have EA : (wq.drew.alloc (.cells #[] 3)).ownsRow wq.heap.size 3 1 (.slice (some ⟨wq.heap.size, 0, none⟩) 0 0) 0 [] := World.ownsRow_made wq.drew #[] 0 (Nat.le_refl _) (by unfold maxLen; omega) (by simp)
              have BA : Below wq.heap.size wq (wq.drew.alloc (.cells #[] 3)) := ((Below.refl _ _).drew).alloc (Nat.le_refl _) _
              refine hK.out _ _ ?_ (fun hHeld => ?_)
              · exact ((BA).cell (p := ⟨b, off + j, none⟩) (World.block_lt_of_cell? wq _ HCQ.out)).trans HCQ.out
              clear hK K
              (try simp only [List.getElem_toArray, List.getElem_cons_succ, List.getElem_cons_zero, Act.put, List.setIfInBounds_toArray, List.set_cons_zero, List.set_cons_succ])
              refine wpAnyH_ready (rs := [4, 9]) (by kernel_rfl) (by simp) ?_
              refine AllReadyH.cons rfl (fun K hK => ?_) (AllReadyH.cons rfl (fun K hK => ?_) AllReadyH.nil)
              · have hn1 : ∀ (i : Nat) u, (intCells (S.take q))[i]? = some u → (wq.drew.alloc (.cells #[] 3)).cell? ((⟨gv, 0, none⟩ : Addr).add i) = some u := by
                  have h := part_news (i := 0) (k := q) (owns_bl HOQ.out (BA))
                  rw [List.drop_zero, ← intCells_takeS] at h
                  exact h
                refine step_append_u rfl (.tmp 32) (.tmp 35) 24 rfl wq.heap.size 3 iI (.int .i64 0) 1 8 Try.underlying24 gi gz0 gz1 gz2 rfl (by decide) (.slice (some ⟨wq.heap.size, 0, none⟩) 0 0) 0 [] (by simp [Act.eval]) (EA) ⟨gv, 0, none⟩ q cv (intCells (S.take q)) (by simp [Act.eval]) (by rw [intCells_len, List.length_take, HSL.out]; omega) hn1 (intCells_oneS _) (by unfold maxLen; omega) (by omega) (BA).size ?_
                intro v4 w4 hown4 hg4
                have hB4 : Below wq.heap.size wq w4 := (BA).grown hg4 (BA).size (fun g hg => ((EA).lt g hg).1)
                rw [Nat.zero_add, List.nil_append] at hown4
                obtain ⟨a4, c4, rfl⟩ := owns_form hown4
                refine hK.out _ _ ?_ (fun hHeld => ?_)
                · exact ((hB4).cell (p := ⟨b, off + j, none⟩) (World.block_lt_of_cell? wq _ HCQ.out)).trans HCQ.out
                clear hK K
                (try simp only [List.getElem_toArray, List.getElem_cons_succ, List.getElem_cons_zero, Act.put, List.setIfInBounds_toArray, List.set_cons_zero, List.set_cons_succ])
                refine wpAnyH_ready (rs := [9]) (by kernel_rfl) (by simp) ?_
                refine AllReadyH.cons rfl (fun K hK => ?_) AllReadyH.nil
                go_simp
                have hb9 := alloc_blk w4 #[.int .i64 z] 3
                have BB : Below wq.heap.size wq (w4.alloc (.cells #[.int .i64 z] 3)) := hB4.alloc hB4.size _
                have OB := hown4.alloc (.cells #[.int .i64 z] 3)
                refine hK.out _ _ ?_ (fun hHeld => ?_)
                · exact ((BB).cell (p := ⟨b, off + j, none⟩) (World.block_lt_of_cell? wq _ HCQ.out)).trans HCQ.out
                clear hK K
                (try simp only [List.getElem_toArray, List.getElem_cons_succ, List.getElem_cons_zero, Act.put, List.setIfInBounds_toArray, List.set_cons_zero, List.set_cons_succ])
                refine wpAnyH_ready (rs := [10]) (by kernel_rfl) (by simp) ?_
                refine AllReadyH.cons rfl (fun K hK => ?_) AllReadyH.nil
                refine step_append_u rfl (.tmp 36) (.tmp 41) 24 rfl wq.heap.size 3 iI (.int .i64 0) 1 8 Try.underlying24 gi gz0 gz1 gz2 rfl (by decide) (.slice a4 q c4) q (intCells (S.take q)) (by simp [Act.eval]) (OB) ⟨w4.heap.size, 0, none⟩ 1 1 [.int .i64 z] (by simp [Act.eval]) rfl (news_blkS hb9) (by intro y hy; simp at hy; subst hy; rfl) (by unfold maxLen; omega) (by omega) (BB).size ?_
                intro v5 w5 hown5 hg5
                have hB5 : Below wq.heap.size wq w5 := (BB).grown hg5 (BB).size (fun g hg => ((OB).lt g hg).1)
                obtain ⟨g5, c5, rfl⟩ := Go.Joins.ownsRow_form hown5 (by omega)
                refine hK.out _ _ ?_ (fun hHeld => ?_)
                · exact ((hB5).cell (p := ⟨b, off + j, none⟩) (World.block_lt_of_cell? wq _ HCQ.out)).trans HCQ.out
                clear hK K
                (try simp only [List.getElem_toArray, List.getElem_cons_succ, List.getElem_cons_zero, Act.put, List.setIfInBounds_toArray, List.set_cons_zero, List.set_cons_succ])
                refine wpAnyH_ready (rs := [11]) (by kernel_rfl) (by simp) ?_
                refine AllReadyH.cons rfl (fun K hK => ?_) AllReadyH.nil
                go_simp
                refine hK.out _ _ ?_ (fun hHeld => ?_)
                · exact hHeld
                clear hK K
                (try simp only [List.getElem_toArray, List.getElem_cons_succ, List.getElem_cons_zero, Act.put, List.setIfInBounds_toArray, List.set_cons_zero, List.set_cons_succ])
                refine wpAnyH_done (by kernel_rfl) ?_ _
                refine NoPanic.normal ?_
                go_wp2_with fail
                go_meet
                case rel => exact ⟨g5, c5, rfl, by rw [intCells_appS]; exact hown5, hB5⟩
              · go_simp
                have BB : Below wq.heap.size wq ((wq.drew.alloc (.cells #[] 3)).alloc (.cells #[.int .i64 z] 3)) := BA.alloc BA.size _
                have EB := EA.alloc (.cells #[.int .i64 z] 3)
                have hb9 : ((wq.drew.alloc (.cells #[] 3)).alloc (.cells #[.int .i64 z] 3)).heap[wq.heap.size + 1]? = some (.cells #[.int .i64 z] 3 (0, 0)) := (by have h := alloc_blk (wq.drew.alloc (.cells #[] 3)) #[.int .i64 z] 3; simpa using h)
                refine hK.out _ _ ?_ (fun hHeld => ?_)
                · exact ((BB).cell (p := ⟨b, off + j, none⟩) (World.block_lt_of_cell? wq _ HCQ.out)).trans HCQ.out
                clear hK K
                (try simp only [List.getElem_toArray, List.getElem_cons_succ, List.getElem_cons_zero, Act.put, List.setIfInBounds_toArray, List.set_cons_zero, List.set_cons_succ])
                refine wpAnyH_ready (rs := [4]) (by kernel_rfl) (by simp) ?_
                refine AllReadyH.cons rfl (fun K hK => ?_) AllReadyH.nil
                have hn3 : ∀ (i : Nat) u, (intCells (S.take q))[i]? = some u → ((wq.drew.alloc (.cells #[] 3)).alloc (.cells #[.int .i64 z] 3)).cell? ((⟨gv, 0, none⟩ : Addr).add i) = some u := by
                  have h := part_news (i := 0) (k := q) (owns_bl HOQ.out (BB))
                  rw [List.drop_zero, ← intCells_takeS] at h
                  exact h
                refine step_append_u rfl (.tmp 32) (.tmp 35) 24 rfl wq.heap.size 3 iI (.int .i64 0) 1 8 Try.underlying24 gi gz0 gz1 gz2 rfl (by decide) (.slice (some ⟨wq.heap.size, 0, none⟩) 0 0) 0 [] (by simp [Act.eval]) (EB) ⟨gv, 0, none⟩ q cv (intCells (S.take q)) (by simp [Act.eval]) (by rw [intCells_len, List.length_take, HSL.out]; omega) hn3 (intCells_oneS _) (by unfold maxLen; omega) (by omega) (BB).size ?_
                intro v4 w4 hown4 hg4
                have hB4 : Below wq.heap.size wq w4 := (BB).grown hg4 (BB).size (fun g hg => ((EB).lt g hg).1)
                rw [Nat.zero_add, List.nil_append] at hown4
                obtain ⟨a4, c4, rfl⟩ := owns_form hown4
                refine hK.out _ _ ?_ (fun hHeld => ?_)
                · exact ((hB4).cell (p := ⟨b, off + j, none⟩) (World.block_lt_of_cell? wq _ HCQ.out)).trans HCQ.out
                clear hK K
                (try simp only [List.getElem_toArray, List.getElem_cons_succ, List.getElem_cons_zero, Act.put, List.setIfInBounds_toArray, List.set_cons_zero, List.set_cons_succ])
                have hb4 := (hg4.block _ (blk_lt hb9) (fun e => by have h9 : wq.heap.size + 1 = wq.heap.size := Option.some.inj e; omega)).trans hb9
                refine wpAnyH_ready (rs := [10]) (by kernel_rfl) (by simp) ?_
                refine AllReadyH.cons rfl (fun K hK => ?_) AllReadyH.nil
                refine step_append_u rfl (.tmp 36) (.tmp 41) 24 rfl wq.heap.size 3 iI (.int .i64 0) 1 8 Try.underlying24 gi gz0 gz1 gz2 rfl (by decide) (.slice a4 q c4) q (intCells (S.take q)) (by simp [Act.eval]) (hown4) ⟨(wq.heap.size + 1), 0, none⟩ 1 1 [.int .i64 z] (by simp [Act.eval]) rfl (news_blkS hb4) (by intro y hy; simp at hy; subst hy; rfl) (by unfold maxLen; omega) (by omega) (hB4).size ?_
                intro v5 w5 hown5 hg5
                have hB5 : Below wq.heap.size wq w5 := (hB4).grown hg5 (hB4).size (fun g hg => ((hown4).lt g hg).1)
                obtain ⟨g5, c5, rfl⟩ := Go.Joins.ownsRow_form hown5 (by omega)
                refine hK.out _ _ ?_ (fun hHeld => ?_)
                · exact ((hB5).cell (p := ⟨b, off + j, none⟩) (World.block_lt_of_cell? wq _ HCQ.out)).trans HCQ.out
                clear hK K
                (try simp only [List.getElem_toArray, List.getElem_cons_succ, List.getElem_cons_zero, Act.put, List.setIfInBounds_toArray, List.set_cons_zero, List.set_cons_succ])
                refine wpAnyH_ready (rs := [11]) (by kernel_rfl) (by simp) ?_
                refine AllReadyH.cons rfl (fun K hK => ?_) AllReadyH.nil
                go_simp
                refine hK.out _ _ ?_ (fun hHeld => ?_)
                · exact hHeld
                clear hK K
                (try simp only [List.getElem_toArray, List.getElem_cons_succ, List.getElem_cons_zero, Act.put, List.setIfInBounds_toArray, List.set_cons_zero, List.set_cons_succ])
                refine wpAnyH_done (by kernel_rfl) ?_ _
                refine NoPanic.normal ?_
                go_wp2_with fail
                go_meet
                case rel => exact ⟨g5, c5, rfl, by rw [intCells_appS]; exact hown5, hB5⟩
            · go_simp
              have BA : Below wq.heap.size wq (wq.drew.alloc (.cells #[.int .i64 z] 3)) := ((Below.refl _ _).drew).alloc (Nat.le_refl _) _
              have hb9 : (wq.drew.alloc (.cells #[.int .i64 z] 3)).heap[wq.heap.size]? = some (.cells #[.int .i64 z] 3 (0, 0)) := alloc_blk wq.drew _ _
              refine hK.out _ _ ?_ (fun hHeld => ?_)
              · exact ((BA).cell (p := ⟨b, off + j, none⟩) (World.block_lt_of_cell? wq _ HCQ.out)).trans HCQ.out
              clear hK K
              (try simp only [List.getElem_toArray, List.getElem_cons_succ, List.getElem_cons_zero, Act.put, List.setIfInBounds_toArray, List.set_cons_zero, List.set_cons_succ])
              refine wpAnyH_ready (rs := [0]) (by kernel_rfl) (by simp) ?_
              refine AllReadyH.cons rfl (fun K hK => ?_) AllReadyH.nil
              go_simp
              have EB0 := World.ownsRow_made (e := 3) (size := 1) (wq.drew.alloc (.cells #[.int .i64 z] 3)) #[] 0 (Nat.le_refl _) (by unfold maxLen; omega) (by simp)
              have EB : ((wq.drew.alloc (.cells #[.int .i64 z] 3)).alloc (.cells #[] 3)).ownsRow wq.heap.size 3 1 (.slice (some ⟨wq.heap.size + 1, 0, none⟩) 0 0) 0 [] := by
                have h := World.ownsRow.mono EB0 (Nat.le_trans (Nat.le_succ wq.heap.size) (Nat.le_of_eq (by simp)))
                simpa using h
              have BB : Below wq.heap.size wq ((wq.drew.alloc (.cells #[.int .i64 z] 3)).alloc (.cells #[] 3)) := BA.alloc BA.size _
              have hb8 := blk_al hb9 (.cells #[] 3)
              refine hK.out _ _ ?_ (fun hHeld => ?_)
              · exact ((BB).cell (p := ⟨b, off + j, none⟩) (World.block_lt_of_cell? wq _ HCQ.out)).trans HCQ.out
              clear hK K
              (try simp only [List.getElem_toArray, List.getElem_cons_succ, List.getElem_cons_zero, Act.put, List.setIfInBounds_toArray, List.set_cons_zero, List.set_cons_succ])
              refine wpAnyH_ready (rs := [4]) (by kernel_rfl) (by simp) ?_
              refine AllReadyH.cons rfl (fun K hK => ?_) AllReadyH.nil
              have hn5 : ∀ (i : Nat) u, (intCells (S.take q))[i]? = some u → ((wq.drew.alloc (.cells #[.int .i64 z] 3)).alloc (.cells #[] 3)).cell? ((⟨gv, 0, none⟩ : Addr).add i) = some u := by
                have h := part_news (i := 0) (k := q) (owns_bl HOQ.out (BB))
                rw [List.drop_zero, ← intCells_takeS] at h
                exact h
              refine step_append_u rfl (.tmp 32) (.tmp 35) 24 rfl wq.heap.size 3 iI (.int .i64 0) 1 8 Try.underlying24 gi gz0 gz1 gz2 rfl (by decide) (.slice (some ⟨(wq.heap.size + 1), 0, none⟩) 0 0) 0 [] (by simp [Act.eval]) (EB) ⟨gv, 0, none⟩ q cv (intCells (S.take q)) (by simp [Act.eval]) (by rw [intCells_len, List.length_take, HSL.out]; omega) hn5 (intCells_oneS _) (by unfold maxLen; omega) (by omega) (BB).size ?_
              intro v4 w4 hown4 hg4
              have hB4 : Below wq.heap.size wq w4 := (BB).grown hg4 (BB).size (fun g hg => ((EB).lt g hg).1)
              rw [Nat.zero_add, List.nil_append] at hown4
              obtain ⟨a4, c4, rfl⟩ := owns_form hown4
              refine hK.out _ _ ?_ (fun hHeld => ?_)
              · exact ((hB4).cell (p := ⟨b, off + j, none⟩) (World.block_lt_of_cell? wq _ HCQ.out)).trans HCQ.out
              clear hK K
              (try simp only [List.getElem_toArray, List.getElem_cons_succ, List.getElem_cons_zero, Act.put, List.setIfInBounds_toArray, List.set_cons_zero, List.set_cons_succ])
              have hb4 := (hg4.block _ (blk_lt hb8) (fun e => by have h9 : wq.heap.size = wq.heap.size + 1 := Option.some.inj e; omega)).trans hb8
              refine wpAnyH_ready (rs := [10]) (by kernel_rfl) (by simp) ?_
              refine AllReadyH.cons rfl (fun K hK => ?_) AllReadyH.nil
              refine step_append_u rfl (.tmp 36) (.tmp 41) 24 rfl wq.heap.size 3 iI (.int .i64 0) 1 8 Try.underlying24 gi gz0 gz1 gz2 rfl (by decide) (.slice a4 q c4) q (intCells (S.take q)) (by simp [Act.eval]) (hown4) ⟨wq.heap.size, 0, none⟩ 1 1 [.int .i64 z] (by simp [Act.eval]) rfl (news_blkS hb4) (by intro y hy; simp at hy; subst hy; rfl) (by unfold maxLen; omega) (by omega) (hB4).size ?_
              intro v5 w5 hown5 hg5
              have hB5 : Below wq.heap.size wq w5 := (hB4).grown hg5 (hB4).size (fun g hg => ((hown4).lt g hg).1)
              obtain ⟨g5, c5, rfl⟩ := Go.Joins.ownsRow_form hown5 (by omega)
              refine hK.out _ _ ?_ (fun hHeld => ?_)
              · exact ((hB5).cell (p := ⟨b, off + j, none⟩) (World.block_lt_of_cell? wq _ HCQ.out)).trans HCQ.out
              clear hK K
              (try simp only [List.getElem_toArray, List.getElem_cons_succ, List.getElem_cons_zero, Act.put, List.setIfInBounds_toArray, List.set_cons_zero, List.set_cons_succ])
              refine wpAnyH_ready (rs := [11]) (by kernel_rfl) (by simp) ?_
              refine AllReadyH.cons rfl (fun K hK => ?_) AllReadyH.nil
              go_simp
              refine hK.out _ _ ?_ (fun hHeld => ?_)
              · exact hHeld
              clear hK K
              (try simp only [List.getElem_toArray, List.getElem_cons_succ, List.getElem_cons_zero, Act.put, List.setIfInBounds_toArray, List.set_cons_zero, List.set_cons_succ])
              refine wpAnyH_done (by kernel_rfl) ?_ _
              refine NoPanic.normal ?_
              go_wp2_with fail
              go_meet
              case rel => exact ⟨g5, c5, rfl, by rw [intCells_appS]; exact hown5, hB5⟩
          case rest =>
            obtain ⟨g6, c6, rfl, ho6, hB6⟩ := hcut
            have hOC := owns_bl HOQ.out hB6
            have hn9 : ∀ (i : Nat) u, (intCells (S.drop q))[i]? = some u → wc.cell? ((⟨gv, q, none⟩ : Addr).add i) = some u := by
              have h := part_news (i := q) (k := j) hOC
              rw [← intCells_dropS, List.take_of_length_le (by rw [intCells_len, List.length_drop, HSL.out]; omega)] at h
              exact h
            by_cases hqe : q = cv
            · obtain rfl : j = q := by omega
              obtain rfl : j = cv := by omega
              have hd0 : S.drop j = [] := List.drop_of_length_le (by rw [HSL.out]; exact Nat.le_refl _)
              clear hn9
              go_wp2_with (at_builtin; refine wpList_append_own _ rfl _ _ 24 rfl wq.heap.size 3 iI (.int .i64 0) 1 8 Try.underlying24 gi gz0 gz1 gz2 rfl (by decide) _ _ _ rfl ho6 ⟨gv, 0, none⟩ 0 0 [] rfl ?a10 ?b10 ?c10 ?d10 ?e10 ?f10 ?_)
              try (case a10 => rfl)
              try (case b10 => simp)
              try (case c10 => simp)
              case d10 => unfold maxLen; omega
              case e10 => omega
              case f10 => exact hB6.size
              intro v9 w9 hown9 hg9 _
              have hB9 : Below wq.heap.size wq w9 := hB6.grown hg9 hB6.size (fun g hg => (ho6.lt g hg).1)
              have e9 : S.take j ++ [z] = insZ S z := by rw [insZ, HPZ.out, hd0, List.append_nil]
              have hown9 : w9.ownsRow wq.heap.size 3 1 v9 (j + 1) (intCells (sortZ (zs.take (j + 1)))) := by
                rw [HST.out, ← e9]
                simpa using hown9
              obtain ⟨g9, c9, rfl⟩ := Go.Joins.ownsRow_form hown9 (by omega)
              have HO9 := Lib.hid (World.ownsRow.mono hown9 HBQ.out.size)
              have HB9 := Lib.hid (bt HBQ.out hB9)
              clear hown9 hg9 hB9 ho6 hB6 hOC
              go_wp2_with fail
              go_roundg (n - (j + 1))
              case measure => omega
              case rel => exact ⟨j + 1, g9, c9, rfl, by go_num, by omega, rfl, HO9.out, HB9.out⟩
            · have hqe1 : ¬ (q : Int) = cv := by omega
              go_wp2_with (at_builtin; refine wpList_append_own _ rfl _ _ 24 rfl wq.heap.size 3 iI (.int .i64 0) 1 8 Try.underlying24 gi gz0 gz1 gz2 rfl (by decide) _ _ _ rfl ho6 ⟨gv, q, none⟩ (j - q) (cv - q) (intCells (S.drop q)) rfl ?a11 ?b11 ?c11 ?d11 ?e11 ?f11 ?_)
              try (case a11 => rw [intCells_len, List.length_drop, HSL.out])
              try (case b11 => exact fun i u hu => (by have h9 := hn9 i u hu; rwa [addr_addS] at h9))
              try (case c11 => exact intCells_oneS _)
              case d11 => unfold maxLen; omega
              case e11 => omega
              case f11 => exact hB6.size
              intro v9 w9 hown9 hg9 _
              have hB9 : Below wq.heap.size wq w9 := hB6.grown hg9 hB6.size (fun g hg => (ho6.lt g hg).1)
              have e9 : q + 1 + (j - q) = j + 1 := by omega
              rw [e9, ← intCells_appS, show S.take q ++ [z] ++ S.drop q = insZ S z by rw [insZ, HPZ.out], ← HST.out] at hown9
              obtain ⟨g9, c9, rfl⟩ := Go.Joins.ownsRow_form hown9 (by omega)
              have HO9 := Lib.hid (World.ownsRow.mono hown9 HBQ.out.size)
              have HB9 := Lib.hid (bt HBQ.out hB9)
              clear hown9 hg9 hB9 ho6 hB6 hOC
              go_wp2_with fail
              go_roundg (n - (j + 1))
              case measure => omega
              case rel => exact ⟨j + 1, g9, c9, rfl, by go_num, by omega, rfl, HO9.out, HB9.out⟩
        · have hq1 : (0 : Int) < q0 := by omega
          obtain ⟨r, hr⟩ : ∃ r, q0 = r + 1 := ⟨q0 - 1, by omega⟩
          have hqm : IntKind.i64.wrap ((q0 : Int) - 1) = r := by rw [IntKind.wrap_i64]; omega
          have hr0 : (0 : Int) ≤ r := by omega
          have hrj : (r : Int) < j := by omega
          have hrj1 : r < j := by omega
          have hqn2 : 0 < q0 := by omega
          have HR := Lib.hid hr
          clear hr
          obtain ⟨y, hy⟩ : ∃ y, S[r]? = some y := ⟨_, List.getElem?_eq_getElem (by rw [HSL.out]; omega)⟩
          have hcy := (HOI.out.cellAt r (by omega)).trans (intCells_at hy)
          have hyd : S.getD r 0 = y := by rw [List.getD_eq_getElem?_getD, hy]; rfl
          clear hy
          by_cases hzy : z < y
          · have HP2 : Hid (posK S z S.length = posK S z r) := Lib.hid (HPK.out.trans (by rw [HR.out]; exact posK_up (by rw [hyd]; exact hzy)))
            clear hyd
            go_wp2_with fail
            go_quiet (fail)
            go_wp2_with fail
            go_roundg r
            case measure => have := HR.out; omega
            case rel => exact ⟨r, rfl, rfl, by omega, HP2.out, below_drewN2 hBi _⟩
          · have hpz : posK S z S.length = q0 := HPK.out.trans (by rw [HR.out]; exact posK_at (by rw [hyd]; exact hzy))
            clear hyd
            go_wp2_with fail
            go_quiet (fail)
            generalize q0 = q at hpz hqj ⊢
            have hBq : Below wo.heap.size wo (wr.drewN nq) := below_drewN2 hBi nq
            generalize wr.drewN nq = wq at hBq ⊢
            have HOQ := Lib.hid (owns_bl HOW.out hBq)
            have HCQ := Lib.hid ((hBq.cell (p := ⟨b, off + j, none⟩) (World.block_lt_of_cell? wo _ HCZ.out)).trans HCZ.out)
            have HBQ := Lib.hid (bt HB.out hBq)
            have hq9 : (0 : Int) ≤ q := by omega
            have hqc : q ≤ cv := by omega
            have hqci : (q : Int) ≤ cv := by omega
            have hqji : (q : Int) ≤ j := by omega
            have hcji : (j : Int) ≤ cv := by omega
            have hj9 : (0 : Int) ≤ j := by omega
            have HPZ := Lib.hid hpz
            clear hcy hpz hBi hcz2 HOI hBq
            have hS0 : (fun w' => w'.cell? ⟨b, off + j, none⟩ = some (.int .i64 z)) wq.drew := HCQ.out
            go_upto_region 8 with fail
            go_cut [6] (fun v6 wx => ∃ g6 c6 : Nat, v6 = .slice (some ⟨g6, 0, none⟩) (q + 1) c6 ∧ wx.ownsRow wq.heap.size 3 1 (.slice (some ⟨g6, 0, none⟩) (q + 1) c6) (q + 1) (intCells (S.take q ++ [z])) ∧ Below wq.heap.size wq wx)
            case first =>
              refine wp_region_noPanic ?_
              refine wp_region_held_drew (S := (fun w' => w'.cell? ⟨b, off + j, none⟩ = some (.int .i64 z))) (by kernel_rfl) hS0 (fun hHeld => ?_)
              clear hS0
              refine wpAnyH_take (i := 1) (oi := ?o8) (v := ?v8) ?hi8 ?hs8 ?hf8 ?hr8 ?hQ8 ?hy8 ?hS8 ?rest8
              case hi8 => rfl
              case hs8 => kernel_rfl
              case hf8 => kernel_rfl
              case hr8 => kernel_rfl
              case hQ8 => exact fun _ _ _ h => h
              case hS8 => assumption
              case hy8 =>
                refine Or.inl ⟨by kernel_rfl, ?_⟩
                intro w' hSw
                (try dsimp only at hSw)
                go_simp
                (try rfl)
              (try simp only [List.getElem_toArray, List.getElem_cons_succ, List.getElem_cons_zero, Act.put, List.setIfInBounds_toArray, List.set_cons_zero, List.set_cons_succ])
              refine wpAnyH_take (i := 2) (oi := ?o9) (v := ?v9) ?hi9 ?hs9 ?hf9 ?hr9 ?hQ9 ?hy9 ?hS9 ?rest9
              case hi9 => rfl
              case hs9 => kernel_rfl
              case hf9 => kernel_rfl
              case hr9 => kernel_rfl
              case hQ9 => exact fun _ _ _ h => h
              case hS9 => assumption
              case hy9 =>
                refine Or.inl ⟨by kernel_rfl, ?_⟩
                intro w' hSw
                (try dsimp only at hSw)
                go_simp
                (try rfl)
              (try simp only [List.getElem_toArray, List.getElem_cons_succ, List.getElem_cons_zero, Act.put, List.setIfInBounds_toArray, List.set_cons_zero, List.set_cons_succ])
              refine wpAnyH_take (i := 3) (oi := ?o10) (v := ?v10) ?hi10 ?hs10 ?hf10 ?hr10 ?hQ10 ?hy10 ?hS10 ?rest10
              case hi10 => rfl
              case hs10 => kernel_rfl
              case hf10 => kernel_rfl
              case hr10 => kernel_rfl
              case hQ10 => exact fun _ _ _ h => h
              case hS10 => assumption
              case hy10 =>
                refine Or.inl ⟨by kernel_rfl, ?_⟩
                intro w' hSw
                (try dsimp only at hSw)
                go_simp
                (try rfl)
              (try simp only [List.getElem_toArray, List.getElem_cons_succ, List.getElem_cons_zero, Act.put, List.setIfInBounds_toArray, List.set_cons_zero, List.set_cons_succ])
              refine wpAnyH_take (i := 5) (oi := ?o11) (v := ?v11) ?hi11 ?hs11 ?hf11 ?hr11 ?hQ11 ?hy11 ?hS11 ?rest11
              case hi11 => rfl
              case hs11 => kernel_rfl
              case hf11 => kernel_rfl
              case hr11 => kernel_rfl
              case hQ11 => exact fun _ _ _ h => h
              case hS11 => assumption
              case hy11 =>
                refine Or.inl ⟨by kernel_rfl, ?_⟩
                intro w' hSw
                (try dsimp only at hSw)
                go_simp
                (try rfl)
              (try simp only [List.getElem_toArray, List.getElem_cons_succ, List.getElem_cons_zero, Act.put, List.setIfInBounds_toArray, List.set_cons_zero, List.set_cons_succ])
              refine wpAnyH_take (i := 6) (oi := ?o12) (v := ?v12) ?hi12 ?hs12 ?hf12 ?hr12 ?hQ12 ?hy12 ?hS12 ?rest12
              case hi12 => rfl
              case hs12 => kernel_rfl
              case hf12 => kernel_rfl
              case hr12 => kernel_rfl
              case hQ12 => exact fun _ _ _ h => h
              case hS12 => assumption
              case hy12 =>
                refine Or.inl ⟨by kernel_rfl, ?_⟩
                intro w' hSw
                (try dsimp only at hSw)
                go_simp
                (try rfl)
              (try simp only [List.getElem_toArray, List.getElem_cons_succ, List.getElem_cons_zero, Act.put, List.setIfInBounds_toArray, List.set_cons_zero, List.set_cons_succ])
              refine wpAnyH_take (i := 7) (oi := ?o13) (v := ?v13) ?hi13 ?hs13 ?hf13 ?hr13 ?hQ13 ?hy13 ?hS13 ?rest13
              case hi13 => rfl
              case hs13 => kernel_rfl
              case hf13 => kernel_rfl
              case hr13 => kernel_rfl
              case hQ13 => exact fun _ _ _ h => h
              case hS13 => assumption
              case hy13 =>
                refine Or.inl ⟨by kernel_rfl, ?_⟩
                intro w' hSw
                (try dsimp only at hSw)
                go_simp
                (try rfl)
              (try simp only [List.getElem_toArray, List.getElem_cons_succ, List.getElem_cons_zero, Act.put, List.setIfInBounds_toArray, List.set_cons_zero, List.set_cons_succ])
              refine wpAnyH_take (i := 8) (oi := ?o14) (v := ?v14) ?hi14 ?hs14 ?hf14 ?hr14 ?hQ14 ?hy14 ?hS14 ?rest14
              case hi14 => rfl
              case hs14 => kernel_rfl
              case hf14 => kernel_rfl
              case hr14 => kernel_rfl
              case hQ14 => exact fun _ _ _ h => h
              case hS14 => assumption
              case hy14 =>
                refine Or.inl ⟨by kernel_rfl, ?_⟩
                intro w' hSw
                (try dsimp only at hSw)
                go_simp
                (try rfl)
              (try simp only [List.getElem_toArray, List.getElem_cons_succ, List.getElem_cons_zero, Act.put, List.setIfInBounds_toArray, List.set_cons_zero, List.set_cons_succ])
              refine wpAnyH_ready (rs := [0, 9]) (by kernel_rfl) (by simp) ?_
              refine AllReadyH.cons rfl (fun K hK => ?_) (AllReadyH.cons rfl (fun K hK => ?_) AllReadyH.nil)
              · go_simp
                have EA : (wq.drew.alloc (.cells #[] 3)).ownsRow wq.heap.size 3 1 (.slice (some ⟨wq.heap.size, 0, none⟩) 0 0) 0 [] := World.ownsRow_made wq.drew #[] 0 (Nat.le_refl _) (by unfold maxLen; omega) (by simp)
                have BA : Below wq.heap.size wq (wq.drew.alloc (.cells #[] 3)) := ((Below.refl _ _).drew).alloc (Nat.le_refl _) _
                refine hK.out _ _ ?_ (fun hHeld => ?_)
                · exact ((BA).cell (p := ⟨b, off + j, none⟩) (World.block_lt_of_cell? wq _ HCQ.out)).trans HCQ.out
                clear hK K
                (try simp only [List.getElem_toArray, List.getElem_cons_succ, List.getElem_cons_zero, Act.put, List.setIfInBounds_toArray, List.set_cons_zero, List.set_cons_succ])
                refine wpAnyH_ready (rs := [4, 9]) (by kernel_rfl) (by simp) ?_
                refine AllReadyH.cons rfl (fun K hK => ?_) (AllReadyH.cons rfl (fun K hK => ?_) AllReadyH.nil)
                · have hn1 : ∀ (i : Nat) u, (intCells (S.take q))[i]? = some u → (wq.drew.alloc (.cells #[] 3)).cell? ((⟨gv, 0, none⟩ : Addr).add i) = some u := by
                    have h := part_news (i := 0) (k := q) (owns_bl HOQ.out (BA))
                    rw [List.drop_zero, ← intCells_takeS] at h
                    exact h
                  refine step_append_u rfl (.tmp 32) (.tmp 35) 24 rfl wq.heap.size 3 iI (.int .i64 0) 1 8 Try.underlying24 gi gz0 gz1 gz2 rfl (by decide) (.slice (some ⟨wq.heap.size, 0, none⟩) 0 0) 0 [] (by simp [Act.eval]) (EA) ⟨gv, 0, none⟩ q cv (intCells (S.take q)) (by simp [Act.eval]) (by rw [intCells_len, List.length_take, HSL.out]; omega) hn1 (intCells_oneS _) (by unfold maxLen; omega) (by omega) (BA).size ?_
                  intro v4 w4 hown4 hg4
                  have hB4 : Below wq.heap.size wq w4 := (BA).grown hg4 (BA).size (fun g hg => ((EA).lt g hg).1)
                  rw [Nat.zero_add, List.nil_append] at hown4
                  obtain ⟨a4, c4, rfl⟩ := owns_form hown4
                  refine hK.out _ _ ?_ (fun hHeld => ?_)
                  · exact ((hB4).cell (p := ⟨b, off + j, none⟩) (World.block_lt_of_cell? wq _ HCQ.out)).trans HCQ.out
                  clear hK K
                  (try simp only [List.getElem_toArray, List.getElem_cons_succ, List.getElem_cons_zero, Act.put, List.setIfInBounds_toArray, List.set_cons_zero, List.set_cons_succ])
                  refine wpAnyH_ready (rs := [9]) (by kernel_rfl) (by simp) ?_
                  refine AllReadyH.cons rfl (fun K hK => ?_) AllReadyH.nil
                  go_simp
                  have hb9 := alloc_blk w4 #[.int .i64 z] 3
                  have BB : Below wq.heap.size wq (w4.alloc (.cells #[.int .i64 z] 3)) := hB4.alloc hB4.size _
                  have OB := hown4.alloc (.cells #[.int .i64 z] 3)
                  refine hK.out _ _ ?_ (fun hHeld => ?_)
                  · exact ((BB).cell (p := ⟨b, off + j, none⟩) (World.block_lt_of_cell? wq _ HCQ.out)).trans HCQ.out
                  clear hK K
                  (try simp only [List.getElem_toArray, List.getElem_cons_succ, List.getElem_cons_zero, Act.put, List.setIfInBounds_toArray, List.set_cons_zero, List.set_cons_succ])
                  refine wpAnyH_ready (rs := [10]) (by kernel_rfl) (by simp) ?_
                  refine AllReadyH.cons rfl (fun K hK => ?_) AllReadyH.nil
                  refine step_append_u rfl (.tmp 36) (.tmp 41) 24 rfl wq.heap.size 3 iI (.int .i64 0) 1 8 Try.underlying24 gi gz0 gz1 gz2 rfl (by decide) (.slice a4 q c4) q (intCells (S.take q)) (by simp [Act.eval]) (OB) ⟨w4.heap.size, 0, none⟩ 1 1 [.int .i64 z] (by simp [Act.eval]) rfl (news_blkS hb9) (by intro y hy; simp at hy; subst hy; rfl) (by unfold maxLen; omega) (by omega) (BB).size ?_
                  intro v5 w5 hown5 hg5
                  have hB5 : Below wq.heap.size wq w5 := (BB).grown hg5 (BB).size (fun g hg => ((OB).lt g hg).1)
                  obtain ⟨g5, c5, rfl⟩ := Go.Joins.ownsRow_form hown5 (by omega)
                  refine hK.out _ _ ?_ (fun hHeld => ?_)
                  · exact ((hB5).cell (p := ⟨b, off + j, none⟩) (World.block_lt_of_cell? wq _ HCQ.out)).trans HCQ.out
                  clear hK K
                  (try simp only [List.getElem_toArray, List.getElem_cons_succ, List.getElem_cons_zero, Act.put, List.setIfInBounds_toArray, List.set_cons_zero, List.set_cons_succ])
                  refine wpAnyH_ready (rs := [11]) (by kernel_rfl) (by simp) ?_
                  refine AllReadyH.cons rfl (fun K hK => ?_) AllReadyH.nil
                  go_simp
                  refine hK.out _ _ ?_ (fun hHeld => ?_)
                  · exact hHeld
                  clear hK K
                  (try simp only [List.getElem_toArray, List.getElem_cons_succ, List.getElem_cons_zero, Act.put, List.setIfInBounds_toArray, List.set_cons_zero, List.set_cons_succ])
                  refine wpAnyH_done (by kernel_rfl) ?_ _
                  refine NoPanic.normal ?_
                  go_wp2_with fail
                  go_meet
                  case rel => exact ⟨g5, c5, rfl, by rw [intCells_appS]; exact hown5, hB5⟩
                · go_simp
                  have BB : Below wq.heap.size wq ((wq.drew.alloc (.cells #[] 3)).alloc (.cells #[.int .i64 z] 3)) := BA.alloc BA.size _
                  have EB := EA.alloc (.cells #[.int .i64 z] 3)
                  have hb9 : ((wq.drew.alloc (.cells #[] 3)).alloc (.cells #[.int .i64 z] 3)).heap[wq.heap.size + 1]? = some (.cells #[.int .i64 z] 3 (0, 0)) := (by have h := alloc_blk (wq.drew.alloc (.cells #[] 3)) #[.int .i64 z] 3; simpa using h)
                  refine hK.out _ _ ?_ (fun hHeld => ?_)
                  · exact ((BB).cell (p := ⟨b, off + j, none⟩) (World.block_lt_of_cell? wq _ HCQ.out)).trans HCQ.out
                  clear hK K
                  (try simp only [List.getElem_toArray, List.getElem_cons_succ, List.getElem_cons_zero, Act.put, List.setIfInBounds_toArray, List.set_cons_zero, List.set_cons_succ])
                  refine wpAnyH_ready (rs := [4]) (by kernel_rfl) (by simp) ?_
                  refine AllReadyH.cons rfl (fun K hK => ?_) AllReadyH.nil
                  have hn3 : ∀ (i : Nat) u, (intCells (S.take q))[i]? = some u → ((wq.drew.alloc (.cells #[] 3)).alloc (.cells #[.int .i64 z] 3)).cell? ((⟨gv, 0, none⟩ : Addr).add i) = some u := by
                    have h := part_news (i := 0) (k := q) (owns_bl HOQ.out (BB))
                    rw [List.drop_zero, ← intCells_takeS] at h
                    exact h
                  refine step_append_u rfl (.tmp 32) (.tmp 35) 24 rfl wq.heap.size 3 iI (.int .i64 0) 1 8 Try.underlying24 gi gz0 gz1 gz2 rfl (by decide) (.slice (some ⟨wq.heap.size, 0, none⟩) 0 0) 0 [] (by simp [Act.eval]) (EB) ⟨gv, 0, none⟩ q cv (intCells (S.take q)) (by simp [Act.eval]) (by rw [intCells_len, List.length_take, HSL.out]; omega) hn3 (intCells_oneS _) (by unfold maxLen; omega) (by omega) (BB).size ?_
                  intro v4 w4 hown4 hg4
                  have hB4 : Below wq.heap.size wq w4 := (BB).grown hg4 (BB).size (fun g hg => ((EB).lt g hg).1)
                  rw [Nat.zero_add, List.nil_append] at hown4
                  obtain ⟨a4, c4, rfl⟩ := owns_form hown4
                  refine hK.out _ _ ?_ (fun hHeld => ?_)
                  · exact ((hB4).cell (p := ⟨b, off + j, none⟩) (World.block_lt_of_cell? wq _ HCQ.out)).trans HCQ.out
                  clear hK K
                  (try simp only [List.getElem_toArray, List.getElem_cons_succ, List.getElem_cons_zero, Act.put, List.setIfInBounds_toArray, List.set_cons_zero, List.set_cons_succ])
                  have hb4 := (hg4.block _ (blk_lt hb9) (fun e => by have h9 : wq.heap.size + 1 = wq.heap.size := Option.some.inj e; omega)).trans hb9
                  refine wpAnyH_ready (rs := [10]) (by kernel_rfl) (by simp) ?_
                  refine AllReadyH.cons rfl (fun K hK => ?_) AllReadyH.nil
                  refine step_append_u rfl (.tmp 36) (.tmp 41) 24 rfl wq.heap.size 3 iI (.int .i64 0) 1 8 Try.underlying24 gi gz0 gz1 gz2 rfl (by decide) (.slice a4 q c4) q (intCells (S.take q)) (by simp [Act.eval]) (hown4) ⟨(wq.heap.size + 1), 0, none⟩ 1 1 [.int .i64 z] (by simp [Act.eval]) rfl (news_blkS hb4) (by intro y hy; simp at hy; subst hy; rfl) (by unfold maxLen; omega) (by omega) (hB4).size ?_
                  intro v5 w5 hown5 hg5
                  have hB5 : Below wq.heap.size wq w5 := (hB4).grown hg5 (hB4).size (fun g hg => ((hown4).lt g hg).1)
                  obtain ⟨g5, c5, rfl⟩ := Go.Joins.ownsRow_form hown5 (by omega)
                  refine hK.out _ _ ?_ (fun hHeld => ?_)
                  · exact ((hB5).cell (p := ⟨b, off + j, none⟩) (World.block_lt_of_cell? wq _ HCQ.out)).trans HCQ.out
                  clear hK K
                  (try simp only [List.getElem_toArray, List.getElem_cons_succ, List.getElem_cons_zero, Act.put, List.setIfInBounds_toArray, List.set_cons_zero, List.set_cons_succ])
                  refine wpAnyH_ready (rs := [11]) (by kernel_rfl) (by simp) ?_
                  refine AllReadyH.cons rfl (fun K hK => ?_) AllReadyH.nil
                  go_simp
                  refine hK.out _ _ ?_ (fun hHeld => ?_)
                  · exact hHeld
                  clear hK K
                  (try simp only [List.getElem_toArray, List.getElem_cons_succ, List.getElem_cons_zero, Act.put, List.setIfInBounds_toArray, List.set_cons_zero, List.set_cons_succ])
                  refine wpAnyH_done (by kernel_rfl) ?_ _
                  refine NoPanic.normal ?_
                  go_wp2_with fail
                  go_meet
                  case rel => exact ⟨g5, c5, rfl, by rw [intCells_appS]; exact hown5, hB5⟩
              · go_simp
                have BA : Below wq.heap.size wq (wq.drew.alloc (.cells #[.int .i64 z] 3)) := ((Below.refl _ _).drew).alloc (Nat.le_refl _) _
                have hb9 : (wq.drew.alloc (.cells #[.int .i64 z] 3)).heap[wq.heap.size]? = some (.cells #[.int .i64 z] 3 (0, 0)) := alloc_blk wq.drew _ _
                refine hK.out _ _ ?_ (fun hHeld => ?_)
                · exact ((BA).cell (p := ⟨b, off + j, none⟩) (World.block_lt_of_cell? wq _ HCQ.out)).trans HCQ.out
                clear hK K
                (try simp only [List.getElem_toArray, List.getElem_cons_succ, List.getElem_cons_zero, Act.put, List.setIfInBounds_toArray, List.set_cons_zero, List.set_cons_succ])
                refine wpAnyH_ready (rs := [0]) (by kernel_rfl) (by simp) ?_
                refine AllReadyH.cons rfl (fun K hK => ?_) AllReadyH.nil
                go_simp
                have EB0 := World.ownsRow_made (e := 3) (size := 1) (wq.drew.alloc (.cells #[.int .i64 z] 3)) #[] 0 (Nat.le_refl _) (by unfold maxLen; omega) (by simp)
                have EB : ((wq.drew.alloc (.cells #[.int .i64 z] 3)).alloc (.cells #[] 3)).ownsRow wq.heap.size 3 1 (.slice (some ⟨wq.heap.size + 1, 0, none⟩) 0 0) 0 [] := by
                  have h := World.ownsRow.mono EB0 (Nat.le_trans (Nat.le_succ wq.heap.size) (Nat.le_of_eq (by simp)))
                  simpa using h
                have BB : Below wq.heap.size wq ((wq.drew.alloc (.cells #[.int .i64 z] 3)).alloc (.cells #[] 3)) := BA.alloc BA.size _
                have hb8 := blk_al hb9 (.cells #[] 3)
                refine hK.out _ _ ?_ (fun hHeld => ?_)
                · exact ((BB).cell (p := ⟨b, off + j, none⟩) (World.block_lt_of_cell? wq _ HCQ.out)).trans HCQ.out
                clear hK K
                (try simp only [List.getElem_toArray, List.getElem_cons_succ, List.getElem_cons_zero, Act.put, List.setIfInBounds_toArray, List.set_cons_zero, List.set_cons_succ])
                refine wpAnyH_ready (rs := [4]) (by kernel_rfl) (by simp) ?_
                refine AllReadyH.cons rfl (fun K hK => ?_) AllReadyH.nil
                have hn5 : ∀ (i : Nat) u, (intCells (S.take q))[i]? = some u → ((wq.drew.alloc (.cells #[.int .i64 z] 3)).alloc (.cells #[] 3)).cell? ((⟨gv, 0, none⟩ : Addr).add i) = some u := by
                  have h := part_news (i := 0) (k := q) (owns_bl HOQ.out (BB))
                  rw [List.drop_zero, ← intCells_takeS] at h
                  exact h
                refine step_append_u rfl (.tmp 32) (.tmp 35) 24 rfl wq.heap.size 3 iI (.int .i64 0) 1 8 Try.underlying24 gi gz0 gz1 gz2 rfl (by decide) (.slice (some ⟨(wq.heap.size + 1), 0, none⟩) 0 0) 0 [] (by simp [Act.eval]) (EB) ⟨gv, 0, none⟩ q cv (intCells (S.take q)) (by simp [Act.eval]) (by rw [intCells_len, List.length_take, HSL.out]; omega) hn5 (intCells_oneS _) (by unfold maxLen; omega) (by omega) (BB).size ?_
                intro v4 w4 hown4 hg4
                have hB4 : Below wq.heap.size wq w4 := (BB).grown hg4 (BB).size (fun g hg => ((EB).lt g hg).1)
                rw [Nat.zero_add, List.nil_append] at hown4
                obtain ⟨a4, c4, rfl⟩ := owns_form hown4
                refine hK.out _ _ ?_ (fun hHeld => ?_)
                · exact ((hB4).cell (p := ⟨b, off + j, none⟩) (World.block_lt_of_cell? wq _ HCQ.out)).trans HCQ.out
                clear hK K
                (try simp only [List.getElem_toArray, List.getElem_cons_succ, List.getElem_cons_zero, Act.put, List.setIfInBounds_toArray, List.set_cons_zero, List.set_cons_succ])
                have hb4 := (hg4.block _ (blk_lt hb8) (fun e => by have h9 : wq.heap.size = wq.heap.size + 1 := Option.some.inj e; omega)).trans hb8
                refine wpAnyH_ready (rs := [10]) (by kernel_rfl) (by simp) ?_
                refine AllReadyH.cons rfl (fun K hK => ?_) AllReadyH.nil
                refine step_append_u rfl (.tmp 36) (.tmp 41) 24 rfl wq.heap.size 3 iI (.int .i64 0) 1 8 Try.underlying24 gi gz0 gz1 gz2 rfl (by decide) (.slice a4 q c4) q (intCells (S.take q)) (by simp [Act.eval]) (hown4) ⟨wq.heap.size, 0, none⟩ 1 1 [.int .i64 z] (by simp [Act.eval]) rfl (news_blkS hb4) (by intro y hy; simp at hy; subst hy; rfl) (by unfold maxLen; omega) (by omega) (hB4).size ?_
                intro v5 w5 hown5 hg5
                have hB5 : Below wq.heap.size wq w5 := (hB4).grown hg5 (hB4).size (fun g hg => ((hown4).lt g hg).1)
                obtain ⟨g5, c5, rfl⟩ := Go.Joins.ownsRow_form hown5 (by omega)
                refine hK.out _ _ ?_ (fun hHeld => ?_)
                · exact ((hB5).cell (p := ⟨b, off + j, none⟩) (World.block_lt_of_cell? wq _ HCQ.out)).trans HCQ.out
                clear hK K
                (try simp only [List.getElem_toArray, List.getElem_cons_succ, List.getElem_cons_zero, Act.put, List.setIfInBounds_toArray, List.set_cons_zero, List.set_cons_succ])
                refine wpAnyH_ready (rs := [11]) (by kernel_rfl) (by simp) ?_
                refine AllReadyH.cons rfl (fun K hK => ?_) AllReadyH.nil
                go_simp
                refine hK.out _ _ ?_ (fun hHeld => ?_)
                · exact hHeld
                clear hK K
                (try simp only [List.getElem_toArray, List.getElem_cons_succ, List.getElem_cons_zero, Act.put, List.setIfInBounds_toArray, List.set_cons_zero, List.set_cons_succ])
                refine wpAnyH_done (by kernel_rfl) ?_ _
                refine NoPanic.normal ?_
                go_wp2_with fail
                go_meet
                case rel => exact ⟨g5, c5, rfl, by rw [intCells_appS]; exact hown5, hB5⟩
            case rest =>
              obtain ⟨g6, c6, rfl, ho6, hB6⟩ := hcut
              have hOC := owns_bl HOQ.out hB6
              have hn9 : ∀ (i : Nat) u, (intCells (S.drop q))[i]? = some u → wc.cell? ((⟨gv, q, none⟩ : Addr).add i) = some u := by
                have h := part_news (i := q) (k := j) hOC
                rw [← intCells_dropS, List.take_of_length_le (by rw [intCells_len, List.length_drop, HSL.out]; omega)] at h
                exact h
              by_cases hqe : q = cv
              · obtain rfl : j = q := by omega
                obtain rfl : j = cv := by omega
                have hd0 : S.drop j = [] := List.drop_of_length_le (by rw [HSL.out]; exact Nat.le_refl _)
                clear hn9
                go_wp2_with (at_builtin; refine wpList_append_own _ rfl _ _ 24 rfl wq.heap.size 3 iI (.int .i64 0) 1 8 Try.underlying24 gi gz0 gz1 gz2 rfl (by decide) _ _ _ rfl ho6 ⟨gv, 0, none⟩ 0 0 [] rfl ?a20 ?b20 ?c20 ?d20 ?e20 ?f20 ?_)
                try (case a20 => rfl)
                try (case b20 => simp)
                try (case c20 => simp)
                case d20 => unfold maxLen; omega
                case e20 => omega
                case f20 => exact hB6.size
                intro v9 w9 hown9 hg9 _
                have hB9 : Below wq.heap.size wq w9 := hB6.grown hg9 hB6.size (fun g hg => (ho6.lt g hg).1)
                have e9 : S.take j ++ [z] = insZ S z := by rw [insZ, HPZ.out, hd0, List.append_nil]
                have hown9 : w9.ownsRow wq.heap.size 3 1 v9 (j + 1) (intCells (sortZ (zs.take (j + 1)))) := by
                  rw [HST.out, ← e9]
                  simpa using hown9
                obtain ⟨g9, c9, rfl⟩ := Go.Joins.ownsRow_form hown9 (by omega)
                have HO9 := Lib.hid (World.ownsRow.mono hown9 HBQ.out.size)
                have HB9 := Lib.hid (bt HBQ.out hB9)
                clear hown9 hg9 hB9 ho6 hB6 hOC
                go_wp2_with fail
                go_roundg (n - (j + 1))
                case measure => omega
                case rel => exact ⟨j + 1, g9, c9, rfl, by go_num, by omega, rfl, HO9.out, HB9.out⟩
              · have hqe1 : ¬ (q : Int) = cv := by omega
                go_wp2_with (at_builtin; refine wpList_append_own _ rfl _ _ 24 rfl wq.heap.size 3 iI (.int .i64 0) 1 8 Try.underlying24 gi gz0 gz1 gz2 rfl (by decide) _ _ _ rfl ho6 ⟨gv, q, none⟩ (j - q) (cv - q) (intCells (S.drop q)) rfl ?a21 ?b21 ?c21 ?d21 ?e21 ?f21 ?_)
                try (case a21 => rw [intCells_len, List.length_drop, HSL.out])
                try (case b21 => exact fun i u hu => (by have h9 := hn9 i u hu; rwa [addr_addS] at h9))
                try (case c21 => exact intCells_oneS _)
                case d21 => unfold maxLen; omega
                case e21 => omega
                case f21 => exact hB6.size
                intro v9 w9 hown9 hg9 _
                have hB9 : Below wq.heap.size wq w9 := hB6.grown hg9 hB6.size (fun g hg => (ho6.lt g hg).1)
                have e9 : q + 1 + (j - q) = j + 1 := by omega
                rw [e9, ← intCells_appS, show S.take q ++ [z] ++ S.drop q = insZ S z by rw [insZ, HPZ.out], ← HST.out] at hown9
                obtain ⟨g9, c9, rfl⟩ := Go.Joins.ownsRow_form hown9 (by omega)
                have HO9 := Lib.hid (World.ownsRow.mono hown9 HBQ.out.size)
                have HB9 := Lib.hid (bt HBQ.out hB9)
                clear hown9 hg9 hB9 ho6 hB6 hOC
                go_wp2_with fail
                go_roundg (n - (j + 1))
                case measure => omega
                case rel => exact ⟨j + 1, g9, c9, rfl, by go_num, by omega, rfl, HO9.out, HB9.out⟩
    · have hj1 : ¬ (j : Int) < n := by omega
      have hjn : j = n := by omega
      subst hjn
      have e : zs.take j = zs := List.take_of_length_le (by rw [HE.out]; exact Nat.le_refl _)
      rw [e] at hown
      have hsl : (sortZ zs).length = j := (sortZ_len zs).trans HE.out
      go_wp2_with fail
      go_ret
      exact ⟨⟨(.slice (some ⟨gv, 0, none⟩) j cv), rfl, by first | exact hown | (rw [hsl]; exact hown)⟩, hB⟩
end Go.Proofs.Ytgknkjiifcnkpaa
