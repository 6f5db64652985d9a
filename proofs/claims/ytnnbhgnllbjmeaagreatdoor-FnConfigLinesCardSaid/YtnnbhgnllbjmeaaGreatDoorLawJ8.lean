/-
  The walk of the law on the order of the lines of settings; the program's contracts are hypotheses.
-/
import Derived.Test.YtnnbhgnllbjmeaaGreatDoorLawH8
import Derived.Test.YtnnbhgnllbjmeaaGreatDoorLawI8
import Derived.Test.YtnnbhgnllbjmeaaGreatDoorPk1
import Derived.Test.YtnnbhgnllbjmeaaGreatDoorLins
import Derived.Test.YtnnbhgnllbjmeaaGreatDoorPk5
import Derived.Test.YtnnbhgnllbjmeaaGreatDoorPk2
import Derived.Deep.AppendLies
namespace Go.Proofs.YtnnbhgnllbjmeaaGreatDoor
open Go.RowKit

/-- An append at a step of a region that draws its order, whatever is appended. -/
theorem step_append_any {P : Program} {w : World} {ops : Array Oper} {o : Oper} {a : Act} {K : Act → World → Prop} {Q : Exit → Act → World → Prop} {E : Prop} (hgd : o.guard = none) (s x : Operand) (t : TypeId)
    (ho : o.op = .call { callee := .builtin .append, args := #[s, x], argTypes := #[t, t] })
    (base : Nat) (e : TypeId) (i : TypeInfo) (z : Value) (size bytes : Nat) (ht : P.underlying t = some (.slice e)) (hi : P.info? e = some i) (hz : i.zero = some z)
    (hsize : i.size = size) (hby : i.bytes = bytes) (hzs : z.cells.size = size) (hsz : 0 < size)
    (v : Value) (n : Nat) (xs : List Value) (hs : a.eval s = v) (hown : w.ownsRow base e size v n xs)
    (ad : Addr) (m c : Nat) (news : List Value) (hx : a.eval x = .slice (some ad) m c) (hl : news.length = m * size) (hnews : ∀ j u, news[j]? = some u → w.cell? (ad.add j) = some u) (h1 : ∀ u ∈ news, u.oneCell' = true)
    (h63 : n + m ≤ maxLen) (hbytes : (n + m) * bytes ≤ 140737488355328) (hbase : base ≤ w.heap.size)
    (h : ∀ v' w', w'.ownsRow base e size v' (n + m) (xs ++ news) → w.grownBy w' v.ownBlock → K (a.put o.dst v') w') :
    if Region.wanted o (yielded ops a.tmps) = true then Oper.wp P o a w K Q else E := by
  have hw : Region.wanted o (yielded ops a.tmps) = true := by simp [Region.wanted, hgd]
  rw [if_pos hw]
  obtain ⟨v', w', hr, h2, h3, _⟩ := run_append_own (P := P) w base t o.type e i z size bytes ht hi hz hsize hby hzs hsz v n xs hown ad m c news hl hnews h1 h63 hbytes hbase
  unfold Oper.wp execOp
  simp only [ho, resolve, invoke, builtin, Sem.run_bind, Sem.run_pure, Result.andThen_ok, List.map_toArray, List.map_cons, List.map_nil, hs, hx, hr]
  exact h v' w' h2 h3
theorem textC_ne {C : Cfg} (h : okC C = true) : textC C ≠ [] := by
  obtain ⟨k, ks, hks⟩ : ∃ k ks, keysC C = k :: ks := by
    unfold keysC
    split
    · exact ⟨_, _, rfl⟩
    · exact ⟨_, _, rfl⟩
  rw [textC, if_pos h, hks, List.map_cons, linesT]
  intro e
  have := congrArg List.length e
  simp at this
theorem addr_addJ {b off j : Nat} : (⟨b, off, none⟩ : Addr).add j = ⟨b, off + j, none⟩ := by unfold Addr.add; split <;> simp_all
theorem cells_drop {w : World} {base g n cap : Nat} {T : TypeId} {ps : List (List UInt8)} (ho : w.ownsRow base T 1 (.slice (some ⟨g, 0, none⟩) n cap) n (strCells ps)) (k : Nat) : ∀ (j : Nat) u, (strCells (ps.drop k))[j]? = some u → w.cell? ((⟨g, k, none⟩ : Addr).add j) = some u := by
  intro j u h
  have hl := ho.1
  have h' : (strCells ps)[k + j]? = some u := by
    unfold strCells at h ⊢
    rw [List.map_drop, List.getElem?_drop] at h
    exact h
  have hj := (List.getElem?_eq_some_iff.1 h').1
  rw [addr_addJ, ho.cellAt (k + j) (by omega)]
  exact h'
theorem cells_take {w : World} {base g n cap : Nat} {T : TypeId} {ps : List (List UInt8)} (ho : w.ownsRow base T 1 (.slice (some ⟨g, 0, none⟩) n cap) n (strCells ps)) (k : Nat) : ∀ (j : Nat) u, (strCells (ps.take k))[j]? = some u → w.cell? ((⟨g, 0, none⟩ : Addr).add j) = some u := by
  intro j u h
  have hl := ho.1
  have h' : (strCells ps)[j]? = some u := by
    unfold strCells at h ⊢
    rw [List.map_take, List.getElem?_take] at h
    split at h
    · exact h
    · cases h
  have hj := (List.getElem?_eq_some_iff.1 h').1
  rw [addr_addJ, Nat.zero_add, ho.cellAt j (by omega)]
  exact h'
set_option maxRecDepth 100000 in
theorem at0_two (w : World) (v : Value) (n : Nat) (hb : Bytes w v n) (hn : n ≤ 1048576) :
    Calls Tryz.prog 17 #[v, .int .i64 2] w fun e w' => (∃ a : Nat, a < 256 ∧ e = .returned (.int .i64 a)) ∧ w' = w := by
  by_cases h2 : 2 < n
  · rcases hb with ⟨c, rfl, rfl⟩ | ⟨a, c, rfl, rfl⟩ | ⟨b, off, c, rfl, _, hc⟩
    · omega
    · omega
    · obtain ⟨hbl, z, z0, z1, hz⟩ := hc 2 h2
      have hn2 : (2 : Int) < n := by omega
      obtain ⟨x, rfl⟩ : ∃ x : Nat, z = (x : Int) := ⟨z.toNat, by omega⟩
      have hw8 : IntKind.i64.wrap (x : Int) = (x : Int) := IntWalk.i64_in _ (by omega)
      go_enter Tryz.func17, Tryz.ntmps17
      go_wp2_with fail
      go_ret
      exact ⟨⟨x, by omega, rfl⟩, rfl⟩
  · obtain ⟨a, c, rfl⟩ := hb.shape
    have hn2 : ¬ (2 : Int) < n := by omega
    have e0 : (0 : Int) ≤ 14 + (n : Int) := by omega
    go_enter Tryz.func17, Tryz.ntmps17
    go_wp2_with fail
    go_ret
    exact ⟨⟨((14 + (n : Int)) % 256).toNat, by omega, by congr 2⟩, rfl⟩

set_option maxRecDepth 100000 in
set_option maxHeartbeats 8000000 in
theorem lawFnConfigLines (w : World) (v : Value) (n : Nat) (hT : ImplText8 w) (hR : ImplRead8 w) (hb : Bytes w v n) :
    Calls Tryz.prog 4 #[v] w fun e w' => e = .returned (.bool true) ∧ Below w.heap.size w w' := by
  by_cases hbig : 1048576 < n
  · go_enter Tryz.func4, Tryz.ntmps4
    go_wp2_with fail
    refine (big_yes w v n hb hbig).mono ?_
    rintro e w1 ⟨rfl, rfl⟩
    go_wp2_with fail
    go_ret
    exact ⟨rfl, Below.refl _ _⟩
  · obtain ⟨i1, hi, hz0, hz1, hz2⟩ := info_parts infoStr
    have HT := Lib.hid hT
    have HR := Lib.hid hR
    have HBY := Lib.hid hb
    clear hT hR
    go_enter Tryz.func4, Tryz.ntmps4
    go_wp2_with fail
    refine (big_no w v n hb hbig).mono ?_
    rintro e w0 ⟨rfl, rfl⟩
    go_wp2_with fail
    refine (drawConfigText w v n hb).mono ?_
    rintro e w1 ⟨⟨C, u, rfl, hu, hl6⟩, hB1⟩
    obtain ⟨ua, uc, rfl, _⟩ := intRow_form hu
    simp only [cfgV]
    have XC := Lib.hid (alloc_blk w1 #[.int .i64 C.r, .int .i64 C.d, .int .i64 C.b, .int .i64 C.l, .int .i64 C.m, .int .i64 C.n, .int .i64 C.e, .slice ua C.s.length uc] 26)
    have HB := Lib.hid (bt hB1 (below_al w1 (.cells #[.int .i64 C.r, .int .i64 C.d, .int .i64 C.b, .int .i64 C.l, .int .i64 C.m, .int .i64 C.n, .int .i64 C.e, .slice ua C.s.length uc] 26)))
    have HU := Lib.hid (hu.below (below_al w1 (.cells #[.int .i64 C.r, .int .i64 C.d, .int .i64 C.b, .int .i64 C.l, .int .i64 C.m, .int .i64 C.n, .int .i64 C.e, .slice ua C.s.length uc] 26)))
    clear hb hB1 hu
    have p0 := cell_blk XC.out 0
    have p1 := cell_blk XC.out 1
    have p2 := cell_blk XC.out 2
    have p3 := cell_blk XC.out 3
    have p4 := cell_blk XC.out 4
    have p5 := cell_blk XC.out 5
    have p6 := cell_blk XC.out 6
    have p7 := cell_blk XC.out 7
    have pl := blk_lt XC.out
    go_wp2_with fail
    generalize w1.alloc (.cells #[.int .i64 C.r, .int .i64 C.d, .int .i64 C.b, .int .i64 C.l, .int .i64 C.m, .int .i64 C.n, .int .i64 C.e, .slice ua C.s.length uc] 26) = wa at XC HB HU ⊢
    clear p0 p1 p2 p3 p4 p5 p6 p7 pl
    by_cases hk : okC C = true
    · obtain ⟨S, hS⟩ : ∃ S : ByteArray, S = ⟨(textC C).toArray⟩ := ⟨_, rfl⟩
      have hSl : S.data.toList = textC C := by rw [hS]
      have hSz : S.size ≤ 600 := by rw [Lib.size_eq, hSl]; exact textC_len hk
      have hemp : S.toList.isEmpty = false := by
        rw [Lib.toList_data, hSl]
        cases hx : textC C with
        | nil => exact absurd hx (textC_ne hk)
        | cons _ _ => rfl
      have HTS := Lib.hid (fun W hB hu => HT.out W hB C (.slice ua C.s.length uc) hu (by omega))
      have HSS := Lib.hid (fun W hu => specConfigText C (.slice ua C.s.length uc) W hu)
      rw [← hS] at HTS HSS
      have HSL := Lib.hid hSl
      have HOK := Lib.hid hk
      clear hS hSl hk
      refine (HTS.out wa HB.out HU.out).mono ?_
      rintro e w2 ⟨rfl, hB2⟩
      replace XC := Lib.hid (blk_next XC.out hB2)
      replace HB := Lib.hid (bt HB.out hB2)
      replace HU := Lib.hid (HU.out.below hB2)
      clear hB2 HT HTS
      have p0 := cell_blk XC.out 0
      have p1 := cell_blk XC.out 1
      have p2 := cell_blk XC.out 2
      have p3 := cell_blk XC.out 3
      have p4 := cell_blk XC.out 4
      have p5 := cell_blk XC.out 5
      have p6 := cell_blk XC.out 6
      have p7 := cell_blk XC.out 7
      have pl := blk_lt XC.out
      go_wp2_with fail
      refine (HSS.out w2 HU.out).mono ?_
      rintro e w3 ⟨rfl, hB3⟩
      replace XC := Lib.hid (blk_next XC.out hB3)
      replace HB := Lib.hid (bt HB.out hB3)
      replace HU := Lib.hid (HU.out.below hB3)
      clear hB3 HSS
      clear p0 p1 p2 p3 p4 p5 p6 p7 pl
      go_wp2_with fail
      refine (specParts S 10 w3 (by omega)).mono ?_
      rintro e w4 ⟨v4, rfl, ho4, hB4⟩
      rw [HSL.out] at ho4
      have h1 := parts_pos (c := 10) (textC C)
      have h2 := parts_len (c := 10) (textC C)
      have h3 := textC_len HOK.out
      have HTU := Lib.hid (fun k => readC_turned HOK.out k)
      have HPM := Lib.hid (fun (q : List UInt8) (hq : q ∈ partsL 10 (textC C)) => Nat.le_trans (parts_memL hq) h3)
      replace XC := Lib.hid (blk_next XC.out hB4)
      replace HB := Lib.hid (bt HB.out hB4)
      replace HU := Lib.hid (HU.out.below hB4)
      clear hB4 HSL
      generalize partsL 10 (textC C) = ps at ho4 h1 h2 HTU HPM
      obtain ⟨N, hN⟩ : ∃ N, ps.length = N := ⟨_, rfl⟩
      rw [hN] at ho4 h1 h2
      have hN9 : N ≤ 601 := by omega
      obtain ⟨g, cap, rfl, hnc⟩ := own_slice ho4 h1
      have HPN := Lib.hid hN
      have HO4 := Lib.hid ho4
      clear hN h2 ho4
      go_wp2_with fail
      refine (at0_two w4 v n (HBY.out.next HB.out) (by omega)).mono ?_
      rintro e w5 ⟨⟨a, ha, rfl⟩, rfl⟩
      obtain ⟨k, hk⟩ : ∃ k : Nat, a % N = k := ⟨_, rfl⟩
      have hkN : k < N := by rw [← hk]; exact Nat.mod_lt _ h1
      have ha0 : (0 : Int) ≤ a := by omega
      have hN0 : ¬ (N : Int) = 0 := by omega
      have hN00 : ¬ N = 0 := by omega
      have hrem : (a : Int) % (N : Int) = (k : Int) := by omega
      clear hk
      have hk0 : (0 : Int) ≤ k := by omega
      have hk1 : (k : Int) ≤ N := by omega
      have hk2 : (k : Int) ≤ cap := by omega
      have hk3 : (N : Int) ≤ cap := by omega
      go_wp2_with fail
      refine wp_region_noPanic ?_
      refine wp_region_held_drew (S := (fun _ => True)) (by kernel_rfl) trivial (fun hHeld => ?_)
      refine wpAnyH_take (i := 1) (oi := ?o1) (v := ?v1) ?hi1 ?hs1 ?hf1 ?hr1 ?hQ1 ?hy1 ?hS1 ?rest1
      case hi1 => rfl
      case hs1 => kernel_rfl
      case hf1 => kernel_rfl
      case hr1 => kernel_rfl
      case hQ1 => exact fun _ _ _ h => h
      case hS1 => assumption
      case hy1 =>
        refine Or.inl ⟨by kernel_rfl, ?_⟩
        intro w' hSw
        (try dsimp only at hSw)
        go_simp
        (try rfl)
      (try simp only [List.getElem_toArray, List.getElem_cons_succ, List.getElem_cons_zero, Act.put, List.setIfInBounds_toArray, List.set_cons_zero, List.set_cons_succ])
      refine wpAnyH_take (i := 2) (oi := ?o2) (v := ?v2) ?hi2 ?hs2 ?hf2 ?hr2 ?hQ2 ?hy2 ?hS2 ?rest2
      case hi2 => rfl
      case hs2 => kernel_rfl
      case hf2 => kernel_rfl
      case hr2 => kernel_rfl
      case hQ2 => exact fun _ _ _ h => h
      case hS2 => assumption
      case hy2 =>
        refine Or.inl ⟨by kernel_rfl, ?_⟩
        intro w' hSw
        (try dsimp only at hSw)
        go_simp
        (try rfl)
      (try simp only [List.getElem_toArray, List.getElem_cons_succ, List.getElem_cons_zero, Act.put, List.setIfInBounds_toArray, List.set_cons_zero, List.set_cons_succ])
      refine wpAnyH_take (i := 5) (oi := ?o3) (v := ?v3) ?hi3 ?hs3 ?hf3 ?hr3 ?hQ3 ?hy3 ?hS3 ?rest3
      case hi3 => rfl
      case hs3 => kernel_rfl
      case hf3 => kernel_rfl
      case hr3 => kernel_rfl
      case hQ3 => exact fun _ _ _ h => h
      case hS3 => assumption
      case hy3 =>
        refine Or.inl ⟨by kernel_rfl, ?_⟩
        intro w' hSw
        (try dsimp only at hSw)
        go_simp
        (try rfl)
      (try simp only [List.getElem_toArray, List.getElem_cons_succ, List.getElem_cons_zero, Act.put, List.setIfInBounds_toArray, List.set_cons_zero, List.set_cons_succ])
      refine wpAnyH_take (i := 6) (oi := ?o4) (v := ?v4) ?hi4 ?hs4 ?hf4 ?hr4 ?hQ4 ?hy4 ?hS4 ?rest4
      case hi4 => rfl
      case hs4 => kernel_rfl
      case hf4 => kernel_rfl
      case hr4 => kernel_rfl
      case hQ4 => exact fun _ _ _ h => h
      case hS4 => assumption
      case hy4 =>
        refine Or.inl ⟨by kernel_rfl, ?_⟩
        intro w' hSw
        (try dsimp only at hSw)
        go_simp
        (try rfl)
      (try simp only [List.getElem_toArray, List.getElem_cons_succ, List.getElem_cons_zero, Act.put, List.setIfInBounds_toArray, List.set_cons_zero, List.set_cons_succ])
      refine wpAnyH_take (i := 3) (oi := ?o5) (v := ?v5) ?hi5 ?hs5 ?hf5 ?hr5 ?hQ5 ?hy5 ?hS5 ?rest5
      case hi5 => rfl
      case hs5 => kernel_rfl
      case hf5 => kernel_rfl
      case hr5 => kernel_rfl
      case hQ5 => exact fun _ _ _ h => h
      case hS5 => assumption
      case hy5 =>
        refine Or.inl ⟨by kernel_rfl, ?_⟩
        intro w' hSw
        (try dsimp only at hSw)
        go_simp
        (try rfl)
      (try simp only [List.getElem_toArray, List.getElem_cons_succ, List.getElem_cons_zero, Act.put, List.setIfInBounds_toArray, List.set_cons_zero, List.set_cons_succ])
      refine wpAnyH_take (i := 7) (oi := ?o6) (v := ?v6) ?hi6 ?hs6 ?hf6 ?hr6 ?hQ6 ?hy6 ?hS6 ?rest6
      case hi6 => rfl
      case hs6 => kernel_rfl
      case hf6 => kernel_rfl
      case hr6 => kernel_rfl
      case hQ6 => exact fun _ _ _ h => h
      case hS6 => assumption
      case hy6 =>
        refine Or.inl ⟨by kernel_rfl, ?_⟩
        intro w' hSw
        (try dsimp only at hSw)
        go_simp
        (try rfl)
      (try simp only [List.getElem_toArray, List.getElem_cons_succ, List.getElem_cons_zero, Act.put, List.setIfInBounds_toArray, List.set_cons_zero, List.set_cons_succ])
      refine wpAnyH_ready (rs := [0]) (by kernel_rfl) (by simp) ?_
      refine AllReadyH.cons rfl (fun K hK => ?_) AllReadyH.nil
      go_simp
      refine hK.out _ _ trivial (fun hHeld => ?_)
      clear hK K
      (try simp only [List.getElem_toArray, List.getElem_cons_succ, List.getElem_cons_zero, Act.put, List.setIfInBounds_toArray, List.set_cons_zero, List.set_cons_succ])
      have hmade : (w5.drew.alloc (.cells #[] 9)).ownsRow w5.heap.size 9 1 (.slice (some ⟨w5.heap.size, 0, none⟩) 0 0) 0 [] := World.ownsRow_made w5.drew #[] 0 (Nat.le_refl _) (by unfold maxLen; omega) (by simp)
      have hoA := (HO4.out.drew).alloc (.cells #[] 9)
      have hgl := HO4.out.lt g rfl
      refine wpAnyH_ready (rs := [4]) (by kernel_rfl) (by simp) ?_
      refine AllReadyH.cons rfl (fun K hK => ?_) AllReadyH.nil
      refine step_append_any rfl (.tmp 35) (.tmp 38) 36 rfl w5.heap.size 9 i1 (.string ByteArray.empty) 1 16 Tryz.underlying36 hi hz0 hz1 hz2 rfl (by decide) (.slice (some ⟨w5.heap.size, 0, none⟩) 0 0) 0 [] (by simp [Act.eval]) hmade ⟨g, k, none⟩ (N - k) (cap - k) (strCells (ps.drop k)) (by simp [Act.eval]; intro h; omega) (by rw [strCells_len, List.length_drop, HPN.out]; omega) (cells_drop hoA k) (by intro y hy; obtain ⟨q, _, rfl⟩ := List.mem_map.1 hy; rfl) (by unfold maxLen; omega) (by omega) (by simp) ?_
      intro v8 w8 hown8 hg8
      have hB8 : Below w5.heap.size w5 w8 := (((Below.refl w5.heap.size w5).drew).alloc (Nat.le_refl _) (.cells #[] 9)).grown hg8 (by simp) (fun x hx => by simp only [Value.ownBlock, Option.some.injEq] at hx; omega)
      have ho8 := hoA.kept hg8 (Or.inr (fun e => by simp only [Value.ownBlock, Option.some.injEq] at e; omega))
      clear hmade hoA hg8
      refine hK.out _ _ trivial (fun hHeld => ?_)
      clear hK K
      (try simp only [List.getElem_toArray, List.getElem_cons_succ, List.getElem_cons_zero, Act.put, List.setIfInBounds_toArray, List.set_cons_zero, List.set_cons_succ])
      refine wpAnyH_ready (rs := [8]) (by kernel_rfl) (by simp) ?_
      refine AllReadyH.cons rfl (fun K hK => ?_) AllReadyH.nil
      refine step_append_any rfl (.tmp 39) (.tmp 42) 36 rfl w5.heap.size 9 i1 (.string ByteArray.empty) 1 16 Tryz.underlying36 hi hz0 hz1 hz2 rfl (by decide) v8 _ _ (by simp [Act.eval]) hown8 ⟨g, 0, none⟩ k cap (strCells (ps.take k)) (by simp [Act.eval]) (by rw [strCells_len, List.length_take, HPN.out]; omega) (cells_take ho8 k) (by intro y hy; obtain ⟨q, _, rfl⟩ := List.mem_map.1 hy; rfl) (by unfold maxLen; omega) (by omega) hB8.size ?_
      intro v9 w9 hown9 hg9
      have hB9 : Below w5.heap.size w5 w9 := hB8.grown hg9 hB8.size (fun x hx => (hown8.lt x hx).1)
      have hLL : (ps.drop k ++ ps.take k).length = N := by rw [List.length_append, List.length_drop, List.length_take, HPN.out]; omega
      have hST : StrRow w9 v9 (ps.drop k ++ ps.take k) := strRow_of_owns (base := w5.heap.size) (T := 9) (by
        rw [hLL, strCells_append]
        rw [show 0 + (N - k) + k = N by omega, List.nil_append] at hown9
        exact hown9) (by rw [hLL]; omega)
      clear hown8 hown9 hg9 ho8 hB8
      refine hK.out _ _ trivial (fun hHeld => ?_)
      clear hK K
      (try simp only [List.getElem_toArray, List.getElem_cons_succ, List.getElem_cons_zero, Act.put, List.setIfInBounds_toArray, List.set_cons_zero, List.set_cons_succ])
      refine wpAnyH_ready (rs := [9]) (by kernel_rfl) (by simp) ?_
      refine AllReadyH.cons rfl (fun K hK => ?_) AllReadyH.nil
      go_simp
      refine (specJoined w9 v9 (ps.drop k ++ ps.take k) ⟨#[10]⟩ hST (by rw [hLL]; omega) ?_).mono ?_
      · refine Nat.le_trans (join_len_n _ 600 10 fun q hq => ?_) (by rw [hLL]; omega)
        rcases List.mem_append.1 hq with hq | hq
        · exact HPM.out q (List.mem_of_mem_drop hq)
        · exact HPM.out q (List.mem_of_mem_take hq)
      rintro e w10 ⟨rfl, hB10⟩
      have hB4' := bt hB9 hB10
      have HB10 := Lib.hid (bt HB.out hB4')
      replace XC := Lib.hid (blk_next XC.out hB4')
      replace HU := Lib.hid (HU.out.below hB4')
      clear hB4' hB9 hB10 hST HB hLL
      refine hK.out _ _ trivial (fun hHeld => ?_)
      clear hK K
      refine wpAnyH_take (i := 10) (oi := ?o7) (v := ?v7) ?hi7 ?hs7 ?hf7 ?hr7 ?hQ7 ?hy7 ?hS7 ?rest7
      case hi7 => rfl
      case hs7 => kernel_rfl
      case hf7 => kernel_rfl
      case hr7 => kernel_rfl
      case hQ7 => exact fun _ _ _ h => h
      case hS7 => assumption
      case hy7 =>
        refine Or.inl ⟨by kernel_rfl, ?_⟩
        intro w' hSw
        (try dsimp only at hSw)
        go_simp
        (try rfl)
      (try simp only [List.getElem_toArray, List.getElem_cons_succ, List.getElem_cons_zero, Act.put, List.setIfInBounds_toArray, List.set_cons_zero, List.set_cons_succ])
      refine wpAnyH_done (by kernel_rfl) ?_ _
      refine NoPanic.normal ?_
      go_wp2_with fail
      refine (HR.out w10 HB10.out _ C 0 0 ?_ (HTU.out k)).mono ?_
      · rw [size_toArr]
        refine Nat.le_trans (join_len_n _ 600 10 fun q hq => ?_) ?_
        · rcases List.mem_append.1 hq with hq | hq
          · exact HPM.out q (List.mem_of_mem_drop hq)
          · exact HPM.out q (List.mem_of_mem_take hq)
        · rw [List.length_append, List.length_drop, List.length_take, HPN.out]; omega
      rintro e w11 ⟨⟨v11, rfl, ho11⟩, hB11⟩
      obtain ⟨a11, c11, rfl⟩ := ownsI_form ho11
      have XZ := Lib.hid (blk_next XC.out hB11)
      have HU11 := Lib.hid (HU.out.below hB11)
      have HO11 := Lib.hid (intRow_of_owns ho11 (by omega))
      have HB11 := Lib.hid (bt HB10.out hB11)
      have CC := Lib.hid (bt (below_al w11 (.cells #[.int .i64 C.r, .int .i64 C.d, .int .i64 C.b, .int .i64 C.l, .int .i64 C.m, .int .i64 C.n, .int .i64 C.e, .slice a11 C.s.length c11] 26)) (below_al _ (.cells #[.int .i64 ((0 : Nat) : Int), .int .i64 ((0 : Nat) : Int), .int .i64 0] 31)))
      clear hB11 ho11 XC HU HB10
      have p0 := cell_blk XZ.out 0
      have p1 := cell_blk XZ.out 1
      have p2 := cell_blk XZ.out 2
      have p3 := cell_blk XZ.out 3
      have p4 := cell_blk XZ.out 4
      have p5 := cell_blk XZ.out 5
      have p6 := cell_blk XZ.out 6
      have p7 := cell_blk XZ.out 7
      have pl := blk_lt XZ.out
      go_wp2_with fail
      refine (specSameConfig C C (.slice a11 C.s.length c11) (.slice ua C.s.length uc) _ (HO11.out.below CC.out) (HU11.out.below CC.out)).mono ?_
      rintro e w12 ⟨rfl, hB12⟩
      rw [sameC_self]
      go_wp2_with fail
      go_ret
      exact ⟨rfl, bt (bt HB11.out CC.out) hB12⟩
    · have hS : (⟨(textC C).toArray⟩ : ByteArray) = ⟨#[]⟩ := by rw [textC, if_neg hk]
      have HTS := Lib.hid (fun W hB hu => HT.out W hB C (.slice ua C.s.length uc) hu (by omega))
      have HSS := Lib.hid (fun W hu => specConfigText C (.slice ua C.s.length uc) W hu)
      rw [hS] at HTS HSS
      refine (HTS.out wa HB.out HU.out).mono ?_
      rintro e w2 ⟨rfl, hB2⟩
      replace XC := Lib.hid (blk_next XC.out hB2)
      replace HB := Lib.hid (bt HB.out hB2)
      replace HU := Lib.hid (HU.out.below hB2)
      clear hB2 HT HTS
      have p0 := cell_blk XC.out 0
      have p1 := cell_blk XC.out 1
      have p2 := cell_blk XC.out 2
      have p3 := cell_blk XC.out 3
      have p4 := cell_blk XC.out 4
      have p5 := cell_blk XC.out 5
      have p6 := cell_blk XC.out 6
      have p7 := cell_blk XC.out 7
      have pl := blk_lt XC.out
      go_wp2_with fail
      refine (HSS.out w2 HU.out).mono ?_
      rintro e w3 ⟨rfl, hB3⟩
      replace XC := Lib.hid (blk_next XC.out hB3)
      replace HB := Lib.hid (bt HB.out hB3)
      replace HU := Lib.hid (HU.out.below hB3)
      clear hB3
      clear p0 p1 p2 p3 p4 p5 p6 p7 pl
      have p0 := cell_blk XC.out 0
      have p1 := cell_blk XC.out 1
      have p2 := cell_blk XC.out 2
      have p3 := cell_blk XC.out 3
      have p4 := cell_blk XC.out 4
      have p5 := cell_blk XC.out 5
      have p6 := cell_blk XC.out 6
      have p7 := cell_blk XC.out 7
      have pl := blk_lt XC.out
      go_wp2_with fail
      refine (HSS.out w3 HU.out).mono ?_
      rintro e w4 ⟨rfl, hB4⟩
      go_wp2_with fail
      go_ret
      exact ⟨rfl, bt HB.out hB4⟩
end Go.Proofs.YtnnbhgnllbjmeaaGreatDoor
