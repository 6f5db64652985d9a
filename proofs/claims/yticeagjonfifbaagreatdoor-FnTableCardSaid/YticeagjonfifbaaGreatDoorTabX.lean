/-
  The text of a table: the reference's way.
-/
import Derived.Test.YticeagjonfifbaaGreatDoorPk7
import Derived.Test.YticeagjonfifbaaGreatDoorPk5
import Derived.Test.YticeagjonfifbaaGreatDoorCsvS
import Derived.Test.YticeagjonfifbaaGreatDoorFixS
import Derived.Deep.AppendLies
namespace Go.Proofs.YticeagjonfifbaaGreatDoor
open Go.RowKit

/-- An append at a step of a region that draws its order, whatever is appended. -/
theorem step_append_t {P : Program} {w : World} {ops : Array Oper} {o : Oper} {a : Act} {K : Act → World → Prop} {Q : Exit → Act → World → Prop} {E : Prop} (hgd : o.guard = none) (s x : Operand) (t : TypeId)
    (ho : o.op = .call { callee := .builtin .append, args := #[s, x], argTypes := #[t, t] })
    (base : Nat) (e : TypeId) (i : TypeInfo) (z : Value) (size bytes : Nat) (ht : P.underlying t = some (.slice e)) (hi : P.info? e = some i) (hz : i.zero = some z)
    (hsize : i.size = size) (hby : i.bytes = bytes) (hzs : z.cells.size = size) (hsz : 0 < size)
    (v : Value) (n : Nat) (xs : List Value) (hs : a.eval s = v) (hown : w.ownsRow base e size v n xs)
    (ad : Addr) (m c : Nat) (news : List Value) (hx : a.eval x = .slice (some ad) m c) (hl : news.length = m * size) (hnews : ∀ j u, news[j]? = some u → w.cell? (ad.add j) = some u) (h1 : ∀ u ∈ news, u.oneCell' = true)
    (h63 : n + m ≤ maxLen) (hbytes : (n + m) * bytes ≤ 140737488355328) (hbase : base ≤ w.heap.size)
    (h : ∀ v' w', w'.ownsRow base e size v' (n + m) (xs ++ news) → w.grownBy w' v.ownBlock → K (a.put o.dst v') w') :
    if Region.wanted o (yielded ops a.tmps) = true then Oper.wp P o a w K Q else E := by
  have hw : Region.wanted o (yielded ops a.tmps) = true := by simp [Region.wanted, hgd]
  rw [if_pos hw]
  obtain ⟨v', w', hr, h2, h3, _⟩ := run_append_own (P := P) w base t o.type e i z size bytes ht hi hz hsize hby hzs hsz v n xs hown ad m c news hl hnews h1 h63 hbytes hbase
  unfold Oper.wp execOp
  simp only [ho, resolve, invoke, builtin, Sem.run_bind, Sem.run_pure, Result.andThen_ok, List.map_toArray, List.map_cons, List.map_nil, hs, hx, hr]
  exact h v' w' h2 h3
theorem ret_strT {a b : ByteArray} (h : a = b) : Ending.returned (.string a) = .returned (.string b) := by rw [h]
theorem news_at {w : World} {b off : Nat} {L : List (List UInt8)} (h : ∀ (q : Nat) p, L[q]? = some p → w.cell? ⟨b, off + q, none⟩ = some (.string ⟨p.toArray⟩)) : ∀ (j : Nat) u, (strCells L)[j]? = some u → w.cell? ((⟨b, off, none⟩ : Addr).add j) = some u := by
  intro j u hu
  unfold strCells at hu
  rw [List.getElem?_map] at hu
  cases hp : L[j]? with
  | none => rw [hp] at hu; cases hu
  | some p =>
    rw [hp] at hu
    obtain rfl := Option.some.inj hu
    have e : (⟨b, off, none⟩ : Addr).add j = ⟨b, off + j, none⟩ := by unfold Addr.add; split <;> simp_all
    rw [e]
    exact h j p hp
theorem strCells_cell (L : List (List UInt8)) : ∀ u ∈ strCells L, u.oneCell' = true := by
  intro y hy
  obtain ⟨q, _, rfl⟩ := List.mem_map.1 hy
  rfl
set_option maxRecDepth 100000 in
theorem specTabText_no (T : Tab) (a1 a2 a3 : Option Addr) (c1 c2 c3 : Nat) (w : World) (h : TabRow w T (.slice a1 T.ns.length c1) (.slice a2 T.rs.length c2) (.slice a3 T.ys.length c3)) (hyl : T.y.length ≤ 9223372036854775807) (hnl : ∀ p ∈ T.ns, p.length ≤ 9223372036854775807) (hk : Hid (okT T = false)) :
    Calls Tryz.prog 9 #[.agg #[.slice a1 T.ns.length c1, .string ⟨T.y.toArray⟩, .slice a2 T.rs.length c2, .slice a3 T.ys.length c3]] w fun e w' => e = .returned (.string ⟨#[]⟩) ∧ Below w.heap.size w w' := by
  have HO := Lib.hid (specTableOk T _ _ _ _ (h.below (bl_al w (.cells #[.slice a1 T.ns.length c1, .string ⟨T.y.toArray⟩, .slice a2 T.rs.length c2, .slice a3 T.ys.length c3] 28))) hyl hnl false hk)
  clear h hyl hnl
  go_enter Tryz.func9, Tryz.ntmps9
  go_wp2_with fail
  refine HO.out.mono ?_
  rintro e w1 ⟨rfl, hB⟩
  go_wp2_with fail
  go_ret
  exact ⟨rfl, bt (bl_al w _) hB⟩
/-- What the head of a table's text keeps: the names' and the target's cells. -/
abbrev HdS (w1 : World) (n : Nat) (u : Value) (y : List UInt8) (w' : World) : Prop := w'.cell? ⟨n, 0, none⟩ = some u ∧ w'.cell? ⟨n, 1, none⟩ = some (.string ⟨y.toArray⟩) ∧ Below w1.heap.size w1 w'
theorem HdS.of {w1 w' : World} {n : Nat} {u : Value} {y : List UInt8} (h : w1.cell? ⟨n, 0, none⟩ = some u ∧ w1.cell? ⟨n, 1, none⟩ = some (.string ⟨y.toArray⟩)) (hB : Below w1.heap.size w1 w') : HdS w1 n u y w' :=
  ⟨(hB.cell (World.block_lt_of_cell? w1 _ h.1)).trans h.1, (hB.cell (World.block_lt_of_cell? w1 _ h.2)).trans h.2, hB⟩
/-- The head is laid: the rows hold one row, of the names and the target. -/
theorem headOut {T : Tab} {w1 w9 : World} {v9 : Value} {B : Nat} (hB : Below w1.heap.size w1 w9) (ho : w9.ownsRow w1.heap.size 9 1 v9 (T.ns.length + 1) (strCells T.ns ++ [.string ⟨T.y.toArray⟩])) (hs : B ≤ w1.heap.size) :
    SSOwn (w9.alloc (.cells #[v9] 24)) B (.slice (some ⟨w9.heap.size, 0, none⟩) 1 1) (rowsTx T 0) ∧ Below w1.heap.size w1 (w9.alloc (.cells #[v9] 24)) := by
  refine ⟨⟨[v9], ?_, ?_⟩, bt hB (bl_al _ _)⟩
  · have := hB.size
    exact ⟨rfl, Or.inr ⟨w9.heap.size, 1, #[v9], rfl, by omega, heap_alloc_new w9 _, Nat.le_refl _, by unfold maxLen; omega, rfl, rfl⟩⟩
  · have hu : (w9.alloc (.cells #[v9] 24)).ownsRow B 9 1 v9 (strCells (T.ns ++ [T.y])).length (strCells (T.ns ++ [T.y])) := by
      rw [strCells_len]
      have e : strCells (T.ns ++ [T.y]) = strCells T.ns ++ [.string ⟨T.y.toArray⟩] := by simp [strCells]
      have e2 : (T.ns ++ [T.y]).length = T.ns.length + 1 := by simp
      rw [e, e2]
      exact World.ownsRow.mono (ho.alloc _) hs
    have h := (RowsOwn.nil (w9.alloc (.cells #[v9] 24)) B 9).snoc (lo := 0) hu (by simp) (fun g _ => Nat.zero_le g)
    simpa [rowsTx] using h
set_option maxRecDepth 100000 in
set_option maxHeartbeats 4000000 in
theorem specTabText_ok (T : Tab) (a1 a2 a3 : Option Addr) (c1 c2 c3 : Nat) (w : World) (h : TabRow w T (.slice a1 T.ns.length c1) (.slice a2 T.rs.length c2) (.slice a3 T.ys.length c3)) (hyl : T.y.length ≤ 9223372036854775807) (hnl : ∀ p ∈ T.ns, p.length ≤ 9223372036854775807) (hk : Hid (okT T = true)) :
    Calls Tryz.prog 9 #[.agg #[.slice a1 T.ns.length c1, .string ⟨T.y.toArray⟩, .slice a2 T.rs.length c2, .slice a3 T.ys.length c3]] w fun e w' => e = .returned (.string ⟨(csvT (rowsTx T T.rs.length)).toArray⟩) ∧ Below w.heap.size w w' := by
  obtain ⟨iS, hi, hz0, hz1, hz2⟩ := info_parts infoStr
  obtain ⟨iL, hj, hy0, hy1, hy2⟩ := info_parts infoSlS
  have HO := Lib.hid (specTableOk T _ _ _ _ (h.below (bl_al w (.cells #[.slice a1 T.ns.length c1, .string ⟨T.y.toArray⟩, .slice a2 T.rs.length c2, .slice a3 T.ys.length c3] 28))) hyl hnl true hk)
  have ho := okT_head hk.out
  have hx0 := alloc_blk w #[.slice a1 T.ns.length c1, .string ⟨T.y.toArray⟩, .slice a2 T.rs.length c2, .slice a3 T.ys.length c3] 28
  have HX := Lib.hid hx0
  have HH := Lib.hid h
  have hn4 := ho.1
  have hr40 := ho.2.2.1
  have HOK := Lib.hid ho
  have HOK2 := Lib.hid hk.out
  clear h hyl hnl ho hx0
  go_enter Tryz.func9, Tryz.ntmps9
  go_wp2_with fail
  refine HO.out.mono ?_
  rintro e w1 ⟨rfl, hB⟩
  have X1 := Lib.hid (blk_next HX.out hB)
  have B1 := Lib.hid (bt (bl_al w _) hB)
  clear hB HX HO
  obtain ⟨b1, o1, ha1, hc1⟩ : ∃ b off, a1 = some ⟨b, off, none⟩ ∧ ∀ (q : Nat) p, T.ns[q]? = some p → w1.cell? ⟨b, off + q, none⟩ = some (.string ⟨p.toArray⟩) := by
    obtain ⟨a, c, he, _, hf⟩ := sRow_cells (HH.out.1.below B1.out)
    injection he with he1 _ he3
    subst he1
    obtain ⟨b, off, ha, _⟩ := hf 0 (T.ns[0]'(by omega)) (List.getElem?_eq_getElem _)
    subst ha
    refine ⟨b, off, rfl, fun q p hq => ?_⟩
    obtain ⟨b', off', hb', hcc⟩ := hf q p hq
    injection hb' with hb'
    injection hb' with e1 e2 _
    subst e1
    subst e2
    exact hcc
  subst ha1
  have HC1 := Lib.hid hc1
  have HC0 := Lib.hid (And.intro (cell_blk X1.out 0) (cell_blk X1.out 1))
  clear hc1
  have ca0 := cell_blk X1.out 0
  have ca1 := cell_blk X1.out 1
  have la := blk_lt X1.out
  go_wp2_with fail
  have hS0 : HdS w1 w.heap.size (.slice (some ⟨b1, o1, none⟩) T.ns.length c1) T.y (World.drew w1) := HdS.of HC0.out ((Below.refl _ _).drew)
  refine wp_region_noPanic ?_
  refine wp_region_held_drew (S := (HdS w1 w.heap.size (.slice (some ⟨b1, o1, none⟩) T.ns.length c1) T.y)) (by kernel_rfl) hS0 (fun hHeld => ?_)
  clear hS0
  refine wpAnyH_take (i := 1) (oi := ?o4) (v := ?v4) ?hi4 ?hs4 ?hf4 ?hr4 ?hQ4 ?hy4 ?hS4 ?rest4
  case hi4 => rfl
  case hs4 => kernel_rfl
  case hf4 => kernel_rfl
  case hr4 => kernel_rfl
  case hQ4 => exact fun _ _ _ h => h
  case hS4 => assumption
  case hy4 =>
    refine Or.inl ⟨by kernel_rfl, ?_⟩
    intro w' hSw
    (try dsimp only at hSw)
    go_simp
    (try rfl)
  (try simp only [List.getElem_toArray, List.getElem_cons_succ, List.getElem_cons_zero, Act.put, List.setIfInBounds_toArray, List.set_cons_zero, List.set_cons_succ])
  refine wpAnyH_take (i := 2) (oi := ?o5) (v := ?v5) ?hi5 ?hs5 ?hf5 ?hr5 ?hQ5 ?hy5 ?hS5 ?rest5
  case hi5 => rfl
  case hs5 => kernel_rfl
  case hf5 => kernel_rfl
  case hr5 => kernel_rfl
  case hQ5 => exact fun _ _ _ h => h
  case hS5 => assumption
  case hy5 =>
    refine Or.inl ⟨by kernel_rfl, ?_⟩
    intro w' hSw
    (try dsimp only at hSw)
    go_simp
    (try rfl)
  (try simp only [List.getElem_toArray, List.getElem_cons_succ, List.getElem_cons_zero, Act.put, List.setIfInBounds_toArray, List.set_cons_zero, List.set_cons_succ])
  refine wpAnyH_take (i := 4) (oi := ?o6) (v := ?v6) ?hi6 ?hs6 ?hf6 ?hr6 ?hQ6 ?hy6 ?hS6 ?rest6
  case hi6 => rfl
  case hs6 => kernel_rfl
  case hf6 => kernel_rfl
  case hr6 => kernel_rfl
  case hQ6 => exact fun _ _ _ h => h
  case hS6 => assumption
  case hy6 =>
    refine Or.inl ⟨by kernel_rfl, ?_⟩
    intro w' hSw
    (try dsimp only at hSw)
    go_simp
    (try rfl)
  (try simp only [List.getElem_toArray, List.getElem_cons_succ, List.getElem_cons_zero, Act.put, List.setIfInBounds_toArray, List.set_cons_zero, List.set_cons_succ])
  refine wpAnyH_take (i := 5) (oi := ?o7) (v := ?v7) ?hi7 ?hs7 ?hf7 ?hr7 ?hQ7 ?hy7 ?hS7 ?rest7
  case hi7 => rfl
  case hs7 => kernel_rfl
  case hf7 => kernel_rfl
  case hr7 => kernel_rfl
  case hQ7 => exact fun _ _ _ h => h
  case hS7 => assumption
  case hy7 =>
    refine Or.inl ⟨by kernel_rfl, ?_⟩
    intro w' hSw
    (try dsimp only at hSw)
    go_simp
    (try rfl)
  (try simp only [List.getElem_toArray, List.getElem_cons_succ, List.getElem_cons_zero, Act.put, List.setIfInBounds_toArray, List.set_cons_zero, List.set_cons_succ])
  refine wpAnyH_ready (rs := [0, 6]) (by kernel_rfl) (by simp) ?_
  refine AllReadyH.cons rfl (fun K hK => ?_) (AllReadyH.cons rfl (fun K hK => ?_) AllReadyH.nil)
  · go_simp
    have hBa : Below w1.heap.size w1 (w1.drew.alloc (.cells #[] 9)) := ((Below.refl _ _).drew).alloc (Nat.le_refl _) _
    have hma : (w1.drew.alloc (.cells #[] 9)).ownsRow w1.heap.size 9 1 (.slice (some ⟨w1.heap.size, 0, none⟩) 0 0) 0 [] := World.ownsRow_made w1.drew #[] 0 (Nat.le_refl _) (by unfold maxLen; omega) (by simp)
    refine hK.out _ _ (HdS.of HC0.out (hBa)) (fun hHeld => ?_)
    clear hK K
    (try simp only [List.getElem_toArray, List.getElem_cons_succ, List.getElem_cons_zero, Act.put, List.setIfInBounds_toArray, List.set_cons_zero, List.set_cons_succ])
    refine wpAnyH_ready (rs := [3, 6]) (by kernel_rfl) (by simp) ?_
    refine AllReadyH.cons rfl (fun K hK => ?_) (AllReadyH.cons rfl (fun K hK => ?_) AllReadyH.nil)
    · refine step_append_t rfl (.tmp 10) (.tmp 12) 24 rfl w1.heap.size 9 iS (.string ByteArray.empty) 1 16 Tryz.underlying24 hi hz0 hz1 hz2 rfl (by decide) (.slice (some ⟨w1.heap.size, 0, none⟩) 0 0) 0 [] (by simp [Act.eval]) (hma) ⟨b1, o1, none⟩ T.ns.length c1 (strCells T.ns) (by simp [Act.eval]) (by rw [strCells_len]; omega) (news_at (fun q p hq => ((hBa).cell (World.block_lt_of_cell? w1 _ (HC1.out q p hq))).trans (HC1.out q p hq))) (strCells_cell _) (by unfold maxLen; omega) (by omega) (hBa).size ?_
      intro v8 w8 hown8 hg8
      rw [Nat.zero_add, List.nil_append] at hown8
      have hB8 : Below w1.heap.size w1 w8 := hBa.grown hg8 hBa.size (fun x hx => (hma.lt x hx).1)
      refine hK.out _ _ (HdS.of HC0.out (hB8)) (fun hHeld => ?_)
      clear hK K
      (try simp only [List.getElem_toArray, List.getElem_cons_succ, List.getElem_cons_zero, Act.put, List.setIfInBounds_toArray, List.set_cons_zero, List.set_cons_succ])
      refine wpAnyH_ready (rs := [6]) (by kernel_rfl) (by simp) ?_
      refine AllReadyH.cons rfl (fun K hK => ?_) AllReadyH.nil
      go_simp
      have hownz8 := hown8.alloc (.cells #[.string ⟨T.y.toArray⟩] 9)
      have hBy := bt hB8 (bl_al w8 (.cells #[.string ⟨T.y.toArray⟩] 9))
      have hyc := cell_blk (alloc_blk w8 #[.string ⟨T.y.toArray⟩] 9) 0
      refine hK.out _ _ (HdS.of HC0.out (hBy)) (fun hHeld => ?_)
      clear hK K
      (try simp only [List.getElem_toArray, List.getElem_cons_succ, List.getElem_cons_zero, Act.put, List.setIfInBounds_toArray, List.set_cons_zero, List.set_cons_succ])
      refine wpAnyH_ready (rs := [7]) (by kernel_rfl) (by simp) ?_
      refine AllReadyH.cons rfl (fun K hK => ?_) AllReadyH.nil
      refine step_append_t rfl (.tmp 13) (.tmp 16) 24 rfl w1.heap.size 9 iS (.string ByteArray.empty) 1 16 Tryz.underlying24 hi hz0 hz1 hz2 rfl (by decide) v8 _ _ (by simp [Act.eval]) (hownz8) ⟨w8.heap.size, 0, none⟩ 1 1 [.string ⟨T.y.toArray⟩] (by simp [Act.eval]) rfl (by intro j x hx; cases j with | zero => (simp only [List.getElem?_cons_zero, Option.some.injEq] at hx; subst hx; exact hyc) | succ j => simp at hx) (by intro y hy; simp at hy; subst hy; rfl) (by unfold maxLen; omega) (by omega) (hBy).size ?_
      intro v9 w9 hown9 hg9
      have hB9 : Below w1.heap.size w1 w9 := (hBy).grown hg9 (hBy).size (fun x hx => (hownz8.lt x hx).1)
      obtain ⟨va, vc, rfl⟩ := owns_form hown9
      refine hK.out _ _ (HdS.of HC0.out (hB9)) (fun hHeld => ?_)
      clear hK K
      (try simp only [List.getElem_toArray, List.getElem_cons_succ, List.getElem_cons_zero, Act.put, List.setIfInBounds_toArray, List.set_cons_zero, List.set_cons_succ])
      refine wpAnyH_ready (rs := [8]) (by kernel_rfl) (by simp) ?_
      refine AllReadyH.cons rfl (fun K hK => ?_) AllReadyH.nil
      go_simp
      have hO9 := headOut (T := T) hB9 hown9 B1.out.size
      refine hK.out _ _ (HdS.of HC0.out (bt hB9 (bl_al _ _))) (fun hHeld => ?_)
      clear hK K
      (try simp only [List.getElem_toArray, List.getElem_cons_succ, List.getElem_cons_zero, Act.put, List.setIfInBounds_toArray, List.set_cons_zero, List.set_cons_succ])
      refine wpAnyH_take (i := 9) (oi := ?o1) (v := ?v1) ?hi1 ?hs1 ?hf1 ?hr1 ?hQ1 ?hy1 ?hS1 ?rest1
      case hi1 => rfl
      case hs1 => kernel_rfl
      case hf1 => kernel_rfl
      case hr1 => kernel_rfl
      case hQ1 => exact fun _ _ _ h => h
      case hS1 => assumption
      case hy1 =>
        refine Or.inl ⟨by kernel_rfl, ?_⟩
        intro w' hSw
        (try dsimp only at hSw)
        go_simp
        (try rfl)
      (try simp only [List.getElem_toArray, List.getElem_cons_succ, List.getElem_cons_zero, Act.put, List.setIfInBounds_toArray, List.set_cons_zero, List.set_cons_succ])
      refine wpAnyH_done (by kernel_rfl) ?_ _
      refine NoPanic.normal ?_
      obtain ⟨wz, hwz⟩ : ∃ wz, w9.alloc (.cells #[.slice va (T.ns.length + 1) vc] 24) = wz := ⟨_, rfl⟩
      obtain ⟨zb, hzb⟩ : ∃ zb, w9.heap.size = zb := ⟨_, rfl⟩
      rw [hwz] at hO9 ⊢
      rw [hzb] at hO9
      have HOT := Lib.hid hO9
      clear hO9 hB9 hown9 hg9
      rw [hzb] at ⊢
      have HS : Hid (OutT w wz #[.slice (some ⟨b1, o1, none⟩) T.ns.length c1, .string ⟨T.y.toArray⟩, .slice a2 T.rs.length c2, .slice a3 T.ys.length c3] (.slice (some ⟨zb, 0, none⟩) 1 1) (rowsTx T 0)) := Lib.hid ⟨bt B1.out HOT.out.2, blk_next X1.out HOT.out.2, HOT.out.1⟩
      have HII := Lib.hid HH.out.2.1
      have HIY := Lib.hid HH.out.2.2
      clear hwz hzb HOT
      go_wp2_with fail
      go_loopg [3, 4, 5, 6] T.rs.length (fun g v_ i_ _ _ wr => ∃ (i : Nat) (vo : Value), i ≤ T.rs.length ∧ g = T.rs.length - i ∧ i_ = .int .i64 i ∧ vo = v_ ∧ OutT w wr #[.slice (some ⟨b1, o1, none⟩) T.ns.length c1, .string ⟨T.y.toArray⟩, .slice a2 T.rs.length c2, .slice a3 T.ys.length c3] vo (rowsTx T i))
      case atStart => exact ⟨0, _, Nat.zero_le _, rfl, rfl, rfl, HS.out⟩
      case round =>
        clear HS
        obtain ⟨i, vo, hii, rfl, rfl, rfl, hO⟩ := hrel
        have HO := Lib.hid hO
        clear hO
        have ca2 := cell_blk HO.out.cell 2
        have la := blk_lt HO.out.cell
        by_cases hlt : i < T.rs.length
        · have hi1 : (i : Int) < T.rs.length := by omega
          have hi0 : (0 : Int) ≤ i := by omega
          obtain ⟨r, hr⟩ : ∃ r, T.rs[i]? = some r := ⟨_, List.getElem?_eq_getElem hlt⟩
          obtain ⟨y, hy⟩ : ∃ y, T.ys[i]? = some y := ⟨_, List.getElem?_eq_getElem (by rw [HOK.out.2.2.2.1]; exact hlt)⟩
          have hrow := HOK.out.2.2.2.2.2.2 i hlt
          rw [getD_at hr, getD_at hy] at hrow
          have HRW := Lib.hid hrow
          clear hrow
          have hm4 : r.length ≤ 4 := by rw [HRW.out.1]; exact hn4.2
          have hm1 : 1 ≤ r.length := by rw [HRW.out.1]; exact hn4.1
          obtain ⟨ag, cg, he2, _, hfg⟩ := iiRow_cells HII.out
          injection he2 with he21 _ he23
          subst he21
          subst he23
          obtain ⟨b2, o2, u, rfl, hcu0, hur0⟩ := hfg i r hr
          obtain ⟨ar, cr, rfl, _, hfr⟩ := intRow_form hur0
          obtain ⟨b4, o4, har4, _⟩ := hfr 0 _ (List.getElem?_eq_getElem (show 0 < r.length by omega))
          subst har4
          obtain ⟨a9, c9, he3, _, hfy⟩ := intRow_form HIY.out
          injection he3 with he31 _ he33
          subst he31
          subst he33
          obtain ⟨b3, o3, rfl, hcy0⟩ := hfy i y hy
          have HFR := Lib.hid hfr
          have HCU := Lib.hid hcu0
          have HYV := Lib.hid hcy0
          have HRS := Lib.hid (show rowsTx T (i + 1) = rowsTx T i ++ [rowTx r y] by rw [rowsTx_succ, getD_at hr, getD_at hy])
          have hcu := (HO.out.below.cell (p := ⟨b2, o2 + i, none⟩) (World.block_lt_of_cell? w _ hcu0)).trans hcu0
          have hlu := World.block_lt_of_cell? wr _ hcu
          obtain ⟨ao, co, hvo⟩ : ∃ a c, vo = .slice a (rowsTx T i).length c := by
            obtain ⟨vs, ho, _⟩ := HO.out.out
            exact owns_form ho
          subst hvo
          have hrl := rowsTx_length T i
          obtain ⟨lo0, hC0⟩ : ∃ lo0, TtSt w (wr.alloc (.cells #[] 9)) #[.slice (some ⟨b1, o1, none⟩) T.ns.length c1, .string ⟨T.y.toArray⟩, .slice (some ⟨b2, o2, none⟩) T.rs.length c2, .slice (some ⟨b3, o3, none⟩) T.ys.length c3] lo0 (.slice ao (rowsTx T i).length co) (.slice (some ⟨wr.heap.size, 0, none⟩) 0 0) (rowsTx T i) [] := ⟨_, HO.out.start⟩
          have HC0 := Lib.hid hC0
          clear hC0 HO hcu0 hur0 hfr hfy hfg hr hy hcy0
          go_wp2_with fail
          go_loopg [5, 6] r.length (fun g v_ k_ wi => ∃ (k : Nat) (vr : Value), k ≤ r.length ∧ g = r.length - k ∧ k_ = .int .i64 k ∧ vr = v_ ∧ TtSt w wi #[.slice (some ⟨b1, o1, none⟩) T.ns.length c1, .string ⟨T.y.toArray⟩, .slice (some ⟨b2, o2, none⟩) T.rs.length c2, .slice (some ⟨b3, o3, none⟩) T.ys.length c3] lo0 (.slice ao (rowsTx T i).length co) vr (rowsTx T i) ((r.map fixT).take k))
          case atStart => exact ⟨0, _, Nat.zero_le _, rfl, rfl, rfl, HC0.out⟩
          case round =>
            clear HC0
            obtain ⟨k, vr, hkr, rfl, rfl, rfl, hC⟩ := hrel
            have HCC := Lib.hid hC
            clear hC
            have ca2 := cell_blk HCC.out.cell 2
            have ca3 := cell_blk HCC.out.cell 3
            have la := blk_lt HCC.out.cell
            have hcu := (HCC.out.below.cell (p := ⟨b2, o2 + i, none⟩) (World.block_lt_of_cell? w _ HCU.out)).trans HCU.out
            have hlu := World.block_lt_of_cell? wr _ hcu
            by_cases hk1 : k < r.length
            · have hk1i : (k : Int) < r.length := by omega
              have hk0i : (0 : Int) ≤ k := by omega
              obtain ⟨x, hx⟩ : ∃ x, r[k]? = some x := ⟨_, List.getElem?_eq_getElem hk1⟩
              have hxb := valB_iff.1 (List.all_eq_true.1 HRW.out.2.2 x (List.mem_of_getElem? hx))
              obtain ⟨bq, oq, hbq, hcx0⟩ := HFR.out k x hx
              injection hbq with hbq
              injection hbq with hbq1 hbq2 _
              subst hbq1
              subst hbq2
              have hcx := (HCC.out.below.cell (p := ⟨b4, o4 + k, none⟩) (World.block_lt_of_cell? w _ hcx0)).trans hcx0
              have hlx := World.block_lt_of_cell? wr _ hcx
              have HTK := Lib.hid (show (r.map fixT).take (k + 1) = (r.map fixT).take k ++ [fixT x] by rw [List.take_add_one]; simp [hx])
              have htl : ((r.map fixT).take k).length = k := by simp; omega
              clear hcx0 hx
              go_wp2_with fail
              refine (specFixText x (by omega) (by omega) _).mono ?_
              rintro e w2 ⟨rfl, hB2⟩
              have HCN := Lib.hid (HCC.out.next hB2)
              have hcu2 := (hB2.cell (p := ⟨b2, o2 + i, none⟩) hlu).trans hcu
              clear hB2 HCC hcu hcx ca2 ca3
              go_wp2_with (at_builtin; refine wpList_append_own _ rfl _ _ 24 rfl lo0 9 iS (.string ByteArray.empty) 1 16 Tryz.underlying24 hi hz0 hz1 hz2 rfl (by decide) _ _ _ rfl (HCN.out.row.alloc _) ⟨w2.heap.size, 0, none⟩ 1 1 [.string ⟨(fixT x).toArray⟩] rfl rfl ?p1 ?q1 ?r1 ?s1 ?t1 ?_)
              try (case p1 => exact news_one)
              case q1 => first | (intro u hu; simp at hu; subst hu; rfl) | rfl
              case r1 => unfold maxLen; omega
              case s1 => omega
              case t1 => have := HCN.out.hi; simp; omega
              intro v3 w3 hown3 hg3 _
              have HC3 := Lib.hid ((HCN.out.next ((Below.refl _ _).alloc (Nat.le_refl _) (.cells #[.string ⟨(fixT x).toArray⟩] 9))).app (f := fixT x) hg3 (by rw [htl]; exact hown3))
              clear hown3 hg3 HCN
              go_wp2_with fail
              go_roundg (r.length - (k + 1))
              case measure => omega
              case rel => exact ⟨k + 1, v3, by omega, rfl, rfl, rfl, by rw [HTK.out]; exact HC3.out⟩
            · have hk2 : ¬ (k : Int) < r.length := by omega
              have HTK := Lib.hid (show (r.map fixT).take k = r.map fixT by rw [List.take_of_length_le]; simp; omega)
              have HEN := Lib.hid (show TtSt w wr #[.slice (some ⟨b1, o1, none⟩) T.ns.length c1, .string ⟨T.y.toArray⟩, .slice (some ⟨b2, o2, none⟩) T.rs.length c2, .slice (some ⟨b3, o3, none⟩) T.ys.length c3] lo0 (.slice ao (rowsTx T i).length co) vr (rowsTx T i) (r.map fixT) by rw [← HTK.out]; exact HCC.out)
              have hyb := valB_iff.1 HRW.out.2.1
              have hml : (r.map fixT).length = r.length := List.length_map _
              have hcy := (HEN.out.below.cell (p := ⟨b3, o3 + i, none⟩) (World.block_lt_of_cell? w _ HYV.out)).trans HYV.out
              have hly := World.block_lt_of_cell? wr _ hcy
              have hyi : i < T.ys.length := by rw [HOK.out.2.2.2.1]; exact hlt
              have hyi1 : (i : Int) < T.ys.length := by omega
              clear HTK HCC
              go_wp2_with fail
              refine (specFixText y (by omega) (by omega) _).mono ?_
              rintro e w2 ⟨rfl, hB2⟩
              have HCN := Lib.hid (HEN.out.next hB2)
              clear hB2 HEN hcu hcy ca2 ca3
              go_wp2_with (at_builtin; refine wpList_append_own _ rfl _ _ 24 rfl lo0 9 iS (.string ByteArray.empty) 1 16 Tryz.underlying24 hi hz0 hz1 hz2 rfl (by decide) _ _ _ rfl (HCN.out.row.alloc _) ⟨w2.heap.size, 0, none⟩ 1 1 [.string ⟨(fixT y).toArray⟩] rfl rfl ?p2 ?q2 ?r2 ?s2 ?t2 ?_)
              try (case p2 => exact news_one)
              case q2 => first | (intro u hu; simp at hu; subst hu; rfl) | rfl
              case r2 => unfold maxLen; omega
              case s2 => omega
              case t2 => have := HCN.out.hi; simp; omega
              intro v3 w3 hown3 hg3 _
              have HC3 := Lib.hid ((HCN.out.next ((Below.refl _ _).alloc (Nat.le_refl _) (.cells #[.string ⟨(fixT y).toArray⟩] 9))).app (f := fixT y) hg3 (by rw [hml]; exact hown3))
              clear hown3 hg3 HCN
              obtain ⟨av, cv, hv3⟩ := owns_form HC3.out.row
              rw [show (r.map fixT ++ [fixT y]).length = r.length + 1 by simp] at hv3
              subst hv3
              obtain ⟨vs, hvo, hvr, hvl⟩ := HC3.out.out
              have hvo1 := hvo
              rw [hrl] at hvo1
              go_wp2_with (at_builtin; refine wpList_append_own _ rfl _ _ 49 rfl w.heap.size 24 iL (.slice none 0 0) 1 24 Tryz.underlying49 hj hy0 hy1 hy2 rfl (by decide) _ _ _ rfl (hvo1.alloc _) ⟨w3.heap.size, 0, none⟩ 1 1 [.slice av (r.length + 1) cv] rfl rfl ?p3 ?q3 ?r3 ?s3 ?t3 ?_)
              try (case p3 => exact news_one)
              case q3 => first | (intro u hu; simp at hu; subst hu; rfl) | rfl
              case r3 => unfold maxLen; omega
              case s3 => omega
              case t3 => have := HC3.out.below.size; simp; omega
              intro v4 w4 hown4 hg4 _
              have hAl : Below w3.heap.size w3 (w3.alloc (.cells #[.slice av (r.length + 1) cv] 24)) := (Below.refl _ _).alloc (Nat.le_refl _) _
              have HO := Lib.hid ((HC3.out.next hAl).push (hvo.alloc _) (hvr.below hAl) hvl (by rw [hrl]; exact hg4) (by rw [hrl]; exact hown4))
              clear hown4 hg4 hAl HC3 hvo hvo1 hvr hvl
              go_wp2_with fail
              go_roundg (T.rs.length - (i + 1))
              case measure => omega
              case rel => exact ⟨i + 1, v4, by omega, rfl, rfl, rfl, by rw [HRS.out]; exact HO.out⟩
        · have hin : i = T.rs.length := by omega
          subst hin
          have hlt2 : ¬ ((T.rs.length : Int) < T.rs.length) := by omega
          have hall := rowsTx_all HOK2.out (Nat.le_refl _)
          have hlen := tabT_len HOK2.out
          have hrl := rowsTx_length T T.rs.length
          have HCR := Lib.hid (HO.out.out.row (by omega) (fun row hrw => by have := (hall row hrw).1; omega))
          have HAL : Hid (∀ r ∈ rowsTx T T.rs.length, ∀ p ∈ r, p.length ≤ 1099511627776) := Lib.hid (fun r hr p hp => by have := (hall r hr).2 p hp; omega)
          clear hall
          go_wp2_with fail
          refine (specCsvText wr vo (rowsTx T T.rs.length) HCR.out (by omega) HAL.out).mono ?_
          rintro e w2 ⟨rfl, hB2⟩
          go_wp2_with fail
          go_ret
          exact ⟨rfl, HO.out.below.trans (hB2.mono HO.out.below.size)⟩
    · go_simp
      have hBy := bt hBa (bl_al (w1.drew.alloc (.cells #[] 9)) (.cells #[.string ⟨T.y.toArray⟩] 9))
      have hmy := hma.alloc (.cells #[.string ⟨T.y.toArray⟩] 9)
      have hyb := alloc_blk (w1.drew.alloc (.cells #[] 9)) #[.string ⟨T.y.toArray⟩] 9
      have hys : (w1.drew.alloc (.cells #[] 9)).heap.size = w1.heap.size + 1 := by simp
      rw [hys] at hyb
      refine hK.out _ _ (HdS.of HC0.out (hBy)) (fun hHeld => ?_)
      clear hK K
      (try simp only [List.getElem_toArray, List.getElem_cons_succ, List.getElem_cons_zero, Act.put, List.setIfInBounds_toArray, List.set_cons_zero, List.set_cons_succ])
      refine wpAnyH_ready (rs := [3]) (by kernel_rfl) (by simp) ?_
      refine AllReadyH.cons rfl (fun K hK => ?_) AllReadyH.nil
      refine step_append_t rfl (.tmp 10) (.tmp 12) 24 rfl w1.heap.size 9 iS (.string ByteArray.empty) 1 16 Tryz.underlying24 hi hz0 hz1 hz2 rfl (by decide) (.slice (some ⟨w1.heap.size, 0, none⟩) 0 0) 0 [] (by simp [Act.eval]) (hmy) ⟨b1, o1, none⟩ T.ns.length c1 (strCells T.ns) (by simp [Act.eval]) (by rw [strCells_len]; omega) (news_at (fun q p hq => ((hBy).cell (World.block_lt_of_cell? w1 _ (HC1.out q p hq))).trans (HC1.out q p hq))) (strCells_cell _) (by unfold maxLen; omega) (by omega) (hBy).size ?_
      intro v8 w8 hown8 hg8
      rw [Nat.zero_add, List.nil_append] at hown8
      have hB8 : Below w1.heap.size w1 w8 := hBy.grown hg8 hBy.size (fun x hx => (hmy.lt x hx).1)
      have hownz8 := hown8
      have hyc := cell_blk ((hg8.block _ (blk_lt hyb) (by simp [Value.ownBlock])).trans hyb) 0
      refine hK.out _ _ (HdS.of HC0.out (hB8)) (fun hHeld => ?_)
      clear hK K
      (try simp only [List.getElem_toArray, List.getElem_cons_succ, List.getElem_cons_zero, Act.put, List.setIfInBounds_toArray, List.set_cons_zero, List.set_cons_succ])
      refine wpAnyH_ready (rs := [7]) (by kernel_rfl) (by simp) ?_
      refine AllReadyH.cons rfl (fun K hK => ?_) AllReadyH.nil
      refine step_append_t rfl (.tmp 13) (.tmp 16) 24 rfl w1.heap.size 9 iS (.string ByteArray.empty) 1 16 Tryz.underlying24 hi hz0 hz1 hz2 rfl (by decide) v8 _ _ (by simp [Act.eval]) (hownz8) ⟨(w1.heap.size + 1), 0, none⟩ 1 1 [.string ⟨T.y.toArray⟩] (by simp [Act.eval]) rfl (by intro j x hx; cases j with | zero => (simp only [List.getElem?_cons_zero, Option.some.injEq] at hx; subst hx; exact hyc) | succ j => simp at hx) (by intro y hy; simp at hy; subst hy; rfl) (by unfold maxLen; omega) (by omega) (hB8).size ?_
      intro v9 w9 hown9 hg9
      have hB9 : Below w1.heap.size w1 w9 := (hB8).grown hg9 (hB8).size (fun x hx => (hownz8.lt x hx).1)
      obtain ⟨va, vc, rfl⟩ := owns_form hown9
      refine hK.out _ _ (HdS.of HC0.out (hB9)) (fun hHeld => ?_)
      clear hK K
      (try simp only [List.getElem_toArray, List.getElem_cons_succ, List.getElem_cons_zero, Act.put, List.setIfInBounds_toArray, List.set_cons_zero, List.set_cons_succ])
      refine wpAnyH_ready (rs := [8]) (by kernel_rfl) (by simp) ?_
      refine AllReadyH.cons rfl (fun K hK => ?_) AllReadyH.nil
      go_simp
      have hO9 := headOut (T := T) hB9 hown9 B1.out.size
      refine hK.out _ _ (HdS.of HC0.out (bt hB9 (bl_al _ _))) (fun hHeld => ?_)
      clear hK K
      (try simp only [List.getElem_toArray, List.getElem_cons_succ, List.getElem_cons_zero, Act.put, List.setIfInBounds_toArray, List.set_cons_zero, List.set_cons_succ])
      refine wpAnyH_take (i := 9) (oi := ?o2) (v := ?v2) ?hi2 ?hs2 ?hf2 ?hr2 ?hQ2 ?hy2 ?hS2 ?rest2
      case hi2 => rfl
      case hs2 => kernel_rfl
      case hf2 => kernel_rfl
      case hr2 => kernel_rfl
      case hQ2 => exact fun _ _ _ h => h
      case hS2 => assumption
      case hy2 =>
        refine Or.inl ⟨by kernel_rfl, ?_⟩
        intro w' hSw
        (try dsimp only at hSw)
        go_simp
        (try rfl)
      (try simp only [List.getElem_toArray, List.getElem_cons_succ, List.getElem_cons_zero, Act.put, List.setIfInBounds_toArray, List.set_cons_zero, List.set_cons_succ])
      refine wpAnyH_done (by kernel_rfl) ?_ _
      refine NoPanic.normal ?_
      obtain ⟨wz, hwz⟩ : ∃ wz, w9.alloc (.cells #[.slice va (T.ns.length + 1) vc] 24) = wz := ⟨_, rfl⟩
      obtain ⟨zb, hzb⟩ : ∃ zb, w9.heap.size = zb := ⟨_, rfl⟩
      rw [hwz] at hO9 ⊢
      rw [hzb] at hO9
      have HOT := Lib.hid hO9
      clear hO9 hB9 hown9 hg9
      rw [hzb] at ⊢
      have HS : Hid (OutT w wz #[.slice (some ⟨b1, o1, none⟩) T.ns.length c1, .string ⟨T.y.toArray⟩, .slice a2 T.rs.length c2, .slice a3 T.ys.length c3] (.slice (some ⟨zb, 0, none⟩) 1 1) (rowsTx T 0)) := Lib.hid ⟨bt B1.out HOT.out.2, blk_next X1.out HOT.out.2, HOT.out.1⟩
      have HII := Lib.hid HH.out.2.1
      have HIY := Lib.hid HH.out.2.2
      clear hwz hzb HOT
      go_wp2_with fail
      go_loopg [3, 4, 5, 6] T.rs.length (fun g v_ i_ _ _ wr => ∃ (i : Nat) (vo : Value), i ≤ T.rs.length ∧ g = T.rs.length - i ∧ i_ = .int .i64 i ∧ vo = v_ ∧ OutT w wr #[.slice (some ⟨b1, o1, none⟩) T.ns.length c1, .string ⟨T.y.toArray⟩, .slice a2 T.rs.length c2, .slice a3 T.ys.length c3] vo (rowsTx T i))
      case atStart => exact ⟨0, _, Nat.zero_le _, rfl, rfl, rfl, HS.out⟩
      case round =>
        clear HS
        obtain ⟨i, vo, hii, rfl, rfl, rfl, hO⟩ := hrel
        have HO := Lib.hid hO
        clear hO
        have ca2 := cell_blk HO.out.cell 2
        have la := blk_lt HO.out.cell
        by_cases hlt : i < T.rs.length
        · have hi1 : (i : Int) < T.rs.length := by omega
          have hi0 : (0 : Int) ≤ i := by omega
          obtain ⟨r, hr⟩ : ∃ r, T.rs[i]? = some r := ⟨_, List.getElem?_eq_getElem hlt⟩
          obtain ⟨y, hy⟩ : ∃ y, T.ys[i]? = some y := ⟨_, List.getElem?_eq_getElem (by rw [HOK.out.2.2.2.1]; exact hlt)⟩
          have hrow := HOK.out.2.2.2.2.2.2 i hlt
          rw [getD_at hr, getD_at hy] at hrow
          have HRW := Lib.hid hrow
          clear hrow
          have hm4 : r.length ≤ 4 := by rw [HRW.out.1]; exact hn4.2
          have hm1 : 1 ≤ r.length := by rw [HRW.out.1]; exact hn4.1
          obtain ⟨ag, cg, he2, _, hfg⟩ := iiRow_cells HII.out
          injection he2 with he21 _ he23
          subst he21
          subst he23
          obtain ⟨b2, o2, u, rfl, hcu0, hur0⟩ := hfg i r hr
          obtain ⟨ar, cr, rfl, _, hfr⟩ := intRow_form hur0
          obtain ⟨b4, o4, har4, _⟩ := hfr 0 _ (List.getElem?_eq_getElem (show 0 < r.length by omega))
          subst har4
          obtain ⟨a9, c9, he3, _, hfy⟩ := intRow_form HIY.out
          injection he3 with he31 _ he33
          subst he31
          subst he33
          obtain ⟨b3, o3, rfl, hcy0⟩ := hfy i y hy
          have HFR := Lib.hid hfr
          have HCU := Lib.hid hcu0
          have HYV := Lib.hid hcy0
          have HRS := Lib.hid (show rowsTx T (i + 1) = rowsTx T i ++ [rowTx r y] by rw [rowsTx_succ, getD_at hr, getD_at hy])
          have hcu := (HO.out.below.cell (p := ⟨b2, o2 + i, none⟩) (World.block_lt_of_cell? w _ hcu0)).trans hcu0
          have hlu := World.block_lt_of_cell? wr _ hcu
          obtain ⟨ao, co, hvo⟩ : ∃ a c, vo = .slice a (rowsTx T i).length c := by
            obtain ⟨vs, ho, _⟩ := HO.out.out
            exact owns_form ho
          subst hvo
          have hrl := rowsTx_length T i
          obtain ⟨lo0, hC0⟩ : ∃ lo0, TtSt w (wr.alloc (.cells #[] 9)) #[.slice (some ⟨b1, o1, none⟩) T.ns.length c1, .string ⟨T.y.toArray⟩, .slice (some ⟨b2, o2, none⟩) T.rs.length c2, .slice (some ⟨b3, o3, none⟩) T.ys.length c3] lo0 (.slice ao (rowsTx T i).length co) (.slice (some ⟨wr.heap.size, 0, none⟩) 0 0) (rowsTx T i) [] := ⟨_, HO.out.start⟩
          have HC0 := Lib.hid hC0
          clear hC0 HO hcu0 hur0 hfr hfy hfg hr hy hcy0
          go_wp2_with fail
          go_loopg [5, 6] r.length (fun g v_ k_ wi => ∃ (k : Nat) (vr : Value), k ≤ r.length ∧ g = r.length - k ∧ k_ = .int .i64 k ∧ vr = v_ ∧ TtSt w wi #[.slice (some ⟨b1, o1, none⟩) T.ns.length c1, .string ⟨T.y.toArray⟩, .slice (some ⟨b2, o2, none⟩) T.rs.length c2, .slice (some ⟨b3, o3, none⟩) T.ys.length c3] lo0 (.slice ao (rowsTx T i).length co) vr (rowsTx T i) ((r.map fixT).take k))
          case atStart => exact ⟨0, _, Nat.zero_le _, rfl, rfl, rfl, HC0.out⟩
          case round =>
            clear HC0
            obtain ⟨k, vr, hkr, rfl, rfl, rfl, hC⟩ := hrel
            have HCC := Lib.hid hC
            clear hC
            have ca2 := cell_blk HCC.out.cell 2
            have ca3 := cell_blk HCC.out.cell 3
            have la := blk_lt HCC.out.cell
            have hcu := (HCC.out.below.cell (p := ⟨b2, o2 + i, none⟩) (World.block_lt_of_cell? w _ HCU.out)).trans HCU.out
            have hlu := World.block_lt_of_cell? wr _ hcu
            by_cases hk1 : k < r.length
            · have hk1i : (k : Int) < r.length := by omega
              have hk0i : (0 : Int) ≤ k := by omega
              obtain ⟨x, hx⟩ : ∃ x, r[k]? = some x := ⟨_, List.getElem?_eq_getElem hk1⟩
              have hxb := valB_iff.1 (List.all_eq_true.1 HRW.out.2.2 x (List.mem_of_getElem? hx))
              obtain ⟨bq, oq, hbq, hcx0⟩ := HFR.out k x hx
              injection hbq with hbq
              injection hbq with hbq1 hbq2 _
              subst hbq1
              subst hbq2
              have hcx := (HCC.out.below.cell (p := ⟨b4, o4 + k, none⟩) (World.block_lt_of_cell? w _ hcx0)).trans hcx0
              have hlx := World.block_lt_of_cell? wr _ hcx
              have HTK := Lib.hid (show (r.map fixT).take (k + 1) = (r.map fixT).take k ++ [fixT x] by rw [List.take_add_one]; simp [hx])
              have htl : ((r.map fixT).take k).length = k := by simp; omega
              clear hcx0 hx
              go_wp2_with fail
              refine (specFixText x (by omega) (by omega) _).mono ?_
              rintro e w2 ⟨rfl, hB2⟩
              have HCN := Lib.hid (HCC.out.next hB2)
              have hcu2 := (hB2.cell (p := ⟨b2, o2 + i, none⟩) hlu).trans hcu
              clear hB2 HCC hcu hcx ca2 ca3
              go_wp2_with (at_builtin; refine wpList_append_own _ rfl _ _ 24 rfl lo0 9 iS (.string ByteArray.empty) 1 16 Tryz.underlying24 hi hz0 hz1 hz2 rfl (by decide) _ _ _ rfl (HCN.out.row.alloc _) ⟨w2.heap.size, 0, none⟩ 1 1 [.string ⟨(fixT x).toArray⟩] rfl rfl ?p1 ?q1 ?r1 ?s1 ?t1 ?_)
              try (case p1 => exact news_one)
              case q1 => first | (intro u hu; simp at hu; subst hu; rfl) | rfl
              case r1 => unfold maxLen; omega
              case s1 => omega
              case t1 => have := HCN.out.hi; simp; omega
              intro v3 w3 hown3 hg3 _
              have HC3 := Lib.hid ((HCN.out.next ((Below.refl _ _).alloc (Nat.le_refl _) (.cells #[.string ⟨(fixT x).toArray⟩] 9))).app (f := fixT x) hg3 (by rw [htl]; exact hown3))
              clear hown3 hg3 HCN
              go_wp2_with fail
              go_roundg (r.length - (k + 1))
              case measure => omega
              case rel => exact ⟨k + 1, v3, by omega, rfl, rfl, rfl, by rw [HTK.out]; exact HC3.out⟩
            · have hk2 : ¬ (k : Int) < r.length := by omega
              have HTK := Lib.hid (show (r.map fixT).take k = r.map fixT by rw [List.take_of_length_le]; simp; omega)
              have HEN := Lib.hid (show TtSt w wr #[.slice (some ⟨b1, o1, none⟩) T.ns.length c1, .string ⟨T.y.toArray⟩, .slice (some ⟨b2, o2, none⟩) T.rs.length c2, .slice (some ⟨b3, o3, none⟩) T.ys.length c3] lo0 (.slice ao (rowsTx T i).length co) vr (rowsTx T i) (r.map fixT) by rw [← HTK.out]; exact HCC.out)
              have hyb := valB_iff.1 HRW.out.2.1
              have hml : (r.map fixT).length = r.length := List.length_map _
              have hcy := (HEN.out.below.cell (p := ⟨b3, o3 + i, none⟩) (World.block_lt_of_cell? w _ HYV.out)).trans HYV.out
              have hly := World.block_lt_of_cell? wr _ hcy
              have hyi : i < T.ys.length := by rw [HOK.out.2.2.2.1]; exact hlt
              have hyi1 : (i : Int) < T.ys.length := by omega
              clear HTK HCC
              go_wp2_with fail
              refine (specFixText y (by omega) (by omega) _).mono ?_
              rintro e w2 ⟨rfl, hB2⟩
              have HCN := Lib.hid (HEN.out.next hB2)
              clear hB2 HEN hcu hcy ca2 ca3
              go_wp2_with (at_builtin; refine wpList_append_own _ rfl _ _ 24 rfl lo0 9 iS (.string ByteArray.empty) 1 16 Tryz.underlying24 hi hz0 hz1 hz2 rfl (by decide) _ _ _ rfl (HCN.out.row.alloc _) ⟨w2.heap.size, 0, none⟩ 1 1 [.string ⟨(fixT y).toArray⟩] rfl rfl ?p2 ?q2 ?r2 ?s2 ?t2 ?_)
              try (case p2 => exact news_one)
              case q2 => first | (intro u hu; simp at hu; subst hu; rfl) | rfl
              case r2 => unfold maxLen; omega
              case s2 => omega
              case t2 => have := HCN.out.hi; simp; omega
              intro v3 w3 hown3 hg3 _
              have HC3 := Lib.hid ((HCN.out.next ((Below.refl _ _).alloc (Nat.le_refl _) (.cells #[.string ⟨(fixT y).toArray⟩] 9))).app (f := fixT y) hg3 (by rw [hml]; exact hown3))
              clear hown3 hg3 HCN
              obtain ⟨av, cv, hv3⟩ := owns_form HC3.out.row
              rw [show (r.map fixT ++ [fixT y]).length = r.length + 1 by simp] at hv3
              subst hv3
              obtain ⟨vs, hvo, hvr, hvl⟩ := HC3.out.out
              have hvo1 := hvo
              rw [hrl] at hvo1
              go_wp2_with (at_builtin; refine wpList_append_own _ rfl _ _ 49 rfl w.heap.size 24 iL (.slice none 0 0) 1 24 Tryz.underlying49 hj hy0 hy1 hy2 rfl (by decide) _ _ _ rfl (hvo1.alloc _) ⟨w3.heap.size, 0, none⟩ 1 1 [.slice av (r.length + 1) cv] rfl rfl ?p3 ?q3 ?r3 ?s3 ?t3 ?_)
              try (case p3 => exact news_one)
              case q3 => first | (intro u hu; simp at hu; subst hu; rfl) | rfl
              case r3 => unfold maxLen; omega
              case s3 => omega
              case t3 => have := HC3.out.below.size; simp; omega
              intro v4 w4 hown4 hg4 _
              have hAl : Below w3.heap.size w3 (w3.alloc (.cells #[.slice av (r.length + 1) cv] 24)) := (Below.refl _ _).alloc (Nat.le_refl _) _
              have HO := Lib.hid ((HC3.out.next hAl).push (hvo.alloc _) (hvr.below hAl) hvl (by rw [hrl]; exact hg4) (by rw [hrl]; exact hown4))
              clear hown4 hg4 hAl HC3 hvo hvo1 hvr hvl
              go_wp2_with fail
              go_roundg (T.rs.length - (i + 1))
              case measure => omega
              case rel => exact ⟨i + 1, v4, by omega, rfl, rfl, rfl, by rw [HRS.out]; exact HO.out⟩
        · have hin : i = T.rs.length := by omega
          subst hin
          have hlt2 : ¬ ((T.rs.length : Int) < T.rs.length) := by omega
          have hall := rowsTx_all HOK2.out (Nat.le_refl _)
          have hlen := tabT_len HOK2.out
          have hrl := rowsTx_length T T.rs.length
          have HCR := Lib.hid (HO.out.out.row (by omega) (fun row hrw => by have := (hall row hrw).1; omega))
          have HAL : Hid (∀ r ∈ rowsTx T T.rs.length, ∀ p ∈ r, p.length ≤ 1099511627776) := Lib.hid (fun r hr p hp => by have := (hall r hr).2 p hp; omega)
          clear hall
          go_wp2_with fail
          refine (specCsvText wr vo (rowsTx T T.rs.length) HCR.out (by omega) HAL.out).mono ?_
          rintro e w2 ⟨rfl, hB2⟩
          go_wp2_with fail
          go_ret
          exact ⟨rfl, HO.out.below.trans (hB2.mono HO.out.below.size)⟩
  · go_simp
    have hBy : Below w1.heap.size w1 (w1.drew.alloc (.cells #[.string ⟨T.y.toArray⟩] 9)) := ((Below.refl _ _).drew).alloc (Nat.le_refl _) _
    have hyb := alloc_blk w1.drew #[.string ⟨T.y.toArray⟩] 9
    have hys0 : w1.drew.heap.size = w1.heap.size := rfl
    rw [hys0] at hyb
    refine hK.out _ _ (HdS.of HC0.out (hBy)) (fun hHeld => ?_)
    clear hK K
    (try simp only [List.getElem_toArray, List.getElem_cons_succ, List.getElem_cons_zero, Act.put, List.setIfInBounds_toArray, List.set_cons_zero, List.set_cons_succ])
    refine wpAnyH_ready (rs := [0]) (by kernel_rfl) (by simp) ?_
    refine AllReadyH.cons rfl (fun K hK => ?_) AllReadyH.nil
    go_simp
    have hBa := bt hBy (bl_al (w1.drew.alloc (.cells #[.string ⟨T.y.toArray⟩] 9)) (.cells #[] 9))
    have hma : ((w1.drew.alloc (.cells #[.string ⟨T.y.toArray⟩] 9)).alloc (.cells #[] 9)).ownsRow w1.heap.size 9 1 (.slice (some ⟨w1.heap.size + 1, 0, none⟩) 0 0) 0 [] := by
      have h := World.ownsRow_made (base := w1.heap.size) (e := 9) (size := 1) (w1.drew.alloc (.cells #[.string ⟨T.y.toArray⟩] 9)) #[] 0 (by simp) (by unfold maxLen; omega) (by simp)
      simpa using h
    have hyb2 := blk_al hyb (.cells #[] 9)
    refine hK.out _ _ (HdS.of HC0.out (hBa)) (fun hHeld => ?_)
    clear hK K
    (try simp only [List.getElem_toArray, List.getElem_cons_succ, List.getElem_cons_zero, Act.put, List.setIfInBounds_toArray, List.set_cons_zero, List.set_cons_succ])
    refine wpAnyH_ready (rs := [3]) (by kernel_rfl) (by simp) ?_
    refine AllReadyH.cons rfl (fun K hK => ?_) AllReadyH.nil
    refine step_append_t rfl (.tmp 10) (.tmp 12) 24 rfl w1.heap.size 9 iS (.string ByteArray.empty) 1 16 Tryz.underlying24 hi hz0 hz1 hz2 rfl (by decide) (.slice (some ⟨(w1.heap.size + 1), 0, none⟩) 0 0) 0 [] (by simp [Act.eval]) (hma) ⟨b1, o1, none⟩ T.ns.length c1 (strCells T.ns) (by simp [Act.eval]) (by rw [strCells_len]; omega) (news_at (fun q p hq => ((hBa).cell (World.block_lt_of_cell? w1 _ (HC1.out q p hq))).trans (HC1.out q p hq))) (strCells_cell _) (by unfold maxLen; omega) (by omega) (hBa).size ?_
    intro v8 w8 hown8 hg8
    rw [Nat.zero_add, List.nil_append] at hown8
    have hB8 : Below w1.heap.size w1 w8 := hBa.grown hg8 hBa.size (fun x hx => (hma.lt x hx).1)
    have hownz8 := hown8
    have hyc := cell_blk ((hg8.block _ (blk_lt hyb2) (by simp [Value.ownBlock])).trans hyb2) 0
    refine hK.out _ _ (HdS.of HC0.out (hB8)) (fun hHeld => ?_)
    clear hK K
    (try simp only [List.getElem_toArray, List.getElem_cons_succ, List.getElem_cons_zero, Act.put, List.setIfInBounds_toArray, List.set_cons_zero, List.set_cons_succ])
    refine wpAnyH_ready (rs := [7]) (by kernel_rfl) (by simp) ?_
    refine AllReadyH.cons rfl (fun K hK => ?_) AllReadyH.nil
    refine step_append_t rfl (.tmp 13) (.tmp 16) 24 rfl w1.heap.size 9 iS (.string ByteArray.empty) 1 16 Tryz.underlying24 hi hz0 hz1 hz2 rfl (by decide) v8 _ _ (by simp [Act.eval]) (hownz8) ⟨w1.heap.size, 0, none⟩ 1 1 [.string ⟨T.y.toArray⟩] (by simp [Act.eval]) rfl (by intro j x hx; cases j with | zero => (simp only [List.getElem?_cons_zero, Option.some.injEq] at hx; subst hx; exact hyc) | succ j => simp at hx) (by intro y hy; simp at hy; subst hy; rfl) (by unfold maxLen; omega) (by omega) (hB8).size ?_
    intro v9 w9 hown9 hg9
    have hB9 : Below w1.heap.size w1 w9 := (hB8).grown hg9 (hB8).size (fun x hx => (hownz8.lt x hx).1)
    obtain ⟨va, vc, rfl⟩ := owns_form hown9
    refine hK.out _ _ (HdS.of HC0.out (hB9)) (fun hHeld => ?_)
    clear hK K
    (try simp only [List.getElem_toArray, List.getElem_cons_succ, List.getElem_cons_zero, Act.put, List.setIfInBounds_toArray, List.set_cons_zero, List.set_cons_succ])
    refine wpAnyH_ready (rs := [8]) (by kernel_rfl) (by simp) ?_
    refine AllReadyH.cons rfl (fun K hK => ?_) AllReadyH.nil
    go_simp
    have hO9 := headOut (T := T) hB9 hown9 B1.out.size
    refine hK.out _ _ (HdS.of HC0.out (bt hB9 (bl_al _ _))) (fun hHeld => ?_)
    clear hK K
    (try simp only [List.getElem_toArray, List.getElem_cons_succ, List.getElem_cons_zero, Act.put, List.setIfInBounds_toArray, List.set_cons_zero, List.set_cons_succ])
    refine wpAnyH_take (i := 9) (oi := ?o3) (v := ?v3) ?hi3 ?hs3 ?hf3 ?hr3 ?hQ3 ?hy3 ?hS3 ?rest3
    case hi3 => rfl
    case hs3 => kernel_rfl
    case hf3 => kernel_rfl
    case hr3 => kernel_rfl
    case hQ3 => exact fun _ _ _ h => h
    case hS3 => assumption
    case hy3 =>
      refine Or.inl ⟨by kernel_rfl, ?_⟩
      intro w' hSw
      (try dsimp only at hSw)
      go_simp
      (try rfl)
    (try simp only [List.getElem_toArray, List.getElem_cons_succ, List.getElem_cons_zero, Act.put, List.setIfInBounds_toArray, List.set_cons_zero, List.set_cons_succ])
    refine wpAnyH_done (by kernel_rfl) ?_ _
    refine NoPanic.normal ?_
    obtain ⟨wz, hwz⟩ : ∃ wz, w9.alloc (.cells #[.slice va (T.ns.length + 1) vc] 24) = wz := ⟨_, rfl⟩
    obtain ⟨zb, hzb⟩ : ∃ zb, w9.heap.size = zb := ⟨_, rfl⟩
    rw [hwz] at hO9 ⊢
    rw [hzb] at hO9
    have HOT := Lib.hid hO9
    clear hO9 hB9 hown9 hg9
    rw [hzb] at ⊢
    have HS : Hid (OutT w wz #[.slice (some ⟨b1, o1, none⟩) T.ns.length c1, .string ⟨T.y.toArray⟩, .slice a2 T.rs.length c2, .slice a3 T.ys.length c3] (.slice (some ⟨zb, 0, none⟩) 1 1) (rowsTx T 0)) := Lib.hid ⟨bt B1.out HOT.out.2, blk_next X1.out HOT.out.2, HOT.out.1⟩
    have HII := Lib.hid HH.out.2.1
    have HIY := Lib.hid HH.out.2.2
    clear hwz hzb HOT
    go_wp2_with fail
    go_loopg [3, 4, 5, 6] T.rs.length (fun g v_ i_ _ _ wr => ∃ (i : Nat) (vo : Value), i ≤ T.rs.length ∧ g = T.rs.length - i ∧ i_ = .int .i64 i ∧ vo = v_ ∧ OutT w wr #[.slice (some ⟨b1, o1, none⟩) T.ns.length c1, .string ⟨T.y.toArray⟩, .slice a2 T.rs.length c2, .slice a3 T.ys.length c3] vo (rowsTx T i))
    case atStart => exact ⟨0, _, Nat.zero_le _, rfl, rfl, rfl, HS.out⟩
    case round =>
      clear HS
      obtain ⟨i, vo, hii, rfl, rfl, rfl, hO⟩ := hrel
      have HO := Lib.hid hO
      clear hO
      have ca2 := cell_blk HO.out.cell 2
      have la := blk_lt HO.out.cell
      by_cases hlt : i < T.rs.length
      · have hi1 : (i : Int) < T.rs.length := by omega
        have hi0 : (0 : Int) ≤ i := by omega
        obtain ⟨r, hr⟩ : ∃ r, T.rs[i]? = some r := ⟨_, List.getElem?_eq_getElem hlt⟩
        obtain ⟨y, hy⟩ : ∃ y, T.ys[i]? = some y := ⟨_, List.getElem?_eq_getElem (by rw [HOK.out.2.2.2.1]; exact hlt)⟩
        have hrow := HOK.out.2.2.2.2.2.2 i hlt
        rw [getD_at hr, getD_at hy] at hrow
        have HRW := Lib.hid hrow
        clear hrow
        have hm4 : r.length ≤ 4 := by rw [HRW.out.1]; exact hn4.2
        have hm1 : 1 ≤ r.length := by rw [HRW.out.1]; exact hn4.1
        obtain ⟨ag, cg, he2, _, hfg⟩ := iiRow_cells HII.out
        injection he2 with he21 _ he23
        subst he21
        subst he23
        obtain ⟨b2, o2, u, rfl, hcu0, hur0⟩ := hfg i r hr
        obtain ⟨ar, cr, rfl, _, hfr⟩ := intRow_form hur0
        obtain ⟨b4, o4, har4, _⟩ := hfr 0 _ (List.getElem?_eq_getElem (show 0 < r.length by omega))
        subst har4
        obtain ⟨a9, c9, he3, _, hfy⟩ := intRow_form HIY.out
        injection he3 with he31 _ he33
        subst he31
        subst he33
        obtain ⟨b3, o3, rfl, hcy0⟩ := hfy i y hy
        have HFR := Lib.hid hfr
        have HCU := Lib.hid hcu0
        have HYV := Lib.hid hcy0
        have HRS := Lib.hid (show rowsTx T (i + 1) = rowsTx T i ++ [rowTx r y] by rw [rowsTx_succ, getD_at hr, getD_at hy])
        have hcu := (HO.out.below.cell (p := ⟨b2, o2 + i, none⟩) (World.block_lt_of_cell? w _ hcu0)).trans hcu0
        have hlu := World.block_lt_of_cell? wr _ hcu
        obtain ⟨ao, co, hvo⟩ : ∃ a c, vo = .slice a (rowsTx T i).length c := by
          obtain ⟨vs, ho, _⟩ := HO.out.out
          exact owns_form ho
        subst hvo
        have hrl := rowsTx_length T i
        obtain ⟨lo0, hC0⟩ : ∃ lo0, TtSt w (wr.alloc (.cells #[] 9)) #[.slice (some ⟨b1, o1, none⟩) T.ns.length c1, .string ⟨T.y.toArray⟩, .slice (some ⟨b2, o2, none⟩) T.rs.length c2, .slice (some ⟨b3, o3, none⟩) T.ys.length c3] lo0 (.slice ao (rowsTx T i).length co) (.slice (some ⟨wr.heap.size, 0, none⟩) 0 0) (rowsTx T i) [] := ⟨_, HO.out.start⟩
        have HC0 := Lib.hid hC0
        clear hC0 HO hcu0 hur0 hfr hfy hfg hr hy hcy0
        go_wp2_with fail
        go_loopg [5, 6] r.length (fun g v_ k_ wi => ∃ (k : Nat) (vr : Value), k ≤ r.length ∧ g = r.length - k ∧ k_ = .int .i64 k ∧ vr = v_ ∧ TtSt w wi #[.slice (some ⟨b1, o1, none⟩) T.ns.length c1, .string ⟨T.y.toArray⟩, .slice (some ⟨b2, o2, none⟩) T.rs.length c2, .slice (some ⟨b3, o3, none⟩) T.ys.length c3] lo0 (.slice ao (rowsTx T i).length co) vr (rowsTx T i) ((r.map fixT).take k))
        case atStart => exact ⟨0, _, Nat.zero_le _, rfl, rfl, rfl, HC0.out⟩
        case round =>
          clear HC0
          obtain ⟨k, vr, hkr, rfl, rfl, rfl, hC⟩ := hrel
          have HCC := Lib.hid hC
          clear hC
          have ca2 := cell_blk HCC.out.cell 2
          have ca3 := cell_blk HCC.out.cell 3
          have la := blk_lt HCC.out.cell
          have hcu := (HCC.out.below.cell (p := ⟨b2, o2 + i, none⟩) (World.block_lt_of_cell? w _ HCU.out)).trans HCU.out
          have hlu := World.block_lt_of_cell? wr _ hcu
          by_cases hk1 : k < r.length
          · have hk1i : (k : Int) < r.length := by omega
            have hk0i : (0 : Int) ≤ k := by omega
            obtain ⟨x, hx⟩ : ∃ x, r[k]? = some x := ⟨_, List.getElem?_eq_getElem hk1⟩
            have hxb := valB_iff.1 (List.all_eq_true.1 HRW.out.2.2 x (List.mem_of_getElem? hx))
            obtain ⟨bq, oq, hbq, hcx0⟩ := HFR.out k x hx
            injection hbq with hbq
            injection hbq with hbq1 hbq2 _
            subst hbq1
            subst hbq2
            have hcx := (HCC.out.below.cell (p := ⟨b4, o4 + k, none⟩) (World.block_lt_of_cell? w _ hcx0)).trans hcx0
            have hlx := World.block_lt_of_cell? wr _ hcx
            have HTK := Lib.hid (show (r.map fixT).take (k + 1) = (r.map fixT).take k ++ [fixT x] by rw [List.take_add_one]; simp [hx])
            have htl : ((r.map fixT).take k).length = k := by simp; omega
            clear hcx0 hx
            go_wp2_with fail
            refine (specFixText x (by omega) (by omega) _).mono ?_
            rintro e w2 ⟨rfl, hB2⟩
            have HCN := Lib.hid (HCC.out.next hB2)
            have hcu2 := (hB2.cell (p := ⟨b2, o2 + i, none⟩) hlu).trans hcu
            clear hB2 HCC hcu hcx ca2 ca3
            go_wp2_with (at_builtin; refine wpList_append_own _ rfl _ _ 24 rfl lo0 9 iS (.string ByteArray.empty) 1 16 Tryz.underlying24 hi hz0 hz1 hz2 rfl (by decide) _ _ _ rfl (HCN.out.row.alloc _) ⟨w2.heap.size, 0, none⟩ 1 1 [.string ⟨(fixT x).toArray⟩] rfl rfl ?p1 ?q1 ?r1 ?s1 ?t1 ?_)
            try (case p1 => exact news_one)
            case q1 => first | (intro u hu; simp at hu; subst hu; rfl) | rfl
            case r1 => unfold maxLen; omega
            case s1 => omega
            case t1 => have := HCN.out.hi; simp; omega
            intro v3 w3 hown3 hg3 _
            have HC3 := Lib.hid ((HCN.out.next ((Below.refl _ _).alloc (Nat.le_refl _) (.cells #[.string ⟨(fixT x).toArray⟩] 9))).app (f := fixT x) hg3 (by rw [htl]; exact hown3))
            clear hown3 hg3 HCN
            go_wp2_with fail
            go_roundg (r.length - (k + 1))
            case measure => omega
            case rel => exact ⟨k + 1, v3, by omega, rfl, rfl, rfl, by rw [HTK.out]; exact HC3.out⟩
          · have hk2 : ¬ (k : Int) < r.length := by omega
            have HTK := Lib.hid (show (r.map fixT).take k = r.map fixT by rw [List.take_of_length_le]; simp; omega)
            have HEN := Lib.hid (show TtSt w wr #[.slice (some ⟨b1, o1, none⟩) T.ns.length c1, .string ⟨T.y.toArray⟩, .slice (some ⟨b2, o2, none⟩) T.rs.length c2, .slice (some ⟨b3, o3, none⟩) T.ys.length c3] lo0 (.slice ao (rowsTx T i).length co) vr (rowsTx T i) (r.map fixT) by rw [← HTK.out]; exact HCC.out)
            have hyb := valB_iff.1 HRW.out.2.1
            have hml : (r.map fixT).length = r.length := List.length_map _
            have hcy := (HEN.out.below.cell (p := ⟨b3, o3 + i, none⟩) (World.block_lt_of_cell? w _ HYV.out)).trans HYV.out
            have hly := World.block_lt_of_cell? wr _ hcy
            have hyi : i < T.ys.length := by rw [HOK.out.2.2.2.1]; exact hlt
            have hyi1 : (i : Int) < T.ys.length := by omega
            clear HTK HCC
            go_wp2_with fail
            refine (specFixText y (by omega) (by omega) _).mono ?_
            rintro e w2 ⟨rfl, hB2⟩
            have HCN := Lib.hid (HEN.out.next hB2)
            clear hB2 HEN hcu hcy ca2 ca3
            go_wp2_with (at_builtin; refine wpList_append_own _ rfl _ _ 24 rfl lo0 9 iS (.string ByteArray.empty) 1 16 Tryz.underlying24 hi hz0 hz1 hz2 rfl (by decide) _ _ _ rfl (HCN.out.row.alloc _) ⟨w2.heap.size, 0, none⟩ 1 1 [.string ⟨(fixT y).toArray⟩] rfl rfl ?p2 ?q2 ?r2 ?s2 ?t2 ?_)
            try (case p2 => exact news_one)
            case q2 => first | (intro u hu; simp at hu; subst hu; rfl) | rfl
            case r2 => unfold maxLen; omega
            case s2 => omega
            case t2 => have := HCN.out.hi; simp; omega
            intro v3 w3 hown3 hg3 _
            have HC3 := Lib.hid ((HCN.out.next ((Below.refl _ _).alloc (Nat.le_refl _) (.cells #[.string ⟨(fixT y).toArray⟩] 9))).app (f := fixT y) hg3 (by rw [hml]; exact hown3))
            clear hown3 hg3 HCN
            obtain ⟨av, cv, hv3⟩ := owns_form HC3.out.row
            rw [show (r.map fixT ++ [fixT y]).length = r.length + 1 by simp] at hv3
            subst hv3
            obtain ⟨vs, hvo, hvr, hvl⟩ := HC3.out.out
            have hvo1 := hvo
            rw [hrl] at hvo1
            go_wp2_with (at_builtin; refine wpList_append_own _ rfl _ _ 49 rfl w.heap.size 24 iL (.slice none 0 0) 1 24 Tryz.underlying49 hj hy0 hy1 hy2 rfl (by decide) _ _ _ rfl (hvo1.alloc _) ⟨w3.heap.size, 0, none⟩ 1 1 [.slice av (r.length + 1) cv] rfl rfl ?p3 ?q3 ?r3 ?s3 ?t3 ?_)
            try (case p3 => exact news_one)
            case q3 => first | (intro u hu; simp at hu; subst hu; rfl) | rfl
            case r3 => unfold maxLen; omega
            case s3 => omega
            case t3 => have := HC3.out.below.size; simp; omega
            intro v4 w4 hown4 hg4 _
            have hAl : Below w3.heap.size w3 (w3.alloc (.cells #[.slice av (r.length + 1) cv] 24)) := (Below.refl _ _).alloc (Nat.le_refl _) _
            have HO := Lib.hid ((HC3.out.next hAl).push (hvo.alloc _) (hvr.below hAl) hvl (by rw [hrl]; exact hg4) (by rw [hrl]; exact hown4))
            clear hown4 hg4 hAl HC3 hvo hvo1 hvr hvl
            go_wp2_with fail
            go_roundg (T.rs.length - (i + 1))
            case measure => omega
            case rel => exact ⟨i + 1, v4, by omega, rfl, rfl, rfl, by rw [HRS.out]; exact HO.out⟩
      · have hin : i = T.rs.length := by omega
        subst hin
        have hlt2 : ¬ ((T.rs.length : Int) < T.rs.length) := by omega
        have hall := rowsTx_all HOK2.out (Nat.le_refl _)
        have hlen := tabT_len HOK2.out
        have hrl := rowsTx_length T T.rs.length
        have HCR := Lib.hid (HO.out.out.row (by omega) (fun row hrw => by have := (hall row hrw).1; omega))
        have HAL : Hid (∀ r ∈ rowsTx T T.rs.length, ∀ p ∈ r, p.length ≤ 1099511627776) := Lib.hid (fun r hr p hp => by have := (hall r hr).2 p hp; omega)
        clear hall
        go_wp2_with fail
        refine (specCsvText wr vo (rowsTx T T.rs.length) HCR.out (by omega) HAL.out).mono ?_
        rintro e w2 ⟨rfl, hB2⟩
        go_wp2_with fail
        go_ret
        exact ⟨rfl, HO.out.below.trans (hB2.mono HO.out.below.size)⟩
/-- WHAT spec.TableText ANSWERS. -/
theorem specTabText (T : Tab) (u1 u2 u3 : Value) (w : World) (h : TabRow w T u1 u2 u3) (hyl : T.y.length ≤ 9223372036854775807) (hnl : ∀ p ∈ T.ns, p.length ≤ 9223372036854775807) :
    Calls Tryz.prog 9 #[.agg #[u1, .string ⟨T.y.toArray⟩, u2, u3]] w fun e w' => e = .returned (.string ⟨(tabT T).toArray⟩) ∧ Below w.heap.size w w' := by
  have h0 := h
  obtain ⟨p1, p2, p3⟩ := h0
  obtain ⟨a1, c1, rfl, _, _⟩ := sRow_cells p1
  obtain ⟨a2, c2, rfl, _, _⟩ := iiRow_cells p2
  obtain ⟨a3, c3, rfl, _, _⟩ := intRow_form p3
  unfold tabT
  by_cases hk : okT T = true
  · rw [if_pos hk]
    exact specTabText_ok T a1 a2 a3 c1 c2 c3 w h hyl hnl (Lib.hid hk)
  · rw [if_neg hk]
    exact specTabText_no T a1 a2 a3 c1 c2 c3 w h hyl hnl (Lib.hid (by simpa using hk))
end Go.Proofs.YticeagjonfifbaaGreatDoor
