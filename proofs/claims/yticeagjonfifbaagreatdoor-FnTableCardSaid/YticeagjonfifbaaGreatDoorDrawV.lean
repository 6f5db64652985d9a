/-
  The draw of a table's text, bent or turned a little.
-/
import Derived.Test.YticeagjonfifbaaGreatDoorDrB
import Derived.Test.YticeagjonfifbaaGreatDoorLawU9
import Derived.Test.YticeagjonfifbaaGreatDoorPk15
import Derived.Test.YticeagjonfifbaaGreatDoorPk12
import Derived.Test.YticeagjonfifbaaGreatDoorCsvR
import Derived.Test.YticeagjonfifbaaGreatDoorPk13
import Derived.Test.YticeagjonfifbaaGreatDoorPk7
namespace Go.Proofs.YticeagjonfifbaaGreatDoor
open Go.RowKit

theorem low_sp {x : UInt8} (h : lowB x = true) : spB x = false := by
  cases e : spB x with
  | false => rfl
  | true =>
    simp only [spB, Bool.or_eq_true, beq_iff_eq] at e
    rcases e with ((rfl | rfl) | rfl) | rfl <;> revert h <;> decide
theorem name_sp {l : List UInt8} (h : nameB l = true) : l.any spB = false := by
  simp only [nameB, Bool.and_eq_true, List.all_eq_true] at h
  rw [List.any_eq_false]
  intro x hx
  rw [low_sp (h.2 x hx)]
  decide
theorem okT_sp {T : Tab} (h : okT T = true) : ∀ p ∈ T.ns ++ [T.y], p.any spB = false := by
  have ho := okT_head h
  intro p hp
  rcases List.mem_append.1 hp with hp | hp
  · obtain ⟨j, hj⟩ := List.getElem?_of_mem hp
    have k := (ho.2.2.2.2.1 j (List.getElem?_eq_some_iff.1 hj).1).1
    rw [List.getD_eq_getElem?_getD, hj] at k
    exact name_sp k
  · obtain rfl := List.mem_singleton.1 hp
    exact name_sp ho.2.1
/-- The rows of a right table's text. -/
def LinB (L : List (List (List UInt8))) : Prop := 2 ≤ L.length ∧ L.length ≤ 41 ∧ ∀ r ∈ L, 1 ≤ r.length ∧ r.length ≤ 5 ∧ ∀ p ∈ r, p.length ≤ 20
theorem linB_of {T : Tab} (h : okT T = true) : LinB (rowsTx T T.rs.length) := by
  have ho := okT_head h
  have hl := rowsTx_length T T.rs.length
  refine ⟨by omega, by omega, fun r hr => ⟨?_, (rowsTx_all h (Nat.le_refl _) r hr).1, (rowsTx_all h (Nat.le_refl _) r hr).2⟩⟩
  unfold rowsTx at hr
  rcases List.mem_cons.1 hr with rfl | hr
  · simp
  · obtain ⟨i, _, rfl⟩ := List.mem_map.1 hr
    simp [rowTx]
theorem csvQ_linB {T : Tab} (h : okT T = true) (hl : (tabT T).length ≤ 4000) : csvQ (tabT T) = (rowsTx T T.rs.length, 0, 0, 0) := by
  have e : tabT T = csvT (rowsTx T T.rs.length) := by rw [tabT, if_pos h]
  refine csvQ_ok (by omega) ?_
  rw [e]
  refine rd_csvT fun r hr e0 => ?_
  have := ((linB_of h).2.2 r hr).1
  rw [e0] at this
  simp at this
/-- How great the rows that are left may be. -/
def LinC (L : List (List (List UInt8))) : Prop := L.length ≤ 41 ∧ ∀ r ∈ L, r.length ≤ 6 ∧ ∀ p ∈ r, p.length ≤ 20
theorem LinC.text {L : List (List (List UInt8))} (h : LinC L) : (csvT L).length ≤ 20000 := by
  have h1 := csvT_bound (a := 6) (b := 20) L h.2
  have h2 : L.length * (6 * (2 * 20 + 3) + 1) ≤ 41 * (6 * (2 * 20 + 3) + 1) := Nat.mul_le_mul_right _ h.1
  omega
theorem LinC.set {L : List (List (List UInt8))} {k : Nat} {r : List (List UInt8)} (h : LinB L) (h1 : r.length ≤ 6) (h2 : ∀ p ∈ r, p.length ≤ 20) : LinC (L.set k r) := by
  refine ⟨by rw [List.length_set]; exact h.2.1, fun q hq => ?_⟩
  rcases List.mem_or_eq_of_mem_set hq with hq | rfl
  · exact ⟨by have := (h.2.2 q hq).2.1; omega, (h.2.2 q hq).2.2⟩
  · exact ⟨h1, h2⟩
theorem LinC.take {L : List (List (List UInt8))} {k : Nat} (h : LinB L) : LinC (L.take k) :=
  ⟨by have := h.2.1; rw [List.length_take]; omega, fun q hq => ⟨by have := (h.2.2 q (List.mem_of_mem_take hq)).2.1; omega, (h.2.2 q (List.mem_of_mem_take hq)).2.2⟩⟩
theorem rows_neU {w : World} {base p : Nat} {T T' : TypeId} {vs : List Value} {C : List (List Value)} {cs : Array Value} (h : RowsOwn w base T vs C) (hb : w.heap[p]? = some (.cells cs T' (0, 0))) (hT : T ≠ T') : ∀ (j : Nat) u g, vs[j]? = some u → u.ownBlock = some g → some p ≠ some g := by
  intro j u g hu hub e
  have hj := (List.getElem?_eq_some_iff.1 hu).1
  have hC : ∃ c, C[j]? = some c := ⟨_, List.getElem?_eq_getElem (by rw [← h.1]; exact hj)⟩
  obtain ⟨c, hc⟩ := hC
  exact own_ne_blk (h.2.1 j u c hu hc) hb hT (hub.trans e.symm)
/-- One of the rows is replaced: what is kept of the others. -/
theorem rows_setU {w w' : World} {base k : Nat} {E : TypeId} {vs : List Value} {C : List (List Value)} {x : Value} {c : List Value} (h : RowsOwn w base E vs C) (ho : ∀ (j : Nat) u d, j ≠ k → vs[j]? = some u → C[j]? = some d → w.ownsRow base E 1 u d.length d → w'.ownsRow base E 1 u d.length d) (hx : w'.ownsRow base E 1 x c.length c) (h1 : ∀ (j : Nat) u g, j ≠ k → vs[j]? = some u → u.ownBlock = some g → x.ownBlock ≠ some g) : RowsOwn w' base E (vs.set k x) (C.set k c) := by
  refine ⟨by simp [h.1], fun j u d hu hd => ?_, fun i j u v g hij hu hv hub hvb => ?_⟩
  · by_cases e : k = j
    · subst e
      have hl := (List.getElem?_eq_some_iff.1 hu).1
      have hl2 := (List.getElem?_eq_some_iff.1 hd).1
      rw [List.length_set] at hl hl2
      rw [List.getElem?_set_self hl] at hu
      rw [List.getElem?_set_self hl2] at hd
      obtain rfl := Option.some.inj hu
      obtain rfl := Option.some.inj hd
      exact hx
    · rw [List.getElem?_set_ne e] at hu hd
      exact ho j u d (Ne.symm e) hu hd (h.2.1 j u d hu hd)
  · by_cases e : k = i
    · subst e
      have hl := (List.getElem?_eq_some_iff.1 hu).1
      rw [List.length_set] at hl
      rw [List.getElem?_set_self hl] at hu
      obtain rfl := Option.some.inj hu
      rw [List.getElem?_set_ne hij] at hv
      exact h1 j v g (Ne.symm hij) hv hvb hub
    · rw [List.getElem?_set_ne e] at hu
      by_cases e2 : k = j
      · subst e2
        have hl := (List.getElem?_eq_some_iff.1 hv).1
        rw [List.length_set] at hl
        rw [List.getElem?_set_self hl] at hv
        obtain rfl := Option.some.inj hv
        exact h1 i u g (Ne.symm e) hu hub hvb
      · rw [List.getElem?_set_ne e2] at hv
        exact h.2.2 i j u v g hij hu hv hub hvb
theorem own_cutU {w : World} {base g n c k : Nat} {T : TypeId} {xs : List Value} (h : w.ownsRow base T 1 (.slice (some ⟨g, 0, none⟩) n c) n xs) (hk : k ≤ n) : w.ownsRow base T 1 (.slice (some ⟨g, 0, none⟩) k c) k (xs.take k) := by
  have hx := h.1
  rcases h.2 with ⟨h, _⟩ | ⟨g1, c1, cur, h, h2, h3, h4, h5, h6, h7⟩
  · cases h
  · injection h with e1 e2 e3
    subst e3
    refine ⟨by rw [List.length_take]; omega, Or.inr ⟨g1, c, cur, by rw [e1], h2, h3, by omega, h5, h6, ?_⟩⟩
    rw [← h7, List.take_take]
    congr 1
    omega
theorem own_capU {w : World} {base g n c : Nat} {T : TypeId} {xs : List Value} (h : w.ownsRow base T 1 (.slice (some ⟨g, 0, none⟩) n c) n xs) : n ≤ c := by
  rcases h.2 with ⟨h, _⟩ | ⟨g1, c1, cur, h, _, _, h4, _⟩
  · cases h
  · injection h with _ _ h3
    omega
/-- The rows that are drawn, and the cursor. -/
structure DrS (W w0 wr : World) (p : Nat) (v : Value) (vs : List Value) (L : List (List (List UInt8))) : Prop where
  cur : Cur W wr p
  own : wr.ownsRow w0.heap.size 24 1 v L.length vs
  rows : RowsOwn wr w0.heap.size 9 vs (L.map strCells)
  hW : W.heap.size ≤ w0.heap.size
theorem DrS.draw {W w0 wr w' : World} {p : Nat} {v : Value} {vs : List Value} {L : List (List (List UInt8))} (h : DrS W w0 wr p v vs L) (hc : Cur W w' p) (hg : wr.grownBy w' (some p)) : DrS W w0 w' p v vs L := by
  obtain ⟨cs, hb⟩ := h.cur.blkT
  exact ⟨hc, owns_far h.own hg (fun g e => by obtain rfl := Option.some.inj e; exact own_ne_blk h.own hb (by decide)), h.rows.kept hg (rows_neU h.rows hb (by decide)), h.hW⟩
theorem DrS.laid {W w0 wr : World} {p : Nat} {v : Value} {vs : List Value} {L : List (List (List UInt8))} (h : DrS W w0 wr p v vs L) (o : Obj) : DrS W w0 (wr.alloc o) p v vs L := h.draw (h.cur.alloc o) (grow_al _ _ _)
theorem DrS.ss {W w0 wr : World} {p : Nat} {v : Value} {vs : List Value} {L : List (List (List UInt8))} (h : DrS W w0 wr p v vs L) (h1 : LinC L) : SSRow wr v L := SSOwn.row ⟨vs, h.own, h.rows⟩ (by have := h1.1; omega) (fun r hr => by have := (h1.2 r hr).1; omega)
/-- One of the rows. -/
theorem DrS.row {W w0 wr : World} {p k : Nat} {v u : Value} {vs : List Value} {L : List (List (List UInt8))} {r : List (List UInt8)} (h : DrS W w0 wr p v vs L) (hu : vs[k]? = some u) (hr : L[k]? = some r) : wr.ownsRow w0.heap.size 9 1 u r.length (strCells r) := by
  have := h.rows.2.1 k u (strCells r) hu (by rw [List.getElem?_map, hr]; rfl)
  rwa [strCells_len] at this
/-- A row is put in a row's place, in a world where the others stand. -/
theorem DrS.repl {W w0 wr w' : World} {p gv c k : Nat} {x : Value} {vs : List Value} {L : List (List (List UInt8))} {r : List (List UInt8)} (h : DrS W w0 wr p (.slice (some ⟨gv, 0, none⟩) L.length c) vs L) (hc : Cur W w' p) (ho2 : w'.ownsRow w0.heap.size 24 1 (.slice (some ⟨gv, 0, none⟩) L.length c) L.length vs)
    (hoth : ∀ (j : Nat) u d, j ≠ k → vs[j]? = some u → (L.map strCells)[j]? = some d → wr.ownsRow w0.heap.size 9 1 u d.length d → w'.ownsRow w0.heap.size 9 1 u d.length d) (hx : w'.ownsRow w0.heap.size 9 1 x r.length (strCells r)) (h1 : ∀ (j : Nat) u g, j ≠ k → vs[j]? = some u → u.ownBlock = some g → x.ownBlock ≠ some g) :
    DrS W w0 (w'.setCell ⟨gv, k, none⟩ x) p (.slice (some ⟨gv, 0, none⟩) L.length c) (vs.set k x) (L.set k r) := by
  obtain ⟨cs, hb⟩ := hc.blkT
  have hT : 24 ≠ 9 := by decide
  have hne : gv ≠ p := fun e => own_ne_blk ho2 hb (by decide) (congrArg some e)
  have hge := (ho2.lt gv rfl).1
  refine ⟨hc.setD (Nat.le_trans h.hW hge) hne k x, ?_, ?_, h.hW⟩
  · rw [List.length_set]
    exact own_put ho2
  · rw [List.map_set]
    refine rows_setU h.rows (fun j u d hj hu hd ho => ownsRow_setCell_other (hoth j u d hj hu hd ho) (fun e => owns_apart ho2 (hoth j u d hj hu hd ho) hT gv rfl e) _) ?_ h1
    rw [strCells_len]
    exact ownsRow_setCell_other hx (fun e => owns_apart ho2 hx hT gv rfl e) _
/-- A field is written. -/
theorem DrS.putF {W w0 wr : World} {p g c k j : Nat} {v : Value} {vs : List Value} {L : List (List (List UInt8))} {r : List (List UInt8)} (h : DrS W w0 wr p v vs L) (hu : vs[k]? = some (.slice (some ⟨g, 0, none⟩) r.length c)) (hr : L[k]? = some r) (f : List UInt8) : DrS W w0 (wr.setCell ⟨g, j, none⟩ (.string ⟨f.toArray⟩)) p v vs (L.set k (r.set j f)) := by
  have ho := h.row hu hr
  obtain ⟨cs, hb⟩ := h.cur.blkT
  have hT : 9 ≠ 24 := by decide
  have hne : g ≠ p := fun e => own_ne_blk ho hb (by decide) (congrArg some e)
  refine ⟨h.cur.setD (Nat.le_trans h.hW (ho.lt g rfl).1) hne j _, ?_, ?_, h.hW⟩
  · rw [List.length_set]
    exact ownsRow_setCell_other h.own (fun e => owns_apart ho h.own hT g rfl e) _
  · rw [List.map_set]
    refine h.rows.put hu (grownBy_set _ g _ _) ?_
    rw [show strCells (r.set j f) = (strCells r).set j (.string ⟨f.toArray⟩) by unfold strCells; rw [List.map_set], List.length_set, strCells_len]
    exact own_put ho
/-- A field is appended to a row. -/
theorem DrS.appR {W w0 wr w' : World} {p gv g4 n4 c c4 k : Nat} {xk : Value} {vs : List Value} {L : List (List (List UInt8))} {r : List (List UInt8)} {f : List UInt8} (h : DrS W w0 wr p (.slice (some ⟨gv, 0, none⟩) L.length c) vs L) (hu : vs[k]? = some xk) (hr : L[k]? = some r) (hg : wr.grownBy w' xk.ownBlock)
    (ho' : w'.ownsRow w0.heap.size 9 1 (.slice (some ⟨g4, 0, none⟩) n4 c4) (r.length + 1) (strCells r ++ [.string ⟨f.toArray⟩])) (hat : xk.ownBlock = some g4 ∨ wr.heap.size ≤ g4) :
    DrS W w0 (w'.setCell ⟨gv, k, none⟩ (.slice (some ⟨g4, 0, none⟩) n4 c4)) p (.slice (some ⟨gv, 0, none⟩) L.length c) (vs.set k (.slice (some ⟨g4, 0, none⟩) n4 c4)) (L.set k (r ++ [f])) := by
  have ho := h.row hu hr
  obtain ⟨cs, hb⟩ := h.cur.blkT
  have hT : 9 ≠ 24 := by decide
  have hc1 : Cur W w' p := h.cur.grownT hg (fun q hq => ⟨Nat.le_trans h.hW (ho.lt q hq).1, fun e => own_ne_blk ho hb (by decide) (e ▸ hq)⟩)
  refine h.repl hc1 (owns_far h.own hg (fun q e e2 => owns_apart ho h.own hT q e e2)) (fun j u d hj hv _ hod => owns_far hod hg (fun q e e2 => h.rows.2.2 k j xk u q (Ne.symm hj) hu hv e e2)) ?_ (fun j u q hj hv hub e => ?_)
  · rw [List.length_append, show strCells (r ++ [f]) = strCells r ++ [.string ⟨f.toArray⟩] by unfold strCells; rw [List.map_append]; rfl]
    exact ho'
  · have e4 : g4 = q := Option.some.inj e
    subst e4
    rcases hat with h9 | h9
    · exact h.rows.2.2 k j xk u g4 (Ne.symm hj) hu hv h9 hub
    · have := (h.rows.lt hv hub).2
      omega
/-- A row is cut. -/
theorem DrS.cutR {W w0 wr : World} {p gv g c cg k j : Nat} {vs : List Value} {L : List (List (List UInt8))} {r : List (List UInt8)} (h : DrS W w0 wr p (.slice (some ⟨gv, 0, none⟩) L.length c) vs L) (hu : vs[k]? = some (.slice (some ⟨g, 0, none⟩) r.length cg)) (hr : L[k]? = some r) (hj : j ≤ r.length) :
    DrS W w0 (wr.setCell ⟨gv, k, none⟩ (.slice (some ⟨g, 0, none⟩) j cg)) p (.slice (some ⟨gv, 0, none⟩) L.length c) (vs.set k (.slice (some ⟨g, 0, none⟩) j cg)) (L.set k (r.take j)) := by
  refine h.repl h.cur h.own (fun _ _ _ _ _ _ ho => ho) ?_ (fun i u q hi hv hub e => ?_)
  · rw [List.length_take, Nat.min_eq_left hj, show strCells (r.take j) = (strCells r).take j by unfold strCells; rw [List.map_take]]
    exact own_cutU (h.row hu hr) hj
  · exact h.rows.2.2 i k u (.slice (some ⟨g, 0, none⟩) r.length cg) q hi hv hu hub e
/-- The rows are cut. -/
theorem DrS.cutA {W w0 wr : World} {p gv c i : Nat} {vs : List Value} {L : List (List (List UInt8))} (h : DrS W w0 wr p (.slice (some ⟨gv, 0, none⟩) L.length c) vs L) (hi : i ≤ L.length) : DrS W w0 wr p (.slice (some ⟨gv, 0, none⟩) i c) (vs.take i) (L.take i) := by
  have hl := h.rows.1
  rw [List.length_map] at hl
  refine ⟨h.cur, ?_, ⟨by simp [hl], fun j u d hu hd => ?_, fun a b u v g hab hu hv => ?_⟩, h.hW⟩
  · rw [List.length_take, Nat.min_eq_left hi]
    exact own_cutU h.own hi
  · rw [List.map_take, List.getElem?_take] at hd
    rw [List.getElem?_take] at hu
    split at hu
    · rename_i hji
      rw [if_pos hji] at hd
      exact h.rows.2.1 j u d hu hd
    · cases hu
  · rw [List.getElem?_take] at hu hv
    split at hu
    · split at hv
      · exact h.rows.2.2 a b u v g hab hu hv
      · cases hv
    · cases hu
set_option maxRecDepth 100000 in
theorem l1Min (a b : Int) (w : World) : Calls Tryz.prog 48 #[.int .i64 a, .int .i64 b] w fun e w' => e = .returned (.int .i64 (if a < b then a else b)) ∧ w' = w := by
  by_cases h : a < b
  · rw [if_pos h]
    go_enter Tryz.func48, Tryz.ntmps48
    go_wp2_with fail
    go_ret
    exact ⟨rfl, rfl⟩
  · rw [if_neg h]
    go_enter Tryz.func48, Tryz.ntmps48
    go_wp2_with fail
    go_ret
    exact ⟨rfl, rfl⟩
set_option maxRecDepth 100000 in
set_option maxHeartbeats 8000000 in
theorem drawRdTabU : DrawRdTabU := by
  intro w v n hb
  obtain ⟨iS, hi, hz0, hz1, hz2⟩ := info_parts infoStr
  go_enter Tryz.func14, Tryz.ntmps14
  go_wp2_with fail
  refine (l1New w v n hb).mono ?_
  rintro e w1 ⟨rfl, hc1, _⟩
  go_wp2_with fail
  refine (l9Right w w1 _ hc1).mono ?_
  rintro e w2 ⟨T, vs, u1, u2, u3, rfl, hown, ⟨hok, hn3⟩, hc2, _⟩
  obtain ⟨a1, c1, rfl⟩ := owns_form hown.1
  obtain ⟨a2, c2, rfl⟩ := owns_form hown.2.1
  obtain ⟨a3, c3, rfl⟩ := owns_form hown.2.2.2.1
  have hsm := (okT_smallB hok).1
  have ht := tabT_small hok hn3 (okT_sp hok)
  have HTR := Lib.hid (hown.rowS hsm)
  have HYL : Hid (T.y.length ≤ 9223372036854775807) := Lib.hid (by have := hsm.2.2.2.2.2; omega)
  have HNL : Hid (∀ p ∈ T.ns, p.length ≤ 9223372036854775807) := Lib.hid (fun p hp => by have := hsm.2.2.2.2.1 p hp; omega)
  have hq := csvQ_linB hok ht
  have hlb := linB_of hok
  obtain ⟨L, hL⟩ : ∃ L, rowsTx T T.rs.length = L := ⟨_, rfl⟩
  rw [hL] at hq hlb
  have HLB := Lib.hid hlb
  obtain ⟨st, hst⟩ : ∃ st : ByteArray, (⟨(tabT T).toArray⟩ : ByteArray) = st := ⟨_, rfl⟩
  have hsz : st.size ≤ 4000 := by rw [← hst, toArr_size]; exact ht
  have hQ : csvQ st.data.toList = (L, 0, 0, 0) := by rw [← hst]; exact hq
  have HQ := Lib.hid hQ
  have HT := Lib.hid (specTabText T _ _ _ w2 HTR.out HYL.out HNL.out)
  rw [hst] at HT
  have HC2 := Lib.hid hc2
  clear hc1 hc2 hown hok hn3 hsm ht HTR HYL HNL hq hlb hL hst hQ
  go_wp2_with fail
  refine HT.out.mono ?_
  rintro e w3 ⟨rfl, B3⟩
  have HC3 := Lib.hid (HC2.out.next B3)
  clear B3 HC2 HT
  go_wp2_with fail
  refine (l1Once w w3 _ 3 (by omega) (by omega) HC3.out).mono ?_
  rintro e w4 ⟨⟨b, rfl⟩, hc4, _⟩
  have HC4 := Lib.hid hc4
  clear hc4 HC3
  cases b with
  | false =>
    go_wp2_with fail
    refine (l7Turned w w4 _ st (by omega) HC4.out).mono ?_
    rintro e w21 ⟨⟨t, ht, rfl⟩, hc21, _⟩
    go_wp2_with fail
    go_ret
    exact ⟨⟨t, rfl, by omega⟩, cur_below hc21⟩
  | true =>
    have HRD : Hid (∀ wz, Calls Tryz.prog 45 #[.string st] wz fun e w' => (∃ v, e = .returned (.tuple #[v, .agg #[.int .i64 0, .int .i64 0, .int .i64 0]]) ∧ SSOwn w' wz.heap.size v L) ∧ Below wz.heap.size wz w') := Lib.hid (fun wz => (specReadCsv st wz).mono (by
      rintro e w' ⟨⟨v, rfl, h⟩, hB⟩
      rw [HQ.out] at h ⊢
      exact ⟨⟨v, rfl, h⟩, hB⟩))
    clear HQ
    go_wp2_with fail
    refine (HRD.out w4).mono ?_
    rintro e w5 ⟨⟨v5, rfl, hss⟩, B5⟩
    obtain ⟨vs5, ho5, hr5⟩ := hss
    have hL2 := HLB.out.1
    have hL41 := HLB.out.2.1
    obtain ⟨gv, c5, hv⟩ := Go.Joins.ownsRow_form ho5 (by omega)
    subst hv
    have HD5 : Hid (DrS w w4 w5 w.heap.size (.slice (some ⟨gv, 0, none⟩) L.length c5) vs5 L) := Lib.hid ⟨HC4.out.next B5, ho5, hr5, HC4.out.2.1.size⟩
    have HD6 := Lib.hid (HD5.out.laid (.cells #[.int .i64 0, .int .i64 0, .int .i64 0] 33))
    clear ho5 hr5 HC4 HRD
    go_wp2_with fail
    refine (l1Below w _ _ L.length (by omega) (by omega) HD6.out.cur).mono ?_
    rintro e w6 ⟨⟨k, hk, rfl⟩, hc6, hg6⟩
    have HD7 := Lib.hid (HD6.out.draw hc6 hg6)
    clear hc6 hg6 HD6 HD5 B5
    obtain ⟨rk, hrk⟩ : ∃ r, L[k]? = some r := ⟨_, List.getElem?_eq_getElem hk⟩
    have hvl : vs5.length = L.length := by
      have := HD7.out.rows.1
      simpa using this
    obtain ⟨xk, hxk⟩ : ∃ x, vs5[k]? = some x := ⟨_, List.getElem?_eq_getElem (by omega)⟩
    have hr9 := HLB.out.2.2 rk (List.mem_of_getElem? hrk)
    have HRK5 := Lib.hid hr9.2
    have hrow0 := HD7.out.row hxk hrk
    obtain ⟨gk, ck, hf⟩ := Go.Joins.ownsRow_form hrow0 (by omega)
    subst hf
    have HRK : Hid (L[k]? = some rk) := Lib.hid hrk
    have HXK : Hid (vs5[k]? = some (.slice (some ⟨gk, 0, none⟩) rk.length ck)) := Lib.hid hxk
    have hrk1 := hr9.1
    have hrk5 := hr9.2.1
    have hk0 : (0 : Int) ≤ k := by omega
    have hk1 : (k : Int) < L.length := by omega
    have hkn : k < L.length := hk
    have hck := (HD7.out.own.cellAt k (by omega)).trans HXK.out
    clear hrk hxk hvl hr9 hrow0
    go_wp2_with fail
    refine (l1Below w _ _ rk.length (by omega) (by omega) HD7.out.cur).mono ?_
    rintro e w8 ⟨⟨j, hj, rfl⟩, hc8, hg8⟩
    have HD8 := Lib.hid (HD7.out.draw hc8 hg8)
    clear hc8 hg8 HD7 hck
    have hj0 : (0 : Int) ≤ j := by omega
    have hj1 : (j : Int) < rk.length := by omega
    have hjn : j < rk.length := hj
    go_wp2_with fail
    refine (l1Below w _ _ 4 (by omega) (by omega) HD8.out.cur).mono ?_
    rintro e w9 ⟨⟨x, hx, rfl⟩, hc9, hg9⟩
    have HD9 := Lib.hid (HD8.out.draw hc9 hg9)
    clear hc9 hg9 HD8
    by_cases hx3 : 3 ≤ x
    · have hx0 : ¬ (x : Int) = 0 := by omega
      have hx1 : ¬ (x : Int) = 1 := by omega
      have hx2 : ¬ (x : Int) = 2 := by omega
      go_wp2_with fail
      refine (l1Below w _ _ 2 (by omega) (by omega) HD9.out.cur).mono ?_
      rintro e w10 ⟨⟨b2, hb2, rfl⟩, hc10, hg10⟩
      have HDB := Lib.hid (HD9.out.draw hc10 hg10)
      clear hc10 hg10 HD9
      have hLm : IntKind.i64.wrap ((L.length : Int) - 1) = (L.length : Int) - 1 := by rw [IntKind.wrap_i64]; omega
      go_wp2_with fail
      refine (l1Min _ _ _).mono ?_
      rintro e w11 ⟨rfl, rfl⟩
      rw [show (if (1 : Int) < (L.length : Int) - 1 then (1 : Int) else (L.length : Int) - 1) = 1 by split <;> omega]
      have hw1 : IntKind.i64.wrap ((b2 : Int) * 1) = b2 := by rw [IntKind.wrap_i64]; omega
      have hw2 : IntKind.i64.wrap (1 + (b2 : Int)) = ((b2 + 1 : Nat) : Int) := by rw [IntKind.wrap_i64]; omega
      have hcap : ((b2 + 1 : Nat) : Int) ≤ c5 := by have := own_capU HDB.out.own; omega
      have hcap1 : b2 + 1 ≤ c5 := by omega
      have HF := Lib.hid (HDB.out.cutA (i := b2 + 1) (by omega))
      clear HDB
      go_upto_region 15 with fail
      have HC2 : LinC (L.take (b2 + 1)) := LinC.take HLB.out
      have hlt := HC2.text
      have HSR := HF.out.ss HC2
      have HCU := HF.out.cur
      have HZ2 : Hid (∀ r ∈ (L.take (b2 + 1)), ∀ p ∈ r, p.length ≤ 1099511627776) := Lib.hid (fun r hr p hp => by have := (HC2.2 r hr).2 p hp; omega)
      clear HC2
      generalize (L.take (b2 + 1)) = L2 at HSR hlt HZ2
      go_wp2_with fail
      refine (specCsvText _ _ L2 HSR (by omega) HZ2.out).mono ?_
      rintro e w20 ⟨rfl, B20⟩
      have HC20 := HCU.next B20
      have hsz : (⟨(csvT L2).toArray⟩ : ByteArray).size ≤ 20000 := by rw [toArr_size]; exact hlt
      generalize (⟨(csvT L2).toArray⟩ : ByteArray) = s at hsz
      clear HSR HCU B20 HZ2 hlt
      go_wp2_with fail
      refine (l7Turned w w20 _ s (by omega) HC20).mono ?_
      rintro e w21 ⟨⟨t, ht, rfl⟩, hc21, _⟩
      go_wp2_with fail
      go_ret
      exact ⟨⟨t, rfl, by omega⟩, cur_below hc21⟩
    · rcases (by omega : x = 0 ∨ x = 1 ∨ x = 2) with rfl | rfl | rfl
      · have HDA := Lib.hid (HD9.out.draw HD9.out.cur.drew (grownBy_drew (grownBy_refl _ _)))
        have HDB := Lib.hid (HDA.out.laid (.cells #[.string ⟨#[]⟩, .string ⟨#[120]⟩, .string ⟨#[97]⟩, .string ⟨#[49, 46, 50, 51, 52, 53]⟩, .string ⟨#[48, 49]⟩, .string ⟨#[45, 48]⟩, .string ⟨#[50, 49, 52, 55, 52, 56, 51, 46, 54, 52, 56]⟩, .string ⟨#[121]⟩] 9))
        have hS0 : (fun _ => True) w9.drew ∧ (fun w' => w'.cell? ⟨gv, k, none⟩ = some (.slice (some ⟨gk, 0, none⟩) rk.length ck)) w9.drew := ⟨trivial, (HDA.out.own.cellAt k (by omega)).trans HXK.out⟩
        have hne9 : w9.heap.size ≠ w.heap.size := by have := HD9.out.cur.lt; omega
        go_upto_region 10 with fail
        refine wp_region_noPanic ?_
        refine wp_region_K (S := (fun _ => True)) (H := (fun w' => w'.cell? ⟨gv, k, none⟩ = some (.slice (some ⟨gk, 0, none⟩) rk.length ck))) (k := 9) (by kernel_rfl) hS0 (fun hHeld => ?_)
        clear hS0
        refine anyK_takeH (i := 0) (oi := ?o1) (v := ?v1) ?hi1 ?hs1 ?hf1 ?hr1 ?hQ1 ?hw1 ?hy1 ?hS1 ?rest1
        case hi1 => rfl
        case hs1 => kernel_rfl
        case hf1 => kernel_rfl
        case hr1 => kernel_rfl
        case hQ1 => exact fun _ _ _ h => h
        case hw1 => kernel_rfl
        case hS1 => assumption
        case hy1 =>
          refine Or.inl ⟨by kernel_rfl, ?_⟩
          intro w' hSw
          (try dsimp only at hSw)
          go_simp
          (try rfl)
        (try simp only [List.getElem_toArray, List.getElem_cons_zero, Act.put, List.setIfInBounds_toArray, List.set_cons_zero, List.set_cons_succ])
        refine anyK_takeH (i := 1) (oi := ?o2) (v := ?v2) ?hi2 ?hs2 ?hf2 ?hr2 ?hQ2 ?hw2 ?hy2 ?hS2 ?rest2
        case hi2 => rfl
        case hs2 => kernel_rfl
        case hf2 => kernel_rfl
        case hr2 => kernel_rfl
        case hQ2 => exact fun _ _ _ h => h
        case hw2 => kernel_rfl
        case hS2 => assumption
        case hy2 =>
          refine Or.inl ⟨by kernel_rfl, ?_⟩
          intro w' hSw
          (try dsimp only at hSw)
          go_simp
          (try rfl)
        (try simp only [List.getElem_toArray, List.getElem_cons_succ, List.getElem_cons_zero, Act.put, List.setIfInBounds_toArray, List.set_cons_zero, List.set_cons_succ])
        refine anyK_takeH (i := 2) (oi := ?o3) (v := ?v3) ?hi3 ?hs3 ?hf3 ?hr3 ?hQ3 ?hw3 ?hy3 ?hS3 ?rest3
        case hi3 => rfl
        case hs3 => kernel_rfl
        case hf3 => kernel_rfl
        case hr3 => kernel_rfl
        case hQ3 => exact fun _ _ _ h => h
        case hw3 => kernel_rfl
        case hS3 => assumption
        case hy3 =>
          refine Or.inl ⟨by kernel_rfl, ?_⟩
          intro w' hSw
          (try dsimp only at hSw)
          go_simp
          (try rfl)
        (try simp only [List.getElem_toArray, List.getElem_cons_succ, List.getElem_cons_zero, Act.put, List.setIfInBounds_toArray, List.set_cons_zero, List.set_cons_succ])
        refine anyK_takeH (i := 3) (oi := ?o4) (v := ?v4) ?hi4 ?hs4 ?hf4 ?hr4 ?hQ4 ?hw4 ?hy4 ?hS4 ?rest4
        case hi4 => rfl
        case hs4 => kernel_rfl
        case hf4 => kernel_rfl
        case hr4 => kernel_rfl
        case hQ4 => exact fun _ _ _ h => h
        case hw4 => kernel_rfl
        case hS4 => assumption
        case hy4 =>
          refine Or.inl ⟨by kernel_rfl, ?_⟩
          intro w' hSw
          (try dsimp only at hSw)
          go_simp
          (try rfl)
        (try simp only [List.getElem_toArray, List.getElem_cons_succ, List.getElem_cons_zero, Act.put, List.setIfInBounds_toArray, List.set_cons_zero, List.set_cons_succ])
        refine anyK_takeH (i := 4) (oi := ?o5) (v := ?v5) ?hi5 ?hs5 ?hf5 ?hr5 ?hQ5 ?hw5 ?hy5 ?hS5 ?rest5
        case hi5 => rfl
        case hs5 => kernel_rfl
        case hf5 => kernel_rfl
        case hr5 => kernel_rfl
        case hQ5 => exact fun _ _ _ h => h
        case hw5 => kernel_rfl
        case hS5 => assumption
        case hy5 =>
          refine Or.inl ⟨by kernel_rfl, ?_⟩
          intro w' hSw
          (try dsimp only at hSw)
          go_simp
          (try rfl)
        (try simp only [List.getElem_toArray, List.getElem_cons_succ, List.getElem_cons_zero, Act.put, List.setIfInBounds_toArray, List.set_cons_zero, List.set_cons_succ])
        refine anyK_takeH (i := 5) (oi := ?o6) (v := ?v6) ?hi6 ?hs6 ?hf6 ?hr6 ?hQ6 ?hw6 ?hy6 ?hS6 ?rest6
        case hi6 => rfl
        case hs6 => kernel_rfl
        case hf6 => kernel_rfl
        case hr6 => kernel_rfl
        case hQ6 => exact fun _ _ _ h => h
        case hw6 => kernel_rfl
        case hS6 => assumption
        case hy6 =>
          refine Or.inl ⟨by kernel_rfl, ?_⟩
          intro w' hSw
          (try dsimp only at hSw)
          go_simp
          (try rfl)
        (try simp only [List.getElem_toArray, List.getElem_cons_succ, List.getElem_cons_zero, Act.put, List.setIfInBounds_toArray, List.set_cons_zero, List.set_cons_succ])
        refine anyK_ready (rs := [6]) (by kernel_rfl) (by simp) ?_
        refine allK_cons rfl (fun K hK => ?_) allK_nil
        go_simp
        refine hK.out _ _ (⟨trivial, (HDB.out.own.cellAt k (by omega)).trans HXK.out⟩) (fun hHeld => ?_)
        clear hK K
        (try simp only [List.getElem_toArray, List.getElem_cons_succ, List.getElem_cons_zero, Act.put, List.setIfInBounds_toArray, List.set_cons_zero, List.set_cons_succ])
        refine anyK_ready (rs := [7]) (by kernel_rfl) (by simp) ?_
        refine allK_cons rfl (fun K hK => ?_) allK_nil
        go_simp
        refine (l1Pick w _ w.heap.size w9.heap.size 8 20 (by omega) (by omega) hne9 ?_ HDB.out.cur).mono ?_
        · exact strList (w := w9.drew) 20 (by rfl) (by decide)
        rintro e w10 ⟨⟨s, hs, rfl⟩, hc10, hg10⟩
        obtain ⟨f, rfl⟩ : ∃ f : List UInt8, s = ⟨f.toArray⟩ := ⟨s.data.toList, (mk_toList s).symm⟩
        have hfl : f.length ≤ 20 := by simpa [ByteArray.size] using hs
        have HDC := Lib.hid (HDB.out.draw hc10 hg10)
        clear hc10 hg10 hs
        refine hK.out _ _ (⟨trivial, (HDC.out.own.cellAt k (by omega)).trans HXK.out⟩) (fun hHeld => ?_)
        clear hK K
        (try simp only [List.getElem_toArray, List.getElem_cons_succ, List.getElem_cons_zero, Act.put, List.setIfInBounds_toArray, List.set_cons_zero, List.set_cons_succ])
        refine anyK_takeH (i := 8) (oi := ?o7) (v := ?v7) ?hi7 ?hs7 ?hf7 ?hr7 ?hQ7 ?hw7 ?hy7 ?hS7 ?rest7
        case hi7 => rfl
        case hs7 => kernel_rfl
        case hf7 => kernel_rfl
        case hr7 => kernel_rfl
        case hQ7 => exact fun _ _ _ h => h
        case hw7 => kernel_rfl
        case hS7 => assumption
        case hy7 =>
          refine Or.inl ⟨by kernel_rfl, ?_⟩
          intro w' hSw
          (try dsimp only at hSw)
          go_simp
          (try rfl)
        (try simp only [List.getElem_toArray, List.getElem_cons_succ, List.getElem_cons_zero, Act.put, List.setIfInBounds_toArray, List.set_cons_zero, List.set_cons_succ])
        have hrC := HDC.out.row HXK.out HRK.out
        obtain ⟨⟨y0, hy0c⟩, hyf, hyl9⟩ := own_open hrC hjn
        have h3g : gv ≠ gk := fun e => owns_apart HDC.out.own hrC (by decide) gv rfl (congrArg some e.symm)
        have hx9 : (fun w' => w'.cell? ⟨gv, k, none⟩ = some (.slice (some ⟨gk, 0, none⟩) rk.length ck)) (w10.setCell ⟨gk, j, none⟩ (.string ⟨f.toArray⟩)) := cell_setB ((HDC.out.own.cellAt k (by omega)).trans HXK.out) h3g
        clear hHeld
        refine anyK_ready (rs := [9]) (by kernel_rfl) (by simp) ?_
        refine allK_past rfl (by kernel_rfl) (fun K hK => ?_)
        go_simp
        refine hK.out _ _ (hx9) (fun hHeld => ?_)
        clear hK K
        (try simp only [List.getElem_toArray, List.getElem_cons_succ, List.getElem_cons_zero, Act.put, List.setIfInBounds_toArray, List.set_cons_zero, List.set_cons_succ])
        refine anyK_done (by kernel_rfl) ?_ _
        refine NoPanic.normal ?_
        have HF := Lib.hid (HDC.out.putF (j := j) HXK.out HRK.out f)
        clear hx9 h3g hrC hy0c hyf hyl9 HDC HDB HDA HD9 hne9
        generalize hw11 : w10.setCell ⟨gk, j, none⟩ (.string ⟨f.toArray⟩) = w11 at HF ⊢
        clear hw11
        have HC2 : LinC (L.set k (rk.set j f)) := LinC.set HLB.out (by rw [List.length_set]; have := HRK5.out.1; omega) (fun q hq => by
          rcases List.mem_or_eq_of_mem_set hq with hq | hq
          · exact HRK5.out.2 q hq
          · subst hq; exact hfl)
        have hlt := HC2.text
        have HSR := HF.out.ss HC2
        have HCU := HF.out.cur
        have HZ2 : Hid (∀ r ∈ (L.set k (rk.set j f)), ∀ p ∈ r, p.length ≤ 1099511627776) := Lib.hid (fun r hr p hp => by have := (HC2.2 r hr).2 p hp; omega)
        clear HC2
        generalize (L.set k (rk.set j f)) = L2 at HSR hlt HZ2
        go_wp2_with fail
        refine (specCsvText _ _ L2 HSR (by omega) HZ2.out).mono ?_
        rintro e w20 ⟨rfl, B20⟩
        have HC20 := HCU.next B20
        have hsz : (⟨(csvT L2).toArray⟩ : ByteArray).size ≤ 20000 := by rw [toArr_size]; exact hlt
        generalize (⟨(csvT L2).toArray⟩ : ByteArray) = s at hsz
        clear HSR HCU B20 HZ2 hlt
        go_wp2_with fail
        refine (l7Turned w w20 _ s (by omega) HC20).mono ?_
        rintro e w21 ⟨⟨t, ht, rfl⟩, hc21, _⟩
        go_wp2_with fail
        go_ret
        exact ⟨⟨t, rfl, by omega⟩, cur_below hc21⟩
      · have hrC := HD9.out.row HXK.out HRK.out
        have hcv := (HD9.out.own.cellAt k (by omega)).trans HXK.out
        have hrk5 := HRK5.out.1
        go_wp2_with (at_builtin; refine wpList_append_own_at _ rfl _ _ 24 rfl w4.heap.size 9 iS (.string ByteArray.empty) 1 16 Tryz.underlying24 hi hz0 hz1 hz2 rfl (by decide) _ _ _ rfl (hrC.alloc _) ⟨w9.heap.size, 0, none⟩ 1 1 [.string ⟨#[55]⟩] rfl rfl ?a1 ?b1 ?c1 ?d1 ?e1 ?_)
        try (case a1 => exact news_one)
        case b1 => first | (intro u hu; simp at hu; subst hu; rfl) | rfl
        case c1 => unfold maxLen; omega
        case d1 => omega
        case e1 => have := HD9.out.own.lt gv rfl; (try simp); omega
        intro v10 w10 hown10 hg10 _ hat10
        obtain ⟨g4, c4, hv5⟩ := Go.Joins.ownsRow_form hown10 (by omega)
        subst hv5
        have HDB := Lib.hid (HD9.out.laid (.cells #[.string ⟨#[55]⟩] 9))
        have hrB := HDB.out.row HXK.out HRK.out
        have hvB := owns_far HDB.out.own hg10 (fun q e e2 => owns_apart hrB HDB.out.own (by decide) q e e2)
        have HF := Lib.hid (HDB.out.appR (f := [55]) HXK.out HRK.out hg10 hown10 (by
          rcases hat10 with h | h
          · exact Or.inl h.symm
          · exact Or.inr (by have e9 : g4 = w9.heap.size + 1 := Option.some.inj h; rw [sz_alloc]; omega)))
        obtain ⟨⟨y0, hy0c⟩, hyf, hyl9⟩ := own_open hvB hkn
        clear hrC hcv hown10 hg10 hat10 HDB hrB hvB HD9
        go_upto_region 15 with fail
        clear hy0c hyf hyl9
        generalize hw11 : w10.setCell ⟨gv, k, none⟩ (.slice (some ⟨g4, 0, none⟩) (rk.length + 1) c4) = w11 at HF ⊢
        clear hw11
        have HC2 : LinC (L.set k (rk ++ [[55]])) := LinC.set HLB.out (by rw [List.length_append, List.length_singleton]; omega) (fun q hq => by
          rcases List.mem_append.1 hq with hq | hq
          · exact HRK5.out.2 q hq
          · obtain rfl := List.mem_singleton.1 hq
            decide)
        have hlt := HC2.text
        have HSR := HF.out.ss HC2
        have HCU := HF.out.cur
        have HZ2 : Hid (∀ r ∈ (L.set k (rk ++ [[55]])), ∀ p ∈ r, p.length ≤ 1099511627776) := Lib.hid (fun r hr p hp => by have := (HC2.2 r hr).2 p hp; omega)
        clear HC2
        generalize (L.set k (rk ++ [[55]])) = L2 at HSR hlt HZ2
        go_wp2_with fail
        refine (specCsvText _ _ L2 HSR (by omega) HZ2.out).mono ?_
        rintro e w20 ⟨rfl, B20⟩
        have HC20 := HCU.next B20
        have hsz : (⟨(csvT L2).toArray⟩ : ByteArray).size ≤ 20000 := by rw [toArr_size]; exact hlt
        generalize (⟨(csvT L2).toArray⟩ : ByteArray) = s at hsz
        clear HSR HCU B20 HZ2 hlt
        go_wp2_with fail
        refine (l7Turned w w20 _ s (by omega) HC20).mono ?_
        rintro e w21 ⟨⟨t, ht, rfl⟩, hc21, _⟩
        go_wp2_with fail
        go_ret
        exact ⟨⟨t, rfl, by omega⟩, cur_below hc21⟩
      · have hcv := (HD9.out.own.cellAt k (by omega)).trans HXK.out
        have hcap : (j : Int) ≤ ck := by have := own_capU (HD9.out.row HXK.out HRK.out); omega
        have hcap1 : j ≤ ck := by omega
        have hj0 : (0 : Int) ≤ j := by omega
        obtain ⟨⟨y0, hy0c⟩, hyf, hyl9⟩ := own_open HD9.out.own hkn
        have HF := Lib.hid (HD9.out.cutR HXK.out HRK.out (Nat.le_of_lt hjn))
        clear HD9
        go_upto_region 15 with fail
        clear hy0c hyf hyl9
        generalize hw11 : w9.setCell ⟨gv, k, none⟩ (.slice (some ⟨gk, 0, none⟩) j ck) = w11 at HF ⊢
        clear hw11
        have HC2 : LinC (L.set k (rk.take j)) := LinC.set HLB.out (by have := HRK5.out.1; rw [List.length_take]; omega) (fun q hq => HRK5.out.2 q (List.mem_of_mem_take hq))
        have hlt := HC2.text
        have HSR := HF.out.ss HC2
        have HCU := HF.out.cur
        have HZ2 : Hid (∀ r ∈ (L.set k (rk.take j)), ∀ p ∈ r, p.length ≤ 1099511627776) := Lib.hid (fun r hr p hp => by have := (HC2.2 r hr).2 p hp; omega)
        clear HC2
        generalize (L.set k (rk.take j)) = L2 at HSR hlt HZ2
        go_wp2_with fail
        refine (specCsvText _ _ L2 HSR (by omega) HZ2.out).mono ?_
        rintro e w20 ⟨rfl, B20⟩
        have HC20 := HCU.next B20
        have hsz : (⟨(csvT L2).toArray⟩ : ByteArray).size ≤ 20000 := by rw [toArr_size]; exact hlt
        generalize (⟨(csvT L2).toArray⟩ : ByteArray) = s at hsz
        clear HSR HCU B20 HZ2 hlt
        go_wp2_with fail
        refine (l7Turned w w20 _ s (by omega) HC20).mono ?_
        rintro e w21 ⟨⟨t, ht, rfl⟩, hc21, _⟩
        go_wp2_with fail
        go_ret
        exact ⟨⟨t, rfl, by omega⟩, cur_below hc21⟩
end Go.Proofs.YticeagjonfifbaaGreatDoor
