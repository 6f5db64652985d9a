/-
  The keys of settings, the program's way: collected in whatever order the map gives them, and sorted by their places.
-/
import Derived.Test.YtnnbhgnllbjmeaaDoorI8PkA
import Derived.Test.YtnnbhgnllbjmeaaDoorShSrt
import Derived.Test.YtnnbhgnllbjmeaaDoorRowS
import Derived.Sort.OwnSorted
import Derived.Sort.LotA
namespace Go.Proofs.YtnnbhgnllbjmeaaDoor
open Go.RowKit Go.Sort Go.Lib

/-- A key's value, and how two keys compare. -/
def keyV (m : Nat) (i : Fin m) : Value := encStr (wordL i.val)
def keyC (m : Nat) (x y : Fin m) : Int := Lib.compareInt (x.val : Int) (y.val : Int)
theorem ltK (m : Nat) (x y : Fin m) : ltOf (keyC m) x y = decide (x.val < y.val) := by
  unfold ltOf keyC Lib.compareInt
  by_cases h1 : (x.val : Int) < y.val
  · have : x.val < y.val := by omega
    simp [h1, this]
  · have h3 : ¬ x.val < y.val := by omega
    by_cases h2 : (y.val : Int) < x.val <;> simp [h1, h2, h3]
theorem swoK (m : Nat) : SWO (ltOf (keyC m)) where
  irrefl x := by rw [ltK]; simp
  trans x y z h1 h2 := by rw [ltK] at *; simp at *; omega
  ntrans x y z h1 h2 := by rw [ltK] at *; simp at *; omega
theorem totK (m : Nat) (x y : Fin m) (h1 : ltOf (keyC m) x y = false) (h2 : ltOf (keyC m) y x = false) : x = y := by
  rw [ltK] at *
  simp at h1 h2
  exact Fin.ext (by omega)
theorem leK (m : Nat) : (fun x y : Fin m => !ltOf (keyC m) y x) = leF m := by
  funext x y
  rw [ltK, leF]
  by_cases h : x.val ≤ y.val
  · have h' : ¬ y.val < x.val := by omega
    simp [h, h']
  · have h' : y.val < x.val := by omega
    simp [h, h']
theorem grownBy_row {α : Type} [Inhabited α] (enc : α → Value) {w : World} {g n : Nat} {os : Array Obj} (d : Array α) : w.grownBy (sortWorld enc w g 0 n d os) (some g) := by
  refine ⟨rfl, rfl, rfl, by simp [sortWorld], fun k hk hne => ?_⟩
  unfold sortWorld
  rw [heap_grow_old _ _ (by simpa using hk)]
  have : g ≠ k := fun e => hne (by rw [e])
  simp [putRow, mapBlock, Sort.ahead, Array.getElem?_modify, this]
theorem putRow_keys {m : Nat} [Inhabited (Fin m)] (w : World) (g : Nat) (d : Array (Fin m)) : putRow (keyV m) w g 0 d = putRow encStr w g 0 (d.map fun i => wordL i.val) := by
  unfold putRow
  congr 1
  funext c
  unfold putCells
  simp only [Array.size_map]
  congr 1
  funext k x
  split
  · rename_i h
    have hk : k - 0 < d.size := by omega
    rw [getElem!_pos d (k - 0) hk, getElem!_pos (d.map fun i => wordL i.val) (k - 0) (by simpa using hk)]
    simp [keyV]
  · rfl

/-- What a map of keys answers at one of them. -/
theorem lookKey {m : Nat} (hm : m = 6 ∨ m = 7) {W : World} {B n : Nat} (h : MapAt W B n (keyDm m)) (i : Fin m) :
    (Instr.lookup 46 (.map (some B)) (keyV m i) false).run Tryd.prog W = .ok (.int .i64 (i.val : Nat)) W := by
  have hl := (wordL_ok i.val (by have := i.2; omega)).2.2
  obtain ⟨c, hrun, hat, _⟩ := h.lookup_int keyedS Tryd.underlying46 Tryd.underlying3 (zeroI W) (keyLit (s := ⟨(wordL i.val).toArray⟩) (by simp only [ByteArray.size, List.size_toArray]; omega))
  have e : (Lit.string (ByteArray.mk (wordL i.val).toArray).data.toList) = .string (wordL i.val) := rfl
  rw [e, at_keyDm hm i] at hat
  have : c = (i.val : Nat) := by
    simp only [DataW.lit.injEq, Lit.int.injEq, true_and] at hat
    exact hat.symm
  subst this
  exact hrun
set_option maxRecDepth 100000 in
set_option maxHeartbeats 1000000 in
theorem byPlaceG {m : Nat} (hm : m = 6 ∨ m = 7) (x y : Fin m) (B n bx : Nat) (W : World) (h : MapAt W B n (keyDm m)) (hb : W.cell? ⟨bx, 0, none⟩ = some (.map (some B))) :
    Calls Tryd.prog 45 #[keyV m x, keyV m y, .pointer (some ⟨bx, 0, none⟩)] W fun e w' => e = .returned (.int .i64 (keyC m x y)) ∧ ∃ q, w' = W.drewN q := by
  have hx := lookKey hm h x
  have hy := lookKey hm h y
  have HC := Lib.hid (Tryd.cmp_Compare_int (x.val : Nat) (y.val : Nat) W)
  unfold keyC
  generalize Lib.compareInt ((x.val : Nat) : Int) ((y.val : Nat) : Int) = r at HC ⊢
  generalize keyV m x = vx at hx ⊢
  generalize keyV m y = vy at hy ⊢
  clear h
  go_enter Tryd.func45, Tryd.ntmps45
  go_wp2_with fail
  refine HC.out.mono ?_
  rintro e w1 ⟨rfl, rfl⟩
  go_wp2_with fail
  go_ret
  exact ⟨rfl, 0, rfl⟩
theorem cmpKeys {m : Nat} [Inhabited (Fin m)] (hm : m = 6 ∨ m = 7) (B n bx g size : Nat) (w : World) (h : MapAt w B n (keyDm m)) (hb : w.heap[bx]? = some (.cells #[.map (some B)] 46 (0, 0))) (h1 : B ≠ g) (h2 : bx ≠ g) :
    CmpReads Tryd.prog 45 #[.pointer (some ⟨bx, 0, none⟩)] (keyV m) (keyC m) g 0 size w := by
  intro q os dk _ x y
  have hg := grownBy_row (keyV m) (w := w) (g := g) (n := q) (os := os) dk
  have hbl : bx < w.heap.size := blk_lt hb
  have hb' := (hg.block bx hbl (by simpa using h2)).trans hb
  exact byPlaceG hm x y B n bx _ (h.kept hg (by simpa using h1)) (cell_blk hb' 0)
theorem sortedRow {m : Nat} [Inhabited (Fin m)] (d : List (Fin m)) (h : d.mergeSort (leF m) = List.finRange m) :
    Sort.insertionSort (ltOf (keyC m)) d.toArray 0 d.toArray.size = (List.finRange m).toArray := by
  have k := insertionSort_holds (lt := ltOf (keyC m)) (swoK m) d.toArray 0 d.toArray.size (Nat.zero_le _) (Nat.le_refl _)
  have e := sorted_unique_holds (swoK m) (totK m) d.toArray _ k.1 k.2
  rw [leK] at e
  have e2 : (Sort.insertionSort (ltOf (keyC m)) d.toArray 0 d.toArray.size).toList = List.finRange m := by rw [e, ← h]
  rw [← e2]

theorem own_not_nil {w : World} {base s n : Nat} {T : TypeId} {v : Value} {xs : List Value} (h : w.ownsRow base T s v n xs) (hn : 0 < n) : v ≠ .slice none 0 0 := by
  rcases h.2 with ⟨_, h0⟩ | ⟨g, cap, cur, rfl, _⟩
  · omega
  · intro e
    injection e with e
    cases e
theorem own_sortedKeys {m : Nat} [Inhabited (Fin m)] {w : World} {base g cap k : Nat} {cur : Array Value} (hk : k = m) (hbase : base ≤ g) (hb : w.heap[g]? = some (.cells cur 9 (0, 0))) (h1 : k ≤ cap) (h2 : cap ≤ maxLen) (h3 : cur.size = cap * 1) (nn : Nat) :
    ((putRow (keyV m) w g 0 (List.finRange m).toArray).drewN nn).ownsRow base 9 1 (.slice (some ⟨g, 0, none⟩) k cap) m (((List.finRange m).map fun i => wordL i.val).map encStr) := by
  have e : (putRow (keyV m) w g 0 (List.finRange m).toArray).drewN nn = grow (putRow encStr (Sort.ahead w nn) g 0 ((List.finRange m).map fun i => wordL i.val).toArray) #[] := by
    rw [putRow_keys, ← sortWorld_none]
    unfold sortWorld
    simp
  have hl : ((List.finRange m).map fun i => wordL i.val).length = m := by simp
  have h := ownsRow_sorted (n := nn) (os := #[]) (ss := (List.finRange m).map fun i => wordL i.val) (ts := (List.finRange m).map fun i => wordL i.val) rfl hbase hb (by rw [hl]; omega) h2 h3
  rw [hl] at h
  rw [e, hk]
  exact h

set_option maxRecDepth 100000 in
set_option maxHeartbeats 2000000 in
theorem keysG {m : Nat} [Inhabited (Fin m)] (hm : m = 6 ∨ m = 7) (B n : Nat) (w : World) (hown : MapAt w B n (keyDm m)) :
    Calls Tryd.prog 24 #[.map (some B)] w fun e w' => ∃ v, e = .returned v ∧ w'.ownsRow w.heap.size 9 1 v m (((List.finRange m).map fun i => wordL i.val).map encStr) ∧ Below w.heap.size w w' := by
  obtain ⟨iS, hi, hz0, hz1, hz2⟩ := info_parts infoStr
  have hbl := hown.lt
  obtain ⟨D, hD⟩ : ∃ D, keyDm m = D := ⟨_, rfl⟩
  have HM := Lib.hid hm
  have h7 : m ≤ 7 := by omega
  have hsz : Hid (Maps.size D = m) := Lib.hid (by rw [← hD]; exact size_keyDm hm)
  rw [hD] at hown
  have HD := Lib.hid hD
  clear hD hm
  have hBox : (((w.alloc (.cells #[.map (some B)] 46)).alloc (.cells #[] 9))).heap[w.heap.size]? = some (.cells #[.map (some B)] 46 (0, 0)) := blk_alloc (alloc_blk w _ _) _
  have hRow : ((w.alloc (.cells #[.map (some B)] 46)).alloc (.cells #[] 9)).ownsRow (w.heap.size + 1) 9 1 (.slice (some ⟨w.heap.size + 1, 0, none⟩) 0 0) 0 [] := by
    have h := World.ownsRow_made (base := w.heap.size + 1) (e := 9) (size := 1) (w.alloc (.cells #[.map (some B)] 46)) #[] 0 (by simp) (by unfold maxLen; omega) (by simp)
    simpa using h
  have hB2 : Below w.heap.size w ((w.alloc (.cells #[.map (some B)] 46)).alloc (.cells #[] 9)) := bt (below_al w _) (below_al _ _)
  have hOwn := (hown.alloc (.cells #[.map (some B)] 46)).alloc (.cells #[] 9)
  have HX := Lib.hid (And.intro hBox (And.intro hRow hB2))
  clear hBox hRow hB2
  go_enter Tryd.func24, Tryd.ntmps24
  go_wp2_with (at_range; refine wpList_range_own _ rfl _ 46 rfl 9 3 keyedS Tryd.underlying46 _ B n _ rfl hOwn ?_; intro w0 hrg0 hg0 hs0)
  go_frame
  simp only [size_alloc] at hrg0 ⊢
  go_loopw [3] (fun v wr => ∃ (left : Lit → Bool) (cnt : Nat) (ss : List (List UInt8)), wr.ranges Tryd.prog 9 (plainElem Tryd.prog 3) B (w.heap.size + 1 + 1) n D left cnt ∧ ss.length + cnt ≤ m ∧
      wr.ownsRow (w.heap.size + 1) 9 1 v ss.length (ss.map encStr) ∧ v ≠ .slice none 0 0 ∧ Collected D left ss ∧ wr.heap[w.heap.size]? = some (.cells #[.map (some B)] 46 (0, 0)) ∧ Below w.heap.size w wr)
    (fun _ wr => wr.rangeLeft B (w.heap.size + 1 + 1))
  case atStart =>
    obtain ⟨hBox, hRow, hB2⟩ := HX.out
    exact ⟨_, _, [], hrg0, by simp [hsz.out], hRow.kept hg0 (Or.inr (by simp [Value.ownBlock])), by simp, Collected.start _, (hg0.block _ (by simp; omega) (by simp)).trans hBox, hB2.grown hg0 (by simp; omega) (fun j hj => by cases hj)⟩
  case round =>
    clear HX hOwn hrg0 hg0 hs0
    obtain ⟨left, cnt, ss, hrg, hcs, hrow, hnn, hC, hbox, hnx⟩ := hrel
    go_wp2_with (at_next; refine wpList_next_ranges _ rfl _ rfl 9 keyedS (plainElem Tryd.prog 3) encStr (Value.int .i64) (fun key kl hk => by obtain ⟨x, hx, _⟩ := Maps.keyOf_str Tryd.underlying9 hk; exact ⟨x, hx⟩) (fun v y hv => by obtain ⟨c, rfl, _⟩ := plainElem_int_inv Tryd.underlying3 hv; exact ⟨c, rfl⟩) B (w.heap.size + 1 + 1) n _ _ _ rfl hrg ?_ ?_)
    · intro _ hl0
      have hD := HD.out
      subst hD
      have hm := HM.out
      obtain ⟨d, hd, hsrt⟩ := sorted_keys hm hC hl0
      have hdl : d.length = m := by
        have h := congrArg List.length hsrt
        simpa using h
      have hssl : ss.length = m := by rw [← hd]; simpa using hdl
      rcases hrow.2 with ⟨hnil, _⟩ | ⟨g, cap, cur, rfl, hbase, hb, k1, k2, k3, k4⟩
      · exact absurd hnil hnn
      have hH : Holds (keyV m) wr g 0 d.toArray := by
        have h0 : Holds encStr wr g 0 ss.toArray := holds_of_block hb (by simpa using k4)
        intro j hj
        have hj' : j < d.length := by simpa using hj
        obtain ⟨h1, h2⟩ := h0 j (by rw [← hd]; simpa using hj')
        refine ⟨?_, h2⟩
        rw [h1, ← hd]
        simp [keyV, hj']
      have eg : ∀ args w, (callFunc 45 args).run Tryd.prog w = .ok (.enter 45 args) w := enters_of Tryd.func45 (by kernel_rfl) rfl
      have hS := Tryd.slices_SortFunc_small (keyV m) (fun _ => rfl) (keyC m) 45 #[.pointer (some ⟨w.heap.size, 0, none⟩)] g 0 cap d.toArray wr eg (cmpKeys hm B n w.heap.size g _ wr hrg.owns hbox (by omega) (by omega)) hH (by simp; omega) (fun n W hn => (Tryd.bits_Len n W (by omega) (by omega)).mono fun _ _ ⟨he, hw⟩ => ⟨⟨_, he⟩, hw⟩)
      rw [sortedRow d hsrt, show d.toArray.size = ss.length by simp; omega] at hS
      have HS := Lib.hid hS
      have HF := Lib.hid (own_sortedKeys (m := m) (base := w.heap.size) hssl (by omega) hb k1 k2 k3)
      have HN := Lib.hid hnx
      have HG := Lib.hid (show w.heap.size ≤ g by omega)
      clear hS hH hb hrow hrg hC hnx hbox hd hsrt k1 k2 k3 k4 hl0 hcs hnn eg hm hdl hssl hsz hown hi hz0 hz1 hz2 hbl h7 hbase HM HD
      go_wp2_with fail
      refine HS.out.mono ?_
      rintro e w' ⟨rfl, nn, rfl⟩
      go_wp2_with fail
      go_ret
      refine ⟨_, rfl, HF.out nn, ?_⟩
      rw [← sortWorld_none]
      exact HN.out.grown (grownBy_row (keyV m) _) HN.out.size (fun j hj => by cases hj; exact HG.out)
    · intro x c kl yd yp w2 cnt2 hkey hlk hv hat hrg2 hlt hg2 hs2 hen
      obtain ⟨x', ex, rfl, _⟩ := Maps.keyOf_str Tryd.underlying9 hkey
      obtain rfl : x = x' := encStr_inj ex
      have hrow2 := hrow.kept hg2 (Or.inr (row_ne_iter hrow hrg).symm)
      have hbl1 : B < w.heap.size + 1 := by omega
      have hbx2 := blk_alloc ((hg2.block w.heap.size (blk_lt hbox) (by simp; omega)).trans hbox) (.cells #[.string ⟨x.toArray⟩] 9)
      have hnx2 := (hnx.grown hg2 hnx.size (fun j hj => by cases hj; omega)).alloc (Nat.le_trans hnx.size hg2.size) (.cells #[.string ⟨x.toArray⟩] 9)
      have hsz2 := Nat.le_trans hnx.size hg2.size
      have hsz1 : w.heap.size + 1 ≤ w2.heap.size := by have := blk_lt ((hg2.block w.heap.size (blk_lt hbox) (by simp; omega)).trans hbox); omega
      have HP := Lib.hid (And.intro (Collected.step hC hlk hat) (And.intro hbx2 hnx2))
      clear hs2 hC hbx2 hnx2 hlk hat hkey hv ex
      go_wp2_with (at_builtin; refine wpList_append_own _ rfl _ _ 41 rfl (w.heap.size + 1) 9 iS (.string ByteArray.empty) 1 16 Tryd.underlying41 hi hz0 hz1 hz2 rfl (by decide) _ _ _ rfl (hrow2.alloc (.cells #[.string ⟨x.toArray⟩] 9)) ⟨w2.heap.size, 0, none⟩ 1 1 [.string ⟨x.toArray⟩] rfl rfl news_one (by intro y hy; simp at hy; subst hy; rfl) ?a3 ?a4 ?a5 ?_)
      case a3 => unfold maxLen; omega
      case a4 => omega
      case a5 => simp; omega
      intro v' w3 hown' hg3 _
      have hrg3 := (hrg2.alloc (.cells #[.string ⟨x.toArray⟩] 9)).kept hg3 (row_ne_low hrow2 hbl1) (row_ne_iter hrow2 hrg2)
      have HR := Lib.hid (And.intro hrg3 (And.intro hown' hg3))
      have HO := Lib.hid (And.intro hrow2 hrg)
      clear hown' hg3 hrg3 hrow2 hrg2 hrow hg2 hnx hbox hnn
      go_wp2_with fail
      go_roundw
      case rel =>
        obtain ⟨hrg3, hown', hg3⟩ := HR.out
        obtain ⟨hC, hbx2, hnx2⟩ := HP.out
        refine ⟨_, cnt2, ss ++ [x], hrg3, by simp; omega, by simpa using hown', own_not_nil hown' (by omega), hC, (hg3.block _ (by simp; omega) (row_ne_low HO.out.1 (by omega))).trans hbx2, hnx2.grown hg3 (by simp; omega) (fun j hj => by have := (HO.out.1.lt j hj).1; omega)⟩
      case measure =>
        rw [HR.out.1.left_eq, HO.out.2.left_eq]
        exact hlt
end Go.Proofs.YtnnbhgnllbjmeaaDoor
