/-
  The reading of settings: the reference's way.
-/
import Derived.Test.YtnnbhgnllbjmeaaGreatDoorPk6
import Derived.Test.YtnnbhgnllbjmeaaGreatDoorPk2
namespace Go.Proofs.YtnnbhgnllbjmeaaGreatDoor
open Go.RowKit

theorem results_two {fn : Func} {p q : Tmp} {ty tz : TypeId} (h : fn.results = #[.cell p ty, .cell q tz]) (tmps : Array Value) (P : Program) (w : World) :
    (results fn tmps).run P w = ((asAddr (tmps.getD p undef)).run P w).andThen fun a w1 => ((loadVar ty a).run P w1).andThen fun v w2 => ((asAddr (tmps.getD q undef)).run P w2).andThen fun b w3 => ((loadVar tz b).run P w3).andThen fun u w4 => .ok (.tuple #[v, u]) w4 := by
  simp only [results, h]
  simp [Sem.run_bind, Result.andThen]
theorem parts_mem {c : UInt8} : ∀ {l a : List UInt8}, a ∈ partsL c l → a.length ≤ l.length
  | [], a, h => by
    have : a = [] := by simpa [partsL] using h
    simp [this]
  | x :: r, a, h => by
    rw [partsL] at h
    split at h
    · rcases List.mem_cons.1 h with rfl | h
      · simp
      · have := parts_mem h
        simp only [List.length_cons]
        omega
    · have hp := parts_pos (c := c) r
      cases hq : partsL c r with
      | nil => rw [hq] at hp; simp at hp
      | cons p q =>
        rw [hq] at h
        simp only at h
        rcases List.mem_cons.1 h with rfl | h
        · have := parts_mem (c := c) (l := r) (a := p) (by rw [hq]; simp)
          simp only [List.length_cons]
          omega
        · have := parts_mem (c := c) (l := r) (a := a) (by rw [hq]; simp [h])
          simp only [List.length_cons]
          omega
theorem lay_drop {C : Cfg} {k j : Nat} {s : ByteArray} {r : Cfg × Nat} (_h : j ≤ s.size) : (layV C k (s.extract j s.size).data.toList = r) = (layV C k (s.data.toList.drop j) = r) := by
  have e : (s.extract j s.size).data.toList = s.data.toList.drop j := by
    rw [extract_mk]
    show (List.take (s.size - j) (s.data.toList.drop j)).toArray.toList = _
    rw [List.toList_toArray, List.take_of_length_le (by rw [List.length_drop, ← Lib.size_eq]; omega)]
  rw [e]
theorem owns_max {w : World} {base n : Nat} {T : TypeId} {v : Value} {xs : List Value} (h : w.ownsRow base T 1 v n xs) : n ≤ 9223372036854775807 := by
  rcases h.2 with ⟨_, rfl⟩ | ⟨_, _, _, _, _, _, h1, h2, _⟩
  · omega
  · unfold maxLen at h2
    omega
theorem made7 : (madeCells #[Value.bool false] 7).toList = List.replicate 7 (Value.bool false) := by
  simp only [madeCells, Array.toList_map, Array.toList_range]
  rfl
theorem infoBool : (Tryz.prog.info? 4).map (fun i => (i.zero, i.size, i.bytes)) = some (some (.bool false), 1, 1) := by kernel_rfl
/-- What the reading of settings answers. -/
def RcPost (l : List UInt8) (e : Ending) (w' : World) : Prop :=
  ∃ D c i v, readC l = (D, c, i) ∧ e = .returned (.tuple #[cfgV D v, .agg #[.int .i64 (c : Nat), .int .i64 (i : Nat), .int .i64 0]]) ∧ IntRow w' v D.s
theorem rcPost_bad {l : List UInt8} {e : Ending} {w' : World} {c i : Nat} (h : readC l = (zeroC, c, i)) (he : e = .returned (.tuple #[.agg #[.int .i64 0, .int .i64 0, .int .i64 0, .int .i64 0, .int .i64 0, .int .i64 0, .int .i64 0, .slice none 0 0], .agg #[.int .i64 (c : Nat), .int .i64 (i : Nat), .int .i64 0]])) : RcPost l e w' :=
  ⟨zeroC, c, i, .slice none 0 0, h, he, Or.inl ⟨rfl, none, 0, rfl⟩⟩
theorem rcPost_ok {l : List UInt8} {e : Ending} {w' : World} {D : Cfg} {v : Value} (h : readC l = (D, 0, 0)) (he : e = .returned (.tuple #[.agg #[.int .i64 D.r, .int .i64 D.d, .int .i64 D.b, .int .i64 D.l, .int .i64 D.m, .int .i64 D.n, .int .i64 D.e, v], .agg #[.int .i64 0, .int .i64 0, .int .i64 0]])) (hr : IntRow w' v D.s) : RcPost l e w' :=
  ⟨D, 0, 0, v, h, he, hr⟩
set_option maxRecDepth 100000 in
set_option maxHeartbeats 2000000 in
theorem specRead_long (s : ByteArray) (hs : 4000 < s.size) (w : World) :
    Calls Tryz.prog 12 #[.string s] w fun e w' => RcPost s.data.toList e w' ∧ Below w.heap.size w w' := by
  have hq : (4000 : Int) < s.size := by omega
  have hR : readC s.data.toList = (zeroC, 1, 0) := by rw [readC, if_pos (by rw [← Lib.size_eq]; exact hs)]
  have HR := Lib.hid hR
  clear hR
  go_enter Tryz.func12, Tryz.ntmps12
  go_wp2_with fail
  refine bodyPost_ret (v := .tuple #[.agg #[.int .i64 0, .int .i64 0, .int .i64 0, .int .i64 0, .int .i64 0, .int .i64 0, .int .i64 0, .slice none 0 0], .agg #[.int .i64 1, .int .i64 0, .int .i64 0]]) ?_ rfl ⟨rcPost_bad HR.out rfl, ?_⟩
  · rw [results_two rfl]
    go_simp
  · repeat' (first | with_reducible exact bt (below_al w _) (below_al _ _) | refine Below.setCell ?_ (by simp <;> omega) _)
set_option maxRecDepth 100000 in
set_option maxHeartbeats 8000000 in
theorem specRead_short (s : ByteArray) (hs : s.size ≤ 4000) (w : World) :
    Calls Tryz.prog 12 #[.string s] w fun e w' => RcPost s.data.toList e w' ∧ Below w.heap.size w w' := by
  obtain ⟨iB, hi, hz0, hz1, hz2⟩ := info_parts infoBool
  have hq : ¬ (4000 : Int) < s.size := by omega
  have hR0 : readC s.data.toList = goC (partsL 10 s.data.toList) 0 [] usualC := by rw [readC, if_neg (by rw [← Lib.size_eq]; omega)]
  obtain ⟨R, hR⟩ : ∃ R, readC s.data.toList = R := ⟨_, rfl⟩
  obtain ⟨ps, hps⟩ : ∃ ps, partsL 10 s.data.toList = ps := ⟨_, rfl⟩
  rw [hR, hps] at hR0
  have hpp := parts_pos (c := 10) s.data.toList
  have hpl := parts_len (c := 10) s.data.toList
  rw [hps] at hpp hpl
  rw [← Lib.size_eq] at hpl
  have HR := Lib.hid hR.symm
  have HR0 := Lib.hid hR0
  have HPS := Lib.hid hps
  clear hR hR0 hps
  go_enter Tryz.func12, Tryz.ntmps12
  go_wp2_with fail
  refine (specUsual _).mono ?_
  rintro e w1 ⟨rfl, hB1⟩
  have xR := blk_next (blk_alloc (alloc_blk w #[.int .i64 0, .int .i64 0, .int .i64 0, .int .i64 0, .int .i64 0, .int .i64 0, .int .i64 0, .slice none 0 0] 26) (.cells #[.int .i64 0, .int .i64 0, .int .i64 0] 31)) hB1
  have xF := blk_next (alloc_blk (w.alloc (.cells #[.int .i64 0, .int .i64 0, .int .i64 0, .int .i64 0, .int .i64 0, .int .i64 0, .int .i64 0, .slice none 0 0] 26)) #[.int .i64 0, .int .i64 0, .int .i64 0] 31) hB1
  simp only [size_alloc] at xF
  have B01 := bt (bt (below_al w (.cells #[.int .i64 0, .int .i64 0, .int .i64 0, .int .i64 0, .int .i64 0, .int .i64 0, .int .i64 0, .slice none 0 0] 26)) (below_al _ (.cells #[.int .i64 0, .int .i64 0, .int .i64 0] 31))) hB1
  have HXR := Lib.hid xR
  have HXF := Lib.hid xF
  have HB01 := Lib.hid B01
  have hge : w.heap.size + 1 + 1 ≤ w1.heap.size := by have := hB1.size; simpa using this
  clear xR xF B01 hB1
  go_wp2_with (at_make; refine wpList_make_full _ rfl _ _ 66 rfl w1.heap.size 4 iB (.bool false) 1 Tryz.underlying66 hi hz0 hz1 .i64 .i64 _ _ 7 rfl rfl rfl rfl ?c1 ?c2 ?c3 ?_)
  case c1 => rw [hz2]; omega
  case c2 => unfold maxLen; omega
  case c3 => simp
  intro w3 hown3 hg3
  have hG := (Below.refl _ _).grown hg3 (Nat.le_refl _) (fun k hk => by cases hk)
  have hbx : w3.heap[w1.heap.size]? = some (.cells (cfgA usualC (.slice none 0 0)) 26 (0, 0)) := blk_next (alloc_blk w1 #[.int .i64 4, .int .i64 2, .int .i64 4, .int .i64 1, .int .i64 1, .int .i64 1, .int .i64 1, .slice none 0 0] 26) hG
  have HBX := Lib.hid hbx
  have HMET := Lib.hid (show w3.ownsRow w.heap.size 4 1 (.slice (some ⟨w1.heap.size + 1, 0, none⟩) 7 7) 7 (metL []) from by
    have h := World.ownsRow.mono (base' := w.heap.size) hown3 (by omega)
    rw [metL_nil]
    rw [made7] at h
    exact h)
  have HB13 := Lib.hid (bt (below_al w1 _) hG)
  clear hG hbx hown3 hg3
  go_wp2_with fail
  refine (specParts s 10 _ (by omega)).mono ?_
  rintro e w4 ⟨vl, rfl, hl, hB4⟩
  rw [HPS.out] at hl
  obtain ⟨gg, cap, rfl⟩ := Joins.ownsRow_form hl hpp
  have hSt : RcSt w w4 w1.heap.size (w1.heap.size + 1) gg cap ps usualC (.slice none 0 0) [] :=
    ⟨blk_next (blk_next HXR.out HB13.out) hB4, blk_next (blk_next HXF.out HB13.out) hB4, blk_next HBX.out hB4, ⟨rfl, Or.inl ⟨rfl, rfl⟩⟩, ownsI_below HMET.out hB4, World.ownsRow.mono hl (by have := HB13.out.size; omega), bt (bt HB01.out HB13.out) hB4, by omega⟩
  have HSt0 := Lib.hid hSt
  clear hl hB4 hSt
  go_wp2_with fail
  go_loopg [7, 8, 9, 10, 11] ps.length (fun g i_ _ _ _ _ wr => ∃ (i : Nat) (D : Cfg) (v : Value) (mt : List Nat), g = ps.length - i ∧ i_ = .int .i64 i ∧ i ≤ ps.length ∧ goC (ps.drop i) i mt D = R ∧ RcSt w wr w1.heap.size (w1.heap.size + 1) gg cap ps D v mt)
  case atStart => exact ⟨0, usualC, .slice none 0 0, [], rfl, rfl, Nat.zero_le _, HR0.out.symm, HSt0.out⟩
  case round =>
    clear HSt0 HBX HMET HXR HXF HB01 HB13
    obtain ⟨i, D, v, mt, rfl, rfl, hi_, hgo, hSt⟩ := hrel
    have HGO := Lib.hid hgo
    have HSt := Lib.hid hSt
    obtain ⟨va, vc, rfl⟩ := ownsI_form hSt.own
    clear hgo hSt
    by_cases hlt : i < ps.length
    · have hi1 : (i : Int) < ps.length := by omega
      have hi0 : (0 : Int) ≤ i := by omega
      obtain ⟨x, hx⟩ : ∃ x, ps[i]? = some x := ⟨_, List.getElem?_eq_getElem hlt⟩
      have hdrop : ps.drop i = x :: ps.drop (i + 1) := by
        rw [List.drop_eq_getElem_cons hlt]
        congr 1
        exact (List.getElem?_eq_some_iff.1 hx).2
      obtain ⟨ln, hln⟩ : ∃ ln : ByteArray, (⟨x.toArray⟩ : ByteArray) = ln := ⟨_, rfl⟩
      have hxl : x = ln.data.toList := by rw [← hln]
      have hcl : wr.cell? ⟨gg, i, none⟩ = some (.string ln) := by
        have h := HSt.out.lns.cellAt i (by omega)
        rw [← hln]
        simpa [strCells, hx] using h
      have hll := World.block_lt_of_cell? wr _ hcl
      have hxs : ln.size ≤ s.size := by
        have := parts_mem (c := 10) (l := s.data.toList) (by rw [HPS.out]; exact List.mem_of_getElem? hx)
        rw [hxl] at this
        rw [Lib.size_eq, Lib.size_eq s]
        exact this
      have HPI : Hid (ps[i]? = some ln.data.toList) := Lib.hid (by rw [hx, hxl])
      subst hxl
      have HGO2 : Hid (goC (ln.data.toList :: ps.drop (i + 1)) i mt D = R) := Lib.hid (by rw [← hdrop]; exact HGO.out)
      clear HGO hdrop hx hln
      by_cases hem : ln.size = 0
      · obtain rfl : ln = ⟨#[]⟩ := by
          have h0 : ln.data.toList = [] := List.eq_nil_of_length_eq_zero (by rw [← Lib.size_eq]; exact hem)
          rw [← Lib.mk_data ln, h0]
        have HN := Lib.hid ((goC_empty (x := (ByteArray.mk #[]).data.toList) (t := ps.drop (i + 1)) (i := i) (mt := mt) (D := D) rfl).symm.trans HGO2.out)
        clear HGO2 hem
        go_wp2_with fail
        go_roundg (ps.length - (i + 1))
        case measure => omega
        case rel => exact ⟨i + 1, D, _, mt, rfl, by go_num, by omega, HN.out, HSt.out⟩
      · have hne : ln.data.toList ≠ [] := by intro e; have := Lib.size_eq ln; rw [e, List.length_nil] at this; exact hem this
        have HNE := Lib.hid hne
        have hne2 : ln.toList.isEmpty = false := by rw [Lib.toList_data]; simpa using hne
        have hne1 : ¬ ln.toList = [] := by rw [Lib.toList_data]; exact hne
        clear hne
        go_wp2_with fail
        go_loopg [8] ln.size (fun g at_ wi => ∃ j : Nat, g = ln.size - j ∧ at_ = .int .i64 j ∧ j ≤ ln.size ∧ wi = wr ∧ ∀ (q : Nat) (hq : q < ln.size), q < j → ln[q] ≠ 61)
        case atStart => exact ⟨0, rfl, rfl, Nat.zero_le _, rfl, fun q hq hj => absurd hj (by omega)⟩
        case round =>
          obtain ⟨j, rfl, rfl, hj, rfl, hno⟩ := hrel
          have HNO := Lib.hid hno
          clear hno
          by_cases hjl : j < ln.size
          · have hj1 : (j : Int) < ln.size := by omega
            have hj0 : (0 : Int) ≤ j := by omega
            by_cases h61 : ln[j] = 61
            · have e61 : ((ln[j].toNat : Int) == 61) = true := byte_eq (c := 61) h61
              have e62 : ((ln[j].toNat : Int) != 61) = false := by rw [bne, e61]; rfl
              have HSP := Lib.hid (split_at hjl h61 HNO.out)
              have hne3 : ((j : Int) == ln.size) = false := by rw [beq_eq_false_iff_ne]; omega
              have hjls : (j : Int) ≤ ln.size := by omega
              clear h61 HNO
              go_wp2_with fail
              have hx1 : ln.extract 0 j = ⟨(ln.data.toList.take j).toArray⟩ := by rw [extract_mk]; simp
              rw [hx1]
              refine (specWord (ln.data.toList.take j) _).mono ?_
              rintro e w5 ⟨rfl, hB5⟩
              have HSt5 := Lib.hid (HSt.out.next hB5)
              clear hx1 hB5 hcl hll
              cases hw : wordOf (ln.data.toList.take j) with
              | none =>
                have hwz : wordZ (ln.data.toList.take j) = -1 := by rw [wordZ, hw]
                rw [hwz]
                replace hw := Lib.hid hw
                clear hwz
                have HB := Lib.hid ((goC_key HNE.out HSP.out hw.out).symm.trans HGO2.out)
                have r0 := cell_blk HSt5.out.res 0
                have rf0 := free_blk HSt5.out.res 0
                have r1 := cell_blk HSt5.out.res 1
                have rf1 := free_blk HSt5.out.res 1
                have r2 := cell_blk HSt5.out.res 2
                have rf2 := free_blk HSt5.out.res 2
                have r3 := cell_blk HSt5.out.res 3
                have rf3 := free_blk HSt5.out.res 3
                have r4 := cell_blk HSt5.out.res 4
                have rf4 := free_blk HSt5.out.res 4
                have r5 := cell_blk HSt5.out.res 5
                have rf5 := free_blk HSt5.out.res 5
                have r6 := cell_blk HSt5.out.res 6
                have rf6 := free_blk HSt5.out.res 6
                have r7 := cell_blk HSt5.out.res 7
                have rf7 := free_blk HSt5.out.res 7
                have rl := blk_lt HSt5.out.res
                have t0 := cell_blk HSt5.out.flt 0
                have tf0 := free_blk HSt5.out.flt 0
                have t1 := cell_blk HSt5.out.flt 1
                have tf1 := free_blk HSt5.out.flt 1
                have t2 := cell_blk HSt5.out.flt 2
                have tf2 := free_blk HSt5.out.flt 2
                have tl := blk_lt HSt5.out.flt
                go_wp2_with fail
                (try simp only [Exit.inBlock, Exit.then])
                refine bodyPost_ret (v := .tuple #[.agg #[.int .i64 0, .int .i64 0, .int .i64 0, .int .i64 0, .int .i64 0, .int .i64 0, .int .i64 0, .slice none 0 0], .agg #[.int .i64 11, .int .i64 i, .int .i64 0]]) ?_ rfl ⟨rcPost_bad (HR.out.symm.trans HB.out.symm) rfl, ?_⟩
                · rw [results_two rfl]
                  go_simp
                · iterate 11 refine Below.setCell ?_ (by simp <;> omega) _
                  exact HSt5.out.bel
              | some k =>
                have hwz : wordZ (ln.data.toList.take j) = k := by rw [wordZ, hw]
                have hk7 := (wordOf_lt hw).1
                rw [hwz]
                replace hw := Lib.hid hw
                clear hwz
                have HMet := HSt5.out.met
                have cm : w5.cell? ⟨w1.heap.size + 1, k, none⟩ = some (.bool (decide (k ∈ mt))) := by
                  have h := HMet.cellAt k (by omega)
                  rw [metL_at hk7] at h
                  exact h
                have fm : w5.frozen? ⟨w1.heap.size + 1, k, none⟩ = false := HMet.frozenAt k
                have lm := World.block_lt_of_cell? w5 _ cm
                have hk0 : (0 : Int) ≤ k := by omega
                have hk1 : (k : Int) < 7 := by omega
                have hkn : ¬ (k : Int) < 0 := by omega
                clear HMet
                by_cases hm : k ∈ mt
                · rw [decide_eq_true hm] at cm
                  have HB := Lib.hid ((goC_twice HNE.out HSP.out hw.out hm).symm.trans HGO2.out)
                  have r0 := cell_blk HSt5.out.res 0
                  have rf0 := free_blk HSt5.out.res 0
                  have r1 := cell_blk HSt5.out.res 1
                  have rf1 := free_blk HSt5.out.res 1
                  have r2 := cell_blk HSt5.out.res 2
                  have rf2 := free_blk HSt5.out.res 2
                  have r3 := cell_blk HSt5.out.res 3
                  have rf3 := free_blk HSt5.out.res 3
                  have r4 := cell_blk HSt5.out.res 4
                  have rf4 := free_blk HSt5.out.res 4
                  have r5 := cell_blk HSt5.out.res 5
                  have rf5 := free_blk HSt5.out.res 5
                  have r6 := cell_blk HSt5.out.res 6
                  have rf6 := free_blk HSt5.out.res 6
                  have r7 := cell_blk HSt5.out.res 7
                  have rf7 := free_blk HSt5.out.res 7
                  have rl := blk_lt HSt5.out.res
                  have t0 := cell_blk HSt5.out.flt 0
                  have tf0 := free_blk HSt5.out.flt 0
                  have t1 := cell_blk HSt5.out.flt 1
                  have tf1 := free_blk HSt5.out.flt 1
                  have t2 := cell_blk HSt5.out.flt 2
                  have tf2 := free_blk HSt5.out.flt 2
                  have tl := blk_lt HSt5.out.flt
                  go_wp2_with fail
                  (try simp only [Exit.inBlock, Exit.then])
                  refine bodyPost_ret (v := .tuple #[.agg #[.int .i64 0, .int .i64 0, .int .i64 0, .int .i64 0, .int .i64 0, .int .i64 0, .int .i64 0, .slice none 0 0], .agg #[.int .i64 6, .int .i64 i, .int .i64 0]]) ?_ rfl ⟨rcPost_bad (HR.out.symm.trans HB.out.symm) rfl, ?_⟩
                  · rw [results_two rfl]
                    go_simp
                  · iterate 11 refine Below.setCell ?_ (by simp <;> omega) _
                    exact HSt5.out.bel
                · rw [decide_eq_false hm] at cm
                  replace hm := Lib.hid hm
                  have HSt6 := Lib.hid (HSt5.out.mark hk7)
                  go_wp2_with fail
                  generalize w5.setCell ⟨w1.heap.size + 1, k, none⟩ (.bool true) = w6 at HSt6 ⊢
                  clear cm fm lm
                  have hS0 : RcS w w1.heap.size (w1.heap.size + 1) gg cap ps D (.slice va D.s.length vc) (k :: mt) i ln w6.drew := RcS.mk HSt6.out.drew HPI.out
                  have hj2 : ((j : Int) + 1).toNat = j + 1 := by omega
                  have hj3 : (0 : Int) ≤ (j : Int) + 1 := by omega
                  have hj4 : (j : Int) + 1 ≤ ln.size := by omega
                  have hj5 : IntKind.i64.wrap ((j : Int) + 1) = (j : Int) + 1 := IntWalk.i64_in _ (by omega)
                  have hxz : (ln.extract (j + 1) ln.size).size ≤ 1048576 := by rw [ByteArray.size_extract]; omega
                  refine wp_region_noPanic ?_
                  refine wp_region_held_drew (S := (RcS w w1.heap.size (w1.heap.size + 1) gg cap ps D (.slice va D.s.length vc) (k :: mt) i ln)) (by kernel_rfl) hS0 (fun hHeld => ?_)
                  clear hS0
                  refine wpAnyH_take (i := 1) (oi := ?o1) (v := ?v1) ?hi1 ?hs1 ?hf1 ?hr1 ?hQ1 ?hy1 ?hS1 ?rest1
                  case hi1 => rfl
                  case hs1 => kernel_rfl
                  case hf1 => kernel_rfl
                  case hr1 => kernel_rfl
                  case hQ1 => exact fun _ _ _ h => h
                  case hS1 => assumption
                  case hy1 =>
                    refine Or.inl ⟨by kernel_rfl, ?_⟩
                    intro w' hSw
                    (try dsimp only at hSw)
                    go_simp
                    (try rfl)
                  (try simp only [List.getElem_toArray, List.getElem_cons_succ, List.getElem_cons_zero, Act.put, List.setIfInBounds_toArray, List.set_cons_zero, List.set_cons_succ])
                  refine wpAnyH_take (i := 2) (oi := ?o2) (v := ?v2) ?hi2 ?hs2 ?hf2 ?hr2 ?hQ2 ?hy2 ?hS2 ?rest2
                  case hi2 => rfl
                  case hs2 => kernel_rfl
                  case hf2 => kernel_rfl
                  case hr2 => kernel_rfl
                  case hQ2 => exact fun _ _ _ h => h
                  case hS2 => assumption
                  case hy2 =>
                    refine Or.inl ⟨by kernel_rfl, ?_⟩
                    intro w' hSw
                    (try dsimp only at hSw)
                    go_simp
                    (try rfl)
                  (try simp only [List.getElem_toArray, List.getElem_cons_succ, List.getElem_cons_zero, Act.put, List.setIfInBounds_toArray, List.set_cons_zero, List.set_cons_succ])
                  refine wpAnyH_take (i := 3) (oi := ?o3) (v := ?v3) ?hi3 ?hs3 ?hf3 ?hr3 ?hQ3 ?hy3 ?hS3 ?rest3
                  case hi3 => rfl
                  case hs3 => kernel_rfl
                  case hf3 => kernel_rfl
                  case hr3 => kernel_rfl
                  case hQ3 => exact fun _ _ _ h => h
                  case hS3 => assumption
                  case hy3 =>
                    refine Or.inl ⟨by kernel_rfl, ?_⟩
                    intro w' hSw
                    (try dsimp only at hSw)
                    go_simp
                    (try rfl)
                  (try simp only [List.getElem_toArray, List.getElem_cons_succ, List.getElem_cons_zero, Act.put, List.setIfInBounds_toArray, List.set_cons_zero, List.set_cons_succ])
                  refine wpAnyH_take (i := 6) (oi := ?o4) (v := ?v4) ?hi4 ?hs4 ?hf4 ?hr4 ?hQ4 ?hy4 ?hS4 ?rest4
                  case hi4 => rfl
                  case hs4 => kernel_rfl
                  case hf4 => kernel_rfl
                  case hr4 => kernel_rfl
                  case hQ4 => exact fun _ _ _ h => h
                  case hS4 => assumption
                  case hy4 =>
                    refine Or.inl ⟨by kernel_rfl, ?_⟩
                    intro w' hSw
                    (try dsimp only at hSw)
                    go_simp
                    (try rfl)
                  (try simp only [List.getElem_toArray, List.getElem_cons_succ, List.getElem_cons_zero, Act.put, List.setIfInBounds_toArray, List.set_cons_zero, List.set_cons_succ])
                  refine wpAnyH_take (i := 7) (oi := ?o5) (v := ?v5) ?hi5 ?hs5 ?hf5 ?hr5 ?hQ5 ?hy5 ?hS5 ?rest5
                  case hi5 => rfl
                  case hs5 => kernel_rfl
                  case hf5 => kernel_rfl
                  case hr5 => kernel_rfl
                  case hQ5 => exact fun _ _ _ h => h
                  case hS5 => assumption
                  case hy5 =>
                    refine Or.inl ⟨by kernel_rfl, ?_⟩
                    intro w' hSw
                    (try dsimp only at hSw)
                    go_simp
                    (try rfl)
                  (try simp only [List.getElem_toArray, List.getElem_cons_succ, List.getElem_cons_zero, Act.put, List.setIfInBounds_toArray, List.set_cons_zero, List.set_cons_succ])
                  refine wpAnyH_take (i := 0) (oi := ?o6) (v := ?v6) ?hi6 ?hs6 ?hf6 ?hr6 ?hQ6 ?hy6 ?hS6 ?rest6
                  case hi6 => rfl
                  case hs6 => kernel_rfl
                  case hf6 => kernel_rfl
                  case hr6 => kernel_rfl
                  case hQ6 => exact fun _ _ _ h => h
                  case hS6 => assumption
                  case hy6 =>
                    refine Or.inl ⟨by kernel_rfl, ?_⟩
                    intro w' hSw
                    (try dsimp only at hSw)
                    go_simp
                    (try rfl)
                  (try simp only [List.getElem_toArray, List.getElem_cons_zero, Act.put, List.setIfInBounds_toArray, List.set_cons_zero, List.set_cons_succ])
                  refine wpAnyH_take (i := 4) (oi := ?o7) (v := ?v7) ?hi7 ?hs7 ?hf7 ?hr7 ?hQ7 ?hy7 ?hS7 ?rest7
                  case hi7 => rfl
                  case hs7 => kernel_rfl
                  case hf7 => kernel_rfl
                  case hr7 => kernel_rfl
                  case hQ7 => exact fun _ _ _ h => h
                  case hS7 => assumption
                  case hy7 =>
                    refine Or.inl ⟨by kernel_rfl, ?_⟩
                    intro w' hSw
                    (try dsimp only at hSw)
                    go_simp
                    (try rfl)
                  (try simp only [List.getElem_toArray, List.getElem_cons_succ, List.getElem_cons_zero, Act.put, List.setIfInBounds_toArray, List.set_cons_zero, List.set_cons_succ])
                  refine wpAnyH_take (i := 5) (oi := ?o8) (v := ?v8) ?hi8 ?hs8 ?hf8 ?hr8 ?hQ8 ?hy8 ?hS8 ?rest8
                  case hi8 => rfl
                  case hs8 => kernel_rfl
                  case hf8 => kernel_rfl
                  case hr8 => kernel_rfl
                  case hQ8 => exact fun _ _ _ h => h
                  case hS8 => assumption
                  case hy8 =>
                    refine Or.inl ⟨by kernel_rfl, ?_⟩
                    intro w' hSw
                    (try dsimp only at hSw)
                    go_simp
                    (try rfl)
                  (try simp only [List.getElem_toArray, List.getElem_cons_succ, List.getElem_cons_zero, Act.put, List.setIfInBounds_toArray, List.set_cons_zero, List.set_cons_succ])
                  refine wpAnyH_take (i := 8) (oi := ?o9) (v := ?v9) ?hi9 ?hs9 ?hf9 ?hr9 ?hQ9 ?hy9 ?hS9 ?rest9
                  case hi9 => rfl
                  case hs9 => kernel_rfl
                  case hf9 => kernel_rfl
                  case hr9 => kernel_rfl
                  case hQ9 => exact fun _ _ _ h => h
                  case hS9 => assumption
                  case hy9 =>
                    refine Or.inl ⟨by kernel_rfl, ?_⟩
                    intro w' hSw
                    (try dsimp only at hSw)
                    go_simp
                    (try rfl)
                  (try simp only [List.getElem_toArray, List.getElem_cons_succ, List.getElem_cons_zero, Act.put, List.setIfInBounds_toArray, List.set_cons_zero, List.set_cons_succ])
                  refine wpAnyH_ready (rs := [9, 13]) (by kernel_rfl) (by simp) ?_
                  refine AllReadyH.cons rfl (fun K hK => ?_) (AllReadyH.cons rfl (fun K hK => ?_) AllReadyH.nil)
                  · go_simp
                    refine (specLay D (.slice va D.s.length vc) k hk7 (ln.extract (j + 1) ln.size) hxz _ w.heap.size (hHeld.2.2.2.2.2.2.2.2.2.bel.size) hHeld.2.2.2.2.2.2.2.2.2.own).mono ?_
                    rintro e w7 ⟨⟨E, cc, v', hlay, rfl, hown'⟩, hB7⟩
                    obtain ⟨ea, ec, rfl⟩ := ownsI_form hown'
                    rw [lay_drop (by omega)] at hlay
                    have HLAY := Lib.hid hlay
                    have HOW := Lib.hid hown'
                    clear hlay hown'
                    simp only [cfgV]
                    refine hK.out _ _ ?_ (fun hHeld2 => ?_)
                    · exact RcS.mk (hHeld.2.2.2.2.2.2.2.2.2.next hB7) HPI.out
                    clear hK K
                    (try simp only [List.getElem_toArray, List.getElem_cons_succ, List.getElem_cons_zero, Act.put, List.setIfInBounds_toArray, List.set_cons_zero, List.set_cons_succ])
                    refine wpAnyH_take (i := 10) (oi := ?o10) (v := ?v10) ?hi10 ?hs10 ?hf10 ?hr10 ?hQ10 ?hy10 ?hS10 ?rest10
                    case hi10 => rfl
                    case hs10 => kernel_rfl
                    case hf10 => kernel_rfl
                    case hr10 => kernel_rfl
                    case hQ10 => exact fun _ _ _ h => h
                    case hS10 => exact hHeld2
                    case hy10 =>
                      refine Or.inl ⟨by kernel_rfl, ?_⟩
                      intro w' hSw
                      (try dsimp only at hSw)
                      go_simp
                      (try rfl)
                    (try simp only [List.getElem_toArray, List.getElem_cons_succ, List.getElem_cons_zero, Act.put, List.setIfInBounds_toArray, List.set_cons_zero, List.set_cons_succ])
                    refine wpAnyH_take (i := 11) (oi := ?o11) (v := ?v11) ?hi11 ?hs11 ?hf11 ?hr11 ?hQ11 ?hy11 ?hS11 ?rest11
                    case hi11 => rfl
                    case hs11 => kernel_rfl
                    case hf11 => kernel_rfl
                    case hr11 => kernel_rfl
                    case hQ11 => exact fun _ _ _ h => h
                    case hS11 => exact hHeld2
                    case hy11 =>
                      refine Or.inl ⟨by kernel_rfl, ?_⟩
                      intro w' hSw
                      (try dsimp only at hSw)
                      go_simp
                      (try rfl)
                    (try simp only [List.getElem_toArray, List.getElem_cons_succ, List.getElem_cons_zero, Act.put, List.setIfInBounds_toArray, List.set_cons_zero, List.set_cons_succ])
                    refine wpAnyH_take (i := 12) (oi := ?o12) (v := ?v12) ?hi12 ?hs12 ?hf12 ?hr12 ?hQ12 ?hy12 ?hS12 ?rest12
                    case hi12 => rfl
                    case hs12 => kernel_rfl
                    case hf12 => kernel_rfl
                    case hr12 => kernel_rfl
                    case hQ12 => exact fun _ _ _ h => h
                    case hS12 => exact hHeld2
                    case hy12 =>
                      refine Or.inl ⟨by kernel_rfl, ?_⟩
                      intro w' hSw
                      (try dsimp only at hSw)
                      go_simp
                      (try rfl)
                    (try simp only [List.getElem_toArray, List.getElem_cons_succ, List.getElem_cons_zero, Act.put, List.setIfInBounds_toArray, List.set_cons_zero, List.set_cons_succ])
                    refine wpAnyH_ready (rs := [13]) (by kernel_rfl) (by simp) ?_
                    refine AllReadyH.cons rfl (fun K hK => ?_) AllReadyH.nil
                    go_simp
                    refine hK.out _ _ ?_ (fun hHeld3 => ?_)
                    · exact RcS.mk (hHeld2.2.2.2.2.2.2.2.2.2.next (below_al w7 _)) HPI.out
                    clear hK K
                    (try simp only [List.getElem_toArray, List.getElem_cons_succ, List.getElem_cons_zero, Act.put, List.setIfInBounds_toArray, List.set_cons_zero, List.set_cons_succ])
                    refine wpAnyH_ready (rs := [14]) (by kernel_rfl) (by simp) ?_
                    refine AllReadyH.cons rfl (fun K hK => ?_) AllReadyH.nil
                    go_simp
                    refine hK.out _ _ ?_ (fun hHeld4 => ?_)
                    · exact RcS.mk (hHeld2.2.2.2.2.2.2.2.2.2.next (below_al w7 _)) HPI.out
                    clear hK K
                    (try simp only [List.getElem_toArray, List.getElem_cons_succ, List.getElem_cons_zero, Act.put, List.setIfInBounds_toArray, List.set_cons_zero, List.set_cons_succ])
                    refine wpAnyH_take (i := 15) (oi := ?o13) (v := ?v13) ?hi13 ?hs13 ?hf13 ?hr13 ?hQ13 ?hy13 ?hS13 ?rest13
                    case hi13 => rfl
                    case hs13 => kernel_rfl
                    case hf13 => kernel_rfl
                    case hr13 => kernel_rfl
                    case hQ13 => exact fun _ _ _ h => h
                    case hS13 => exact hHeld4
                    case hy13 =>
                      refine Or.inl ⟨by kernel_rfl, ?_⟩
                      intro w' hSw
                      (try dsimp only at hSw)
                      go_simp
                      (try rfl)
                    (try simp only [List.getElem_toArray, List.getElem_cons_succ, List.getElem_cons_zero, Act.put, List.setIfInBounds_toArray, List.set_cons_zero, List.set_cons_succ])
                    refine wpAnyH_done (by kernel_rfl) ?_ _
                    refine NoPanic.normal ?_
                    have HSt8 := Lib.hid (RcSt.next hHeld2.2.2.2.2.2.2.2.2.2 (below_al w7 (.cells #[.int .i64 E.r, .int .i64 E.d, .int .i64 E.b, .int .i64 E.l, .int .i64 E.m, .int .i64 E.n, .int .i64 E.e, .slice ea E.s.length ec] 26)))
                    have HOw := Lib.hid (ownsI_below HOW.out (below_al w7 (.cells #[.int .i64 E.r, .int .i64 E.d, .int .i64 E.b, .int .i64 E.l, .int .i64 E.m, .int .i64 E.n, .int .i64 E.e, .slice ea E.s.length ec] 26)))
                    have HNb : Hid ((w7.alloc (.cells #[.int .i64 E.r, .int .i64 E.d, .int .i64 E.b, .int .i64 E.l, .int .i64 E.m, .int .i64 E.n, .int .i64 E.e, .slice ea E.s.length ec] 26)).heap[w7.heap.size]? = some (.cells (cfgA E (.slice ea E.s.length ec)) 26 (0, 0))) := Lib.hid (alloc_blk w7 _ _)
                    have hnc : w7.heap.size ≠ w1.heap.size := by have := blk_lt hHeld2.2.2.2.2.2.2.2.2.2.box; omega
                    clear hHeld hHeld2 hHeld3 hHeld4 hB7 HOW
                    generalize w7.alloc (.cells #[.int .i64 E.r, .int .i64 E.d, .int .i64 E.b, .int .i64 E.l, .int .i64 E.m, .int .i64 E.n, .int .i64 E.e, .slice ea E.s.length ec] 26) = w8 at HSt8 HOw HNb ⊢
                    by_cases hcc : cc = 0
                    · subst hcc
                      have HN := Lib.hid ((goC_good HNE.out HSP.out hw.out hm.out HLAY.out).symm.trans HGO2.out)
                      have n0 : w8.cell? ⟨w7.heap.size, 0, none⟩ = some (.int .i64 E.r) := cell_blk HNb.out 0
                      have n1 : w8.cell? ⟨w7.heap.size, 1, none⟩ = some (.int .i64 E.d) := cell_blk HNb.out 1
                      have n2 : w8.cell? ⟨w7.heap.size, 2, none⟩ = some (.int .i64 E.b) := cell_blk HNb.out 2
                      have n3 : w8.cell? ⟨w7.heap.size, 3, none⟩ = some (.int .i64 E.l) := cell_blk HNb.out 3
                      have n4 : w8.cell? ⟨w7.heap.size, 4, none⟩ = some (.int .i64 E.m) := cell_blk HNb.out 4
                      have n5 : w8.cell? ⟨w7.heap.size, 5, none⟩ = some (.int .i64 E.n) := cell_blk HNb.out 5
                      have n6 : w8.cell? ⟨w7.heap.size, 6, none⟩ = some (.int .i64 E.e) := cell_blk HNb.out 6
                      have n7 : w8.cell? ⟨w7.heap.size, 7, none⟩ = some (.slice ea E.s.length ec) := cell_blk HNb.out 7
                      have nl := blk_lt HNb.out
                      have c0 : w8.cell? ⟨w1.heap.size, 0, none⟩ = some (.int .i64 D.r) := cell_blk HSt8.out.box 0
                      have cf0 := free_blk HSt8.out.box 0
                      have c1 : w8.cell? ⟨w1.heap.size, 1, none⟩ = some (.int .i64 D.d) := cell_blk HSt8.out.box 1
                      have cf1 := free_blk HSt8.out.box 1
                      have c2 : w8.cell? ⟨w1.heap.size, 2, none⟩ = some (.int .i64 D.b) := cell_blk HSt8.out.box 2
                      have cf2 := free_blk HSt8.out.box 2
                      have c3 : w8.cell? ⟨w1.heap.size, 3, none⟩ = some (.int .i64 D.l) := cell_blk HSt8.out.box 3
                      have cf3 := free_blk HSt8.out.box 3
                      have c4 : w8.cell? ⟨w1.heap.size, 4, none⟩ = some (.int .i64 D.m) := cell_blk HSt8.out.box 4
                      have cf4 := free_blk HSt8.out.box 4
                      have c5 : w8.cell? ⟨w1.heap.size, 5, none⟩ = some (.int .i64 D.n) := cell_blk HSt8.out.box 5
                      have cf5 := free_blk HSt8.out.box 5
                      have c6 : w8.cell? ⟨w1.heap.size, 6, none⟩ = some (.int .i64 D.e) := cell_blk HSt8.out.box 6
                      have cf6 := free_blk HSt8.out.box 6
                      have c7 : w8.cell? ⟨w1.heap.size, 7, none⟩ = some (.slice va D.s.length vc) := cell_blk HSt8.out.box 7
                      have cf7 := free_blk HSt8.out.box 7
                      have cl := blk_lt HSt8.out.box
                      have hF := RcSt.put HSt8.out E (.slice ea E.s.length ec) HOw.out
                      have HF := Lib.hid hF
                      clear hF
                      go_wp2_with fail
                      go_roundg (ps.length - (i + 1))
                      case measure => omega
                      case rel => exact ⟨i + 1, E, _, k :: mt, rfl, by go_num, by omega, HN.out, HF.out⟩
                    · have hc1 : ((cc : Int) == 0) = false := by rw [beq_eq_false_iff_ne]; omega
                      have HB := Lib.hid ((goC_bad HNE.out HSP.out hw.out hm.out HLAY.out hcc).symm.trans HGO2.out)
                      have r0 := cell_blk HSt8.out.res 0
                      have rf0 := free_blk HSt8.out.res 0
                      have r1 := cell_blk HSt8.out.res 1
                      have rf1 := free_blk HSt8.out.res 1
                      have r2 := cell_blk HSt8.out.res 2
                      have rf2 := free_blk HSt8.out.res 2
                      have r3 := cell_blk HSt8.out.res 3
                      have rf3 := free_blk HSt8.out.res 3
                      have r4 := cell_blk HSt8.out.res 4
                      have rf4 := free_blk HSt8.out.res 4
                      have r5 := cell_blk HSt8.out.res 5
                      have rf5 := free_blk HSt8.out.res 5
                      have r6 := cell_blk HSt8.out.res 6
                      have rf6 := free_blk HSt8.out.res 6
                      have r7 := cell_blk HSt8.out.res 7
                      have rf7 := free_blk HSt8.out.res 7
                      have rl := blk_lt HSt8.out.res
                      have t0 := cell_blk HSt8.out.flt 0
                      have tf0 := free_blk HSt8.out.flt 0
                      have t1 := cell_blk HSt8.out.flt 1
                      have tf1 := free_blk HSt8.out.flt 1
                      have t2 := cell_blk HSt8.out.flt 2
                      have tf2 := free_blk HSt8.out.flt 2
                      have tl := blk_lt HSt8.out.flt
                      go_wp2_with fail
                      (try simp only [Exit.inBlock, Exit.then])
                      refine bodyPost_ret (v := .tuple #[.agg #[.int .i64 0, .int .i64 0, .int .i64 0, .int .i64 0, .int .i64 0, .int .i64 0, .int .i64 0, .slice none 0 0], .agg #[.int .i64 (cc : Nat), .int .i64 i, .int .i64 0]]) ?_ rfl ⟨rcPost_bad (HR.out.symm.trans HB.out.symm) rfl, ?_⟩
                      · rw [results_two rfl]
                        go_simp
                      · iterate 11 refine Below.setCell ?_ (by simp <;> omega) _
                        exact HSt8.out.bel
                  · go_simp
                    refine hK.out _ _ ?_ (fun hHeld2 => ?_)
                    · exact RcS.mk (hHeld.2.2.2.2.2.2.2.2.2.next (below_al _ _)) HPI.out
                    clear hK K
                    (try simp only [List.getElem_toArray, List.getElem_cons_succ, List.getElem_cons_zero, Act.put, List.setIfInBounds_toArray, List.set_cons_zero, List.set_cons_succ])
                    refine wpAnyH_ready (rs := [9]) (by kernel_rfl) (by simp) ?_
                    refine AllReadyH.cons rfl (fun K hK => ?_) AllReadyH.nil
                    go_simp
                    refine (specLay D (.slice va D.s.length vc) k hk7 (ln.extract (j + 1) ln.size) hxz _ w.heap.size (hHeld2.2.2.2.2.2.2.2.2.2.bel.size) hHeld2.2.2.2.2.2.2.2.2.2.own).mono ?_
                    rintro e w7 ⟨⟨E, cc, v', hlay, rfl, hown'⟩, hB7⟩
                    obtain ⟨ea, ec, rfl⟩ := ownsI_form hown'
                    rw [lay_drop (by omega)] at hlay
                    have HLAY := Lib.hid hlay
                    have HOW := Lib.hid hown'
                    clear hlay hown'
                    simp only [cfgV]
                    refine hK.out _ _ ?_ (fun hHeld3 => ?_)
                    · exact RcS.mk (hHeld2.2.2.2.2.2.2.2.2.2.next hB7) HPI.out
                    clear hK K
                    (try simp only [List.getElem_toArray, List.getElem_cons_succ, List.getElem_cons_zero, Act.put, List.setIfInBounds_toArray, List.set_cons_zero, List.set_cons_succ])
                    refine wpAnyH_take (i := 10) (oi := ?o14) (v := ?v14) ?hi14 ?hs14 ?hf14 ?hr14 ?hQ14 ?hy14 ?hS14 ?rest14
                    case hi14 => rfl
                    case hs14 => kernel_rfl
                    case hf14 => kernel_rfl
                    case hr14 => kernel_rfl
                    case hQ14 => exact fun _ _ _ h => h
                    case hS14 => exact hHeld3
                    case hy14 =>
                      refine Or.inl ⟨by kernel_rfl, ?_⟩
                      intro w' hSw
                      (try dsimp only at hSw)
                      go_simp
                      (try rfl)
                    (try simp only [List.getElem_toArray, List.getElem_cons_succ, List.getElem_cons_zero, Act.put, List.setIfInBounds_toArray, List.set_cons_zero, List.set_cons_succ])
                    refine wpAnyH_take (i := 11) (oi := ?o15) (v := ?v15) ?hi15 ?hs15 ?hf15 ?hr15 ?hQ15 ?hy15 ?hS15 ?rest15
                    case hi15 => rfl
                    case hs15 => kernel_rfl
                    case hf15 => kernel_rfl
                    case hr15 => kernel_rfl
                    case hQ15 => exact fun _ _ _ h => h
                    case hS15 => exact hHeld3
                    case hy15 =>
                      refine Or.inl ⟨by kernel_rfl, ?_⟩
                      intro w' hSw
                      (try dsimp only at hSw)
                      go_simp
                      (try rfl)
                    (try simp only [List.getElem_toArray, List.getElem_cons_succ, List.getElem_cons_zero, Act.put, List.setIfInBounds_toArray, List.set_cons_zero, List.set_cons_succ])
                    refine wpAnyH_take (i := 12) (oi := ?o16) (v := ?v16) ?hi16 ?hs16 ?hf16 ?hr16 ?hQ16 ?hy16 ?hS16 ?rest16
                    case hi16 => rfl
                    case hs16 => kernel_rfl
                    case hf16 => kernel_rfl
                    case hr16 => kernel_rfl
                    case hQ16 => exact fun _ _ _ h => h
                    case hS16 => exact hHeld3
                    case hy16 =>
                      refine Or.inl ⟨by kernel_rfl, ?_⟩
                      intro w' hSw
                      (try dsimp only at hSw)
                      go_simp
                      (try rfl)
                    (try simp only [List.getElem_toArray, List.getElem_cons_succ, List.getElem_cons_zero, Act.put, List.setIfInBounds_toArray, List.set_cons_zero, List.set_cons_succ])
                    have hbl : w7.heap[w6.heap.size]? = some (.cells (cfgA zeroC (.slice none 0 0)) 26 (0, 0)) := blk_next (alloc_blk w6.drew #[.int .i64 0, .int .i64 0, .int .i64 0, .int .i64 0, .int .i64 0, .int .i64 0, .int .i64 0, .slice none 0 0] 26) hB7
                    have hnc : w6.heap.size ≠ w1.heap.size := by have := blk_lt HSt6.out.box; omega
                    have hnl : w.heap.size + 1 < w6.heap.size := by have := blk_lt HSt6.out.box; have := HSt6.out.lt; omega
                    have n0 : w7.cell? ⟨w6.heap.size, 0, none⟩ = some (.int .i64 0) := cell_blk hbl 0
                    have nf0 := free_blk hbl 0
                    have n1 : w7.cell? ⟨w6.heap.size, 1, none⟩ = some (.int .i64 0) := cell_blk hbl 1
                    have nf1 := free_blk hbl 1
                    have n2 : w7.cell? ⟨w6.heap.size, 2, none⟩ = some (.int .i64 0) := cell_blk hbl 2
                    have nf2 := free_blk hbl 2
                    have n3 : w7.cell? ⟨w6.heap.size, 3, none⟩ = some (.int .i64 0) := cell_blk hbl 3
                    have nf3 := free_blk hbl 3
                    have n4 : w7.cell? ⟨w6.heap.size, 4, none⟩ = some (.int .i64 0) := cell_blk hbl 4
                    have nf4 := free_blk hbl 4
                    have n5 : w7.cell? ⟨w6.heap.size, 5, none⟩ = some (.int .i64 0) := cell_blk hbl 5
                    have nf5 := free_blk hbl 5
                    have n6 : w7.cell? ⟨w6.heap.size, 6, none⟩ = some (.int .i64 0) := cell_blk hbl 6
                    have nf6 := free_blk hbl 6
                    have n7 : w7.cell? ⟨w6.heap.size, 7, none⟩ = some (.slice none 0 0) := cell_blk hbl 7
                    have nf7 := free_blk hbl 7
                    have nl := blk_lt hbl
                    refine wpAnyH_ready (rs := [14]) (by kernel_rfl) (by simp) ?_
                    refine AllReadyH.cons rfl (fun K hK => ?_) AllReadyH.nil
                    go_simp
                    refine hK.out _ _ ?_ (fun hHeld4 => ?_)
                    · exact RcS.mk (RcSt.far8 hHeld3.2.2.2.2.2.2.2.2.2 hbl hnc hnl E (.slice ea E.s.length ec)) HPI.out
                    clear hK K
                    clear n0 nf0 n1 nf1 n2 nf2 n3 nf3 n4 nf4 n5 nf5 n6 nf6 n7 nf7 nl
                    (try simp only [List.getElem_toArray, List.getElem_cons_succ, List.getElem_cons_zero, Act.put, List.setIfInBounds_toArray, List.set_cons_zero, List.set_cons_succ])
                    refine wpAnyH_take (i := 15) (oi := ?o17) (v := ?v17) ?hi17 ?hs17 ?hf17 ?hr17 ?hQ17 ?hy17 ?hS17 ?rest17
                    case hi17 => rfl
                    case hs17 => kernel_rfl
                    case hf17 => kernel_rfl
                    case hr17 => kernel_rfl
                    case hQ17 => exact fun _ _ _ h => h
                    case hS17 => exact hHeld4
                    case hy17 =>
                      refine Or.inl ⟨by kernel_rfl, ?_⟩
                      intro w' hSw
                      (try dsimp only at hSw)
                      go_simp
                      (try rfl)
                    (try simp only [List.getElem_toArray, List.getElem_cons_succ, List.getElem_cons_zero, Act.put, List.setIfInBounds_toArray, List.set_cons_zero, List.set_cons_succ])
                    refine wpAnyH_done (by kernel_rfl) ?_ _
                    refine NoPanic.normal ?_
                    have HSt8 := Lib.hid (RcSt.far8 hHeld3.2.2.2.2.2.2.2.2.2 hbl hnc hnl E (.slice ea E.s.length ec))
                    have HOw : Hid ((((((((((w7).setCell ⟨w6.heap.size, 0, none⟩ (.int .i64 E.r)).setCell ⟨w6.heap.size, 1, none⟩ (.int .i64 E.d)).setCell ⟨w6.heap.size, 2, none⟩ (.int .i64 E.b)).setCell ⟨w6.heap.size, 3, none⟩ (.int .i64 E.l)).setCell ⟨w6.heap.size, 4, none⟩ (.int .i64 E.m)).setCell ⟨w6.heap.size, 5, none⟩ (.int .i64 E.n)).setCell ⟨w6.heap.size, 6, none⟩ (.int .i64 E.e)).setCell ⟨w6.heap.size, 7, none⟩ (.slice ea E.s.length ec)).ownsRow w.heap.size 3 1 (.slice ea E.s.length ec) E.s.length (intCells E.s)) := Lib.hid (by
                      iterate 8 refine ownsRow_setCell_other ?_ (owns_ne_blk HOW.out hbl (by decide)) _
                      exact HOW.out)
                    have HNb := Lib.hid (put8_box hbl E (.slice ea E.s.length ec))
                    clear hHeld hHeld2 hHeld3 hHeld4 hB7 HOW hbl
                    generalize ((((((((w7).setCell ⟨w6.heap.size, 0, none⟩ (.int .i64 E.r)).setCell ⟨w6.heap.size, 1, none⟩ (.int .i64 E.d)).setCell ⟨w6.heap.size, 2, none⟩ (.int .i64 E.b)).setCell ⟨w6.heap.size, 3, none⟩ (.int .i64 E.l)).setCell ⟨w6.heap.size, 4, none⟩ (.int .i64 E.m)).setCell ⟨w6.heap.size, 5, none⟩ (.int .i64 E.n)).setCell ⟨w6.heap.size, 6, none⟩ (.int .i64 E.e)).setCell ⟨w6.heap.size, 7, none⟩ (.slice ea E.s.length ec) = w8 at HSt8 HOw HNb ⊢
                    by_cases hcc : cc = 0
                    · subst hcc
                      have HN := Lib.hid ((goC_good HNE.out HSP.out hw.out hm.out HLAY.out).symm.trans HGO2.out)
                      have n0 : w8.cell? ⟨w6.heap.size, 0, none⟩ = some (.int .i64 E.r) := cell_blk HNb.out 0
                      have n1 : w8.cell? ⟨w6.heap.size, 1, none⟩ = some (.int .i64 E.d) := cell_blk HNb.out 1
                      have n2 : w8.cell? ⟨w6.heap.size, 2, none⟩ = some (.int .i64 E.b) := cell_blk HNb.out 2
                      have n3 : w8.cell? ⟨w6.heap.size, 3, none⟩ = some (.int .i64 E.l) := cell_blk HNb.out 3
                      have n4 : w8.cell? ⟨w6.heap.size, 4, none⟩ = some (.int .i64 E.m) := cell_blk HNb.out 4
                      have n5 : w8.cell? ⟨w6.heap.size, 5, none⟩ = some (.int .i64 E.n) := cell_blk HNb.out 5
                      have n6 : w8.cell? ⟨w6.heap.size, 6, none⟩ = some (.int .i64 E.e) := cell_blk HNb.out 6
                      have n7 : w8.cell? ⟨w6.heap.size, 7, none⟩ = some (.slice ea E.s.length ec) := cell_blk HNb.out 7
                      have nl := blk_lt HNb.out
                      have c0 : w8.cell? ⟨w1.heap.size, 0, none⟩ = some (.int .i64 D.r) := cell_blk HSt8.out.box 0
                      have cf0 := free_blk HSt8.out.box 0
                      have c1 : w8.cell? ⟨w1.heap.size, 1, none⟩ = some (.int .i64 D.d) := cell_blk HSt8.out.box 1
                      have cf1 := free_blk HSt8.out.box 1
                      have c2 : w8.cell? ⟨w1.heap.size, 2, none⟩ = some (.int .i64 D.b) := cell_blk HSt8.out.box 2
                      have cf2 := free_blk HSt8.out.box 2
                      have c3 : w8.cell? ⟨w1.heap.size, 3, none⟩ = some (.int .i64 D.l) := cell_blk HSt8.out.box 3
                      have cf3 := free_blk HSt8.out.box 3
                      have c4 : w8.cell? ⟨w1.heap.size, 4, none⟩ = some (.int .i64 D.m) := cell_blk HSt8.out.box 4
                      have cf4 := free_blk HSt8.out.box 4
                      have c5 : w8.cell? ⟨w1.heap.size, 5, none⟩ = some (.int .i64 D.n) := cell_blk HSt8.out.box 5
                      have cf5 := free_blk HSt8.out.box 5
                      have c6 : w8.cell? ⟨w1.heap.size, 6, none⟩ = some (.int .i64 D.e) := cell_blk HSt8.out.box 6
                      have cf6 := free_blk HSt8.out.box 6
                      have c7 : w8.cell? ⟨w1.heap.size, 7, none⟩ = some (.slice va D.s.length vc) := cell_blk HSt8.out.box 7
                      have cf7 := free_blk HSt8.out.box 7
                      have cl := blk_lt HSt8.out.box
                      have hF := RcSt.put HSt8.out E (.slice ea E.s.length ec) HOw.out
                      have HF := Lib.hid hF
                      clear hF
                      go_wp2_with fail
                      go_roundg (ps.length - (i + 1))
                      case measure => omega
                      case rel => exact ⟨i + 1, E, _, k :: mt, rfl, by go_num, by omega, HN.out, HF.out⟩
                    · have hc1 : ((cc : Int) == 0) = false := by rw [beq_eq_false_iff_ne]; omega
                      have HB := Lib.hid ((goC_bad HNE.out HSP.out hw.out hm.out HLAY.out hcc).symm.trans HGO2.out)
                      have r0 := cell_blk HSt8.out.res 0
                      have rf0 := free_blk HSt8.out.res 0
                      have r1 := cell_blk HSt8.out.res 1
                      have rf1 := free_blk HSt8.out.res 1
                      have r2 := cell_blk HSt8.out.res 2
                      have rf2 := free_blk HSt8.out.res 2
                      have r3 := cell_blk HSt8.out.res 3
                      have rf3 := free_blk HSt8.out.res 3
                      have r4 := cell_blk HSt8.out.res 4
                      have rf4 := free_blk HSt8.out.res 4
                      have r5 := cell_blk HSt8.out.res 5
                      have rf5 := free_blk HSt8.out.res 5
                      have r6 := cell_blk HSt8.out.res 6
                      have rf6 := free_blk HSt8.out.res 6
                      have r7 := cell_blk HSt8.out.res 7
                      have rf7 := free_blk HSt8.out.res 7
                      have rl := blk_lt HSt8.out.res
                      have t0 := cell_blk HSt8.out.flt 0
                      have tf0 := free_blk HSt8.out.flt 0
                      have t1 := cell_blk HSt8.out.flt 1
                      have tf1 := free_blk HSt8.out.flt 1
                      have t2 := cell_blk HSt8.out.flt 2
                      have tf2 := free_blk HSt8.out.flt 2
                      have tl := blk_lt HSt8.out.flt
                      go_wp2_with fail
                      (try simp only [Exit.inBlock, Exit.then])
                      refine bodyPost_ret (v := .tuple #[.agg #[.int .i64 0, .int .i64 0, .int .i64 0, .int .i64 0, .int .i64 0, .int .i64 0, .int .i64 0, .slice none 0 0], .agg #[.int .i64 (cc : Nat), .int .i64 i, .int .i64 0]]) ?_ rfl ⟨rcPost_bad (HR.out.symm.trans HB.out.symm) rfl, ?_⟩
                      · rw [results_two rfl]
                        go_simp
                      · iterate 11 refine Below.setCell ?_ (by simp <;> omega) _
                        exact HSt8.out.bel
            · have e61 : ((ln[j].toNat : Int) == 61) = false := byte_ne (c := 61) h61
              have e62 : ((ln[j].toNat : Int) != 61) = true := by rw [bne, e61]; rfl
              have HN61 := Lib.hid h61
              clear h61
              go_wp2_with fail
              go_roundg (ln.size - (j + 1))
              case measure => omega
              case rel =>
                refine ⟨j + 1, rfl, by go_num, by omega, rfl, fun q hq hqj => ?_⟩
                by_cases hqj2 : q < j
                · exact HNO.out q hq hqj2
                · obtain rfl : q = j := by omega
                  exact HN61.out
          · have hje : j = ln.size := by omega
            have hj1 : ¬ (j : Int) < ln.size := by omega
            have hne3 : ((j : Int) == ln.size) = true := by rw [beq_iff_eq]; omega
            have HSP : Hid (splitEq ln.data.toList = none) := Lib.hid (split_no (fun q hq => HNO.out q hq (by omega)))
            clear hje HNO
            have HB := Lib.hid ((goC_line HNE.out HSP.out).symm.trans HGO2.out)
            have r0 := cell_blk HSt.out.res 0
            have rf0 := free_blk HSt.out.res 0
            have r1 := cell_blk HSt.out.res 1
            have rf1 := free_blk HSt.out.res 1
            have r2 := cell_blk HSt.out.res 2
            have rf2 := free_blk HSt.out.res 2
            have r3 := cell_blk HSt.out.res 3
            have rf3 := free_blk HSt.out.res 3
            have r4 := cell_blk HSt.out.res 4
            have rf4 := free_blk HSt.out.res 4
            have r5 := cell_blk HSt.out.res 5
            have rf5 := free_blk HSt.out.res 5
            have r6 := cell_blk HSt.out.res 6
            have rf6 := free_blk HSt.out.res 6
            have r7 := cell_blk HSt.out.res 7
            have rf7 := free_blk HSt.out.res 7
            have rl := blk_lt HSt.out.res
            have t0 := cell_blk HSt.out.flt 0
            have tf0 := free_blk HSt.out.flt 0
            have t1 := cell_blk HSt.out.flt 1
            have tf1 := free_blk HSt.out.flt 1
            have t2 := cell_blk HSt.out.flt 2
            have tf2 := free_blk HSt.out.flt 2
            have tl := blk_lt HSt.out.flt
            go_wp2_with fail
            (try simp only [Exit.inBlock, Exit.then])
            refine bodyPost_ret (v := .tuple #[.agg #[.int .i64 0, .int .i64 0, .int .i64 0, .int .i64 0, .int .i64 0, .int .i64 0, .int .i64 0, .slice none 0 0], .agg #[.int .i64 10, .int .i64 i, .int .i64 0]]) ?_ rfl ⟨rcPost_bad (HR.out.symm.trans HB.out.symm) rfl, ?_⟩
            · rw [results_two rfl]
              go_simp
            · iterate 11 refine Below.setCell ?_ (by simp <;> omega) _
              exact HSt.out.bel
    · have hie : i = ps.length := by omega
      have hi1 : ¬ (i : Int) < ps.length := by omega
      have HN : Hid (R = (D, 0, 0)) := Lib.hid (by
        have h := HGO.out
        rw [List.drop_eq_nil_of_le (by omega)] at h
        exact h.symm)
      clear hie HGO
      have r0 := cell_blk HSt.out.res 0
      have rf0 := free_blk HSt.out.res 0
      have r1 := cell_blk HSt.out.res 1
      have rf1 := free_blk HSt.out.res 1
      have r2 := cell_blk HSt.out.res 2
      have rf2 := free_blk HSt.out.res 2
      have r3 := cell_blk HSt.out.res 3
      have rf3 := free_blk HSt.out.res 3
      have r4 := cell_blk HSt.out.res 4
      have rf4 := free_blk HSt.out.res 4
      have r5 := cell_blk HSt.out.res 5
      have rf5 := free_blk HSt.out.res 5
      have r6 := cell_blk HSt.out.res 6
      have rf6 := free_blk HSt.out.res 6
      have r7 := cell_blk HSt.out.res 7
      have rf7 := free_blk HSt.out.res 7
      have rl := blk_lt HSt.out.res
      have t0 := cell_blk HSt.out.flt 0
      have tf0 := free_blk HSt.out.flt 0
      have t1 := cell_blk HSt.out.flt 1
      have tf1 := free_blk HSt.out.flt 1
      have t2 := cell_blk HSt.out.flt 2
      have tf2 := free_blk HSt.out.flt 2
      have tl := blk_lt HSt.out.flt
      have c0 : wr.cell? ⟨w1.heap.size, 0, none⟩ = some (.int .i64 D.r) := cell_blk HSt.out.box 0
      have cf0 := free_blk HSt.out.box 0
      have c1 : wr.cell? ⟨w1.heap.size, 1, none⟩ = some (.int .i64 D.d) := cell_blk HSt.out.box 1
      have cf1 := free_blk HSt.out.box 1
      have c2 : wr.cell? ⟨w1.heap.size, 2, none⟩ = some (.int .i64 D.b) := cell_blk HSt.out.box 2
      have cf2 := free_blk HSt.out.box 2
      have c3 : wr.cell? ⟨w1.heap.size, 3, none⟩ = some (.int .i64 D.l) := cell_blk HSt.out.box 3
      have cf3 := free_blk HSt.out.box 3
      have c4 : wr.cell? ⟨w1.heap.size, 4, none⟩ = some (.int .i64 D.m) := cell_blk HSt.out.box 4
      have cf4 := free_blk HSt.out.box 4
      have c5 : wr.cell? ⟨w1.heap.size, 5, none⟩ = some (.int .i64 D.n) := cell_blk HSt.out.box 5
      have cf5 := free_blk HSt.out.box 5
      have c6 : wr.cell? ⟨w1.heap.size, 6, none⟩ = some (.int .i64 D.e) := cell_blk HSt.out.box 6
      have cf6 := free_blk HSt.out.box 6
      have c7 : wr.cell? ⟨w1.heap.size, 7, none⟩ = some (.slice va D.s.length vc) := cell_blk HSt.out.box 7
      have cf7 := free_blk HSt.out.box 7
      have cl := blk_lt HSt.out.box
      go_wp2_with fail
      refine bodyPost_ret (v := .tuple #[.agg #[.int .i64 D.r, .int .i64 D.d, .int .i64 D.b, .int .i64 D.l, .int .i64 D.m, .int .i64 D.n, .int .i64 D.e, (.slice va D.s.length vc)], .agg #[.int .i64 0, .int .i64 0, .int .i64 0]]) ?_ rfl ⟨rcPost_ok (HR.out.symm.trans HN.out) rfl ?_, ?_⟩
      · rw [results_two rfl]
        go_simp
      · refine intRow_of_owns (base := w.heap.size) (T := 3) ?_ (owns_max HSt.out.own)
        iterate 3 refine ownsRow_setCell_other ?_ (owns_ne_blk HSt.out.own HSt.out.flt (by decide)) _
        iterate 8 refine ownsRow_setCell_other ?_ (owns_ne_blk HSt.out.own HSt.out.res (by decide)) _
        exact HSt.out.own
      · iterate 11 refine Below.setCell ?_ (by simp <;> omega) _
        exact HSt.out.bel
/-- WHAT THE READING OF SETTINGS ANSWERS. -/
theorem specReadConfig (s : ByteArray) (w : World) :
    Calls Tryz.prog 12 #[.string s] w fun e w' => RcPost s.data.toList e w' ∧ Below w.heap.size w w' := by
  by_cases hs : 4000 < s.size
  · exact specRead_long s hs w
  · exact specRead_short s (by omega) w
end Go.Proofs.YtnnbhgnllbjmeaaGreatDoor
