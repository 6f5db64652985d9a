/-
  What is wrong with the names of a table: the reference's way.
-/
import Derived.Test.YticeagjonfifbaaGreatDoorPk7
import Derived.Test.YticeagjonfifbaaGreatDoorTabO
namespace Go.Proofs.YticeagjonfifbaaGreatDoor
open Go.RowKit

theorem results_oneF {fn : Func} {p : Tmp} {ty : TypeId} (h : fn.results = #[.cell p ty]) (tmps : Array Value) (P : Program) (w : World) :
    (results fn tmps).run P w = ((asAddr (tmps.getD p undef)).run P w).andThen fun a w1 => (loadVar ty a).run P w1 := by
  simp only [results, h]
  simp [Sem.run_bind, Result.andThen]
theorem drewN_drewN (w : World) (a b : Nat) : (w.drewN a).drewN b = w.drewN (a + b) := by
  first | rfl | simp [World.drewN, Nat.add_comm, Nat.add_left_comm]
theorem ret_fa {a b c d : Nat} (h : (a, b) = (c, d)) : Ending.returned (.agg #[.int .i64 a, .int .i64 0, .int .i64 b]) = .returned (faV c 0 d) := by
  injection h with h1 h2
  subst h1
  subst h2
  rfl
set_option maxRecDepth 100000 in
theorem specHead (v : Value) (L : List (List UInt8)) (w : World) (h : StrRow w v L) (hnl : ∀ p ∈ L, p.length ≤ 9223372036854775807) :
    Calls Tryz.prog 50 #[v] w fun e w' => e = .returned (faV (headF L).1 0 (headF L).2) ∧ Below w.heap.size w w' := by
  have P1 := Lib.hid h
  obtain ⟨a1, c1, rfl, hl1, hf1⟩ := sRow_cells h
  have HF1 := Lib.hid hf1
  obtain ⟨n, hn⟩ : ∃ n : Nat, L.length = n := ⟨_, rfl⟩
  rw [hn] at hl1 P1 ⊢
  obtain ⟨b1, hb1⟩ : ∃ b, inZ (n : Int) 2 5 = b := ⟨_, rfl⟩
  have HO : Hid (headF L = if b1 = true then headG L n 0 else (7, 0)) := Lib.hid (by rw [headF, hn, hb1])
  have B1 := Lib.hid hb1
  have HN := Lib.hid hn
  have HNL := Lib.hid hnl
  clear hb1 hn hnl hf1 h
  obtain ⟨w0, hw0⟩ : ∃ x, w.alloc (.cells #[.int .i64 0, .int .i64 0, .int .i64 0] 33) = x := ⟨_, rfl⟩
  have HB0 : Hid (Below w.heap.size w w0) := Lib.hid (hw0 ▸ (Below.refl _ _).alloc (Nat.le_refl _) _)
  have HX0 : Hid (w0.heap[w.heap.size]? = some (.cells #[.int .i64 0, .int .i64 0, .int .i64 0] 33 (0, 0))) := Lib.hid (hw0 ▸ alloc_blk w _ _)
  go_enter Tryz.func50, Tryz.ntmps50
  go_wp2_with fail
  refine (specIn9 _ _ _ _).mono ?_
  rintro e w1 ⟨rfl, rfl⟩
  rw [B1.out]
  clear hw0
  cases b1 with
  | false =>
    have d0 := cell_blk HX0.out 0
    have d1 := cell_blk HX0.out 1
    have d2 := cell_blk HX0.out 2
    have f0 := free_blk HX0.out 0
    have f1 := free_blk HX0.out 1
    have f2 := free_blk HX0.out 2
    go_wp2_with fail
    refine bodyPost_ret (v := .agg #[.int .i64 7, .int .i64 0, .int .i64 0]) ?_ rfl ⟨ret_fa (a := 7) (b := 0) (by rw [HO.out]; rfl), ((HB0.out.setCell (Nat.le_refl _) _).setCell (Nat.le_refl _) _).setCell (Nat.le_refl _) _⟩
    rw [results_oneF rfl]
    go_simp
  | true =>
    have hn4 := inZ_iff.1 B1.out
    have HOT : Hid (headF L = headG L n 0) := Lib.hid HO.out
    clear HO
    go_wp2_with fail
    go_loopw [3] (fun i wr => ∃ j : Nat, j ≤ n ∧ i = .int .i64 j ∧ headF L = headG L (n - j) j ∧ ∃ z, wr = w0.drewN z) (fun i _ => n - (intOf i).toNat)
    case atStart => exact ⟨0, Nat.zero_le _, rfl, HOT.out, 0, rfl⟩
    case round =>
      obtain ⟨j, hj, rfl, hg, z, rfl⟩ := hrel
      have HG := Lib.hid hg
      clear hg
      have X1 : Hid ((w0.drewN z).heap[w.heap.size]? = some (.cells #[.int .i64 0, .int .i64 0, .int .i64 0] 33 (0, 0))) := Lib.hid HX0.out
      have hBz : Below w.heap.size w (w0.drewN z) := below_drewN2 HB0.out z
      obtain ⟨w1, hw1⟩ : ∃ x, x = w0.drewN z := ⟨_, rfl⟩
      rw [← hw1] at X1 hBz ⊢
      have HW1 := Lib.hid hw1
      clear hw1
      by_cases hlt : j < n
      · have hj1 : (j : Int) < n := by omega
        have hj0 : (0 : Int) ≤ j := by omega
        obtain ⟨p, hp⟩ : ∃ r, L[j]? = some r := ⟨_, List.getElem?_eq_getElem (by rw [HN.out]; exact hlt)⟩
        have hpl := HNL.out p (List.mem_of_getElem? hp)
        have hcap := sRow_cap P1.out (by omega)
        obtain ⟨b, off, rfl, hcp⟩ := HF1.out j p hp
        have hc1 := (hBz.cell (p := ⟨b, off + j, none⟩) (World.block_lt_of_cell? w _ hcp)).trans hcp
        have hlb := World.block_lt_of_cell? w1 _ hc1
        obtain ⟨b5, hb5⟩ : ∃ b, nameB p = b := ⟨_, rfl⟩
        obtain ⟨b6, hb6⟩ : ∃ b, hasB (L.take j) p = b := ⟨_, rfl⟩
        have HP := Lib.hid hp
        have B5 := Lib.hid hb5
        have B6 := Lib.hid hb6
        clear hp hb5 hb6
        have hjc : (j : Int) ≤ c1 := by omega
        have HBz := Lib.hid hBz
        clear hBz
        go_wp2_with fail
        refine (specName9 p hpl _ b5 B5.out).mono ?_
        rintro e w2 ⟨rfl, q1, hw2⟩
        have HB2 : Hid (Below w.heap.size w w2) := Lib.hid (hw2 ▸ below_drewN2 HBz.out q1)
        have X2 : Hid (w2.heap[w.heap.size]? = some (.cells #[.int .i64 0, .int .i64 0, .int .i64 0] 33 (0, 0))) := Lib.hid (hw2 ▸ X1.out)
        have HW2 : Hid (w2 = w0.drewN (z + q1)) := Lib.hid (by rw [hw2, HW1.out, drewN_drewN])
        clear hw2 hc1
        have hc2 := (HB2.out.cell (p := ⟨b, off + j, none⟩) (World.block_lt_of_cell? w _ hcp)).trans hcp
        have hlb2 := World.block_lt_of_cell? w2 _ hc2
        cases b5 with
        | false =>
          have d0 := cell_blk X2.out 0
          have d1 := cell_blk X2.out 1
          have d2 := cell_blk X2.out 2
          have f0 := free_blk X2.out 0
          have f1 := free_blk X2.out 1
          have f2 := free_blk X2.out 2
          go_wp2_with fail
          refine bodyPost_ret (v := .agg #[.int .i64 5, .int .i64 0, .int .i64 j]) ?_ rfl ⟨ret_fa (a := 5) (b := j) (by rw [HG.out, headG_bad1 hlt HP.out B5.out]), ?_⟩
          · rw [results_oneF rfl]
            go_simp
          · exact ((HB2.out.setCell (Nat.le_refl _) _).setCell (Nat.le_refl _) _).setCell (Nat.le_refl _) _
        | true =>
          have KH : ∀ z, Hid (Calls Tryz.prog 54 #[.slice (some ⟨b, off, none⟩) j c1, .string ⟨p.toArray⟩] (w2.drewN z) fun e w' => e = .returned (.bool b6) ∧ ∃ k, w' = (w2.drewN z).drewN k) := fun z => specHas _ _ (L.take j) p ((sRow_take P1.out (by omega) HN.out c1 (by omega)).below (below_drewN2 HB2.out z)) b6 B6.out
          have d0 := cell_blk X2.out 0
          have d1 := cell_blk X2.out 1
          have d2 := cell_blk X2.out 2
          have f0 := free_blk X2.out 0
          have f1 := free_blk X2.out 1
          have f2 := free_blk X2.out 2
          cases b6 with
          | true =>
            go_wp2_with fail
            go_quiet (first | (go_at_call 54; exact Calls.quiet_of (KH _).out))
            go_wp2_with fail
            refine bodyPost_ret (v := .agg #[.int .i64 6, .int .i64 0, .int .i64 j]) ?_ rfl ⟨ret_fa (a := 6) (b := j) (by rw [HG.out, headG_bad2 hlt HP.out B5.out B6.out]), ?_⟩
            · rw [results_oneF rfl]
              go_simp
            · exact (((below_drewN2 HB2.out _).setCell (Nat.le_refl _) _).setCell (Nat.le_refl _) _).setCell (Nat.le_refl _) _
          | false =>
            go_wp2_with fail
            go_quiet (first | (go_at_call 54; exact Calls.quiet_of (KH _).out))
            go_wp2_with fail
            go_roundw
            case rel => exact ⟨j + 1, by omega, by go_num, by rw [HG.out, headG_next hlt HP.out B5.out B6.out], _, by rw [HW2.out, drewN_drewN]⟩
            case measure => simp [intOf]; omega
      · have hj1 : ¬ (j : Int) < n := by omega
        have d0 := cell_blk X1.out 0
        have d1 := cell_blk X1.out 1
        have d2 := cell_blk X1.out 2
        have f0 := free_blk X1.out 0
        have f1 := free_blk X1.out 1
        have f2 := free_blk X1.out 2
        go_wp2_with fail
        refine bodyPost_ret (v := .agg #[.int .i64 0, .int .i64 0, .int .i64 0]) ?_ rfl ⟨ret_fa (a := 0) (b := 0) (by rw [HG.out, show n - j = 0 by omega]; rfl), ?_⟩
        · rw [results_oneF rfl]
          go_simp
        · exact ((hBz.setCell (Nat.le_refl _) _).setCell (Nat.le_refl _) _).setCell (Nat.le_refl _) _
end Go.Proofs.YticeagjonfifbaaGreatDoor
