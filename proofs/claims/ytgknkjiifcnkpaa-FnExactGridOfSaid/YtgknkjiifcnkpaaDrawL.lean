/-
  The draws of lists of numbers.
-/
import Derived.Test.YtgknkjiifcnkpaaPk1
import Derived.Test.YtgknkjiifcnkpaaTabS
import Derived.Deep.LoopGhost
import Derived.Deep.DeepCutAuto
import Derived.Maps.AppendAt
namespace Go.Proofs.Ytgknkjiifcnkpaa
open Go.RowKit

theorem Cur.grownL {W w w' : World} {p : Nat} {r : Option Nat} (h : Cur W w p) (hg : w.grownBy w' r) (hr : ∀ k, r = some k → W.heap.size ≤ k ∧ k ≠ p) : Cur W w' p := by
  have hlt := h.lt
  obtain ⟨hp, hB, v, n, i, x, hb, hi, h0, h1, hblk⟩ := h
  exact ⟨hp, hB.grown hg hB.size (fun k hk => (hr k hk).1), v, n, i, x, hb, hi, h0, h1, (hg.block p hlt (fun e => (hr p e.symm).2 rfl)).trans hblk⟩
theorem Cur.blkL {W w : World} {p : Nat} (h : Cur W w p) : ∃ cs, w.heap[p]? = some (.cells cs 80 (0, 0)) := by
  obtain ⟨_, _, v, n, i, x, _, _, _, _, hblk⟩ := h
  exact ⟨_, hblk⟩
/-- The row that is drawn, and the cursor. -/
structure DrI (W w0 wr : World) (p : Nat) (v : Value) (L : List Int) : Prop where
  cur : Cur W wr p
  own : wr.ownsRow w0.heap.size 3 1 v L.length (intCells L)
  hW : W.heap.size ≤ w0.heap.size
  ge : w0.heap.size ≤ wr.heap.size
theorem DrI.draw {W w0 wr w' : World} {p : Nat} {v : Value} {L : List Int} (h : DrI W w0 wr p v L) (hc : Cur W w' p) (hg : wr.grownBy w' (some p)) : DrI W w0 w' p v L := by
  obtain ⟨cs, hb⟩ := h.cur.blkL
  exact ⟨hc, owns_far h.own hg (fun g e => by obtain rfl := Option.some.inj e; exact own_ne_blk h.own hb (by decide)), h.hW, Nat.le_trans h.ge hg.size⟩
theorem DrI.laid {W w0 wr : World} {p : Nat} {v : Value} {L : List Int} (h : DrI W w0 wr p v L) (o : Obj) : DrI W w0 (wr.alloc o) p v L := h.draw (h.cur.alloc o) (grow_al _ _ _)
theorem DrI.app {W w0 wr w' : World} {p : Nat} {v v' : Value} {L : List Int} {x : Int} (h : DrI W w0 wr p v L) (hg : wr.grownBy w' v.ownBlock) (ho : w'.ownsRow w0.heap.size 3 1 v' (L.length + 1) (intCells L ++ [.int .i64 x])) : DrI W w0 w' p v' (L ++ [x]) := by
  obtain ⟨cs, hb⟩ := h.cur.blkL
  refine ⟨h.cur.grownL hg (fun k hk => ⟨Nat.le_trans h.hW (h.own.lt k hk).1, fun e => own_ne_blk h.own hb (by decide) (e ▸ hk)⟩), ?_, h.hW, Nat.le_trans h.ge hg.size⟩
  rw [List.length_append, show intCells (L ++ [x]) = intCells L ++ [.int .i64 x] by unfold intCells; rw [List.map_append]; rfl]
  exact ho
theorem news_blkL {w : World} {b : Nat} {T : TypeId} {x : Value} (h : w.heap[b]? = some (.cells #[x] T (0, 0))) : ∀ (j : Nat) u, [x][j]? = some u → w.cell? ((⟨b, 0, none⟩ : Addr).add j) = some u := by
  intro j u hu
  have e : ((⟨b, 0, none⟩ : Addr).add j) = ⟨b, 0 + j, none⟩ := by unfold Addr.add; split <;> simp_all
  rw [e, Nat.zero_add, cell_blk h j]
  simpa using hu
/-- What the draw of a list answers. -/
def LisOut (W w : World) (p : Nat) (e : Ending) (w' : World) : Prop := ∃ v L, e = .returned v ∧ DrI W w w' p v L ∧ L.length ≤ 42
set_option maxRecDepth 100000 in
set_option maxHeartbeats 2000000 in
theorem l10List (W w : World) (p : Nat) (hc : Cur W w p) :
    Calls Try.prog 42 #[.pointer (some ⟨p, 0, none⟩)] w fun e w' => LisOut W w p e w' := by
  obtain ⟨iI, gi, gz0, gz1, gz2⟩ := info_parts infoInt
  have hWw : W.heap.size ≤ w.heap.size := hc.2.1.size
  have HD0 : Hid (DrI W w (w.alloc (.cells #[] 3)) p (.slice (some ⟨w.heap.size, 0, none⟩) 0 0) []) := Lib.hid ⟨hc.alloc _, World.ownsRow_made w #[] 0 (Nat.le_refl _) (by unfold maxLen; omega) (by simp), hWw, (bl_al w _).size⟩
  clear hc
  go_enter Try.func42, Try.ntmps42
  go_wp2_with fail
  refine (l1Below W _ p 10 (by omega) (by omega) HD0.out.cur).mono ?_
  rintro e w1 ⟨⟨m1, hm1, rfl⟩, hc1, hg1⟩
  have HD1 := Lib.hid (HD0.out.draw hc1 hg1)
  clear hc1 hg1 HD0
  go_wp2_with fail
  refine (l1Once W _ p 12 (by omega) (by omega) HD1.out.cur).mono ?_
  rintro e w2 ⟨⟨b2, rfl⟩, hc2, hg2⟩
  have HD2 := Lib.hid (HD1.out.draw hc2 hg2)
  clear hc2 hg2 HD1
  go_upto_if 10 with fail
  go_cut [4] (fun v4 wx => ∃ m : Nat, v4 = .int .i64 m ∧ m ≤ 42 ∧ DrI W w wx p (.slice (some ⟨w.heap.size, 0, none⟩) 0 0) [])
  case first =>
    cases b2 with
    | false =>
      go_wp2_with fail
      go_meet
      case rel => exact ⟨m1, rfl, by omega, HD2.out⟩
    | true =>
      go_wp2_with fail
      refine (l1Below W _ p 5 (by omega) (by omega) HD2.out.cur).mono ?_
      rintro e w3 ⟨⟨m3, hm3, rfl⟩, hc3, hg3⟩
      have HD3 := Lib.hid (HD2.out.draw hc3 hg3)
      clear hc3 hg3 HD2
      obtain ⟨m4, hm4⟩ : ∃ m : Nat, m = 38 + m3 := ⟨_, rfl⟩
      have hw3 : (38 : Int) + m3 = m4 := by omega
      have hm42 : m4 ≤ 42 := by omega
      clear hm4 hm3
      go_wp2_with fail
      go_meet
      case rel => exact ⟨m4, rfl, hm42, HD3.out⟩
  case rest =>
    obtain ⟨m, rfl, hm42, hDc⟩ := hcut
    have HDc := Lib.hid hDc
    clear hDc HD2 hm1
    go_wp2_with fail
    go_loopg [3, 5] m (fun g_ v_ i_ wr => ∃ (j : Nat) (L : List Int) (vo : Value), g_ = m - j ∧ i_ = .int .i64 j ∧ j ≤ m ∧ L.length = j ∧ vo = v_ ∧ DrI W w wr p vo L)
    case atStart => exact ⟨0, [], _, rfl, rfl, Nat.zero_le _, rfl, rfl, HDc.out⟩
    case round =>
      clear HDc
      obtain ⟨j, L, vo, rfl, rfl, hj, hL, rfl, hD⟩ := hrel
      have HL := Lib.hid hL
      have hl42 : L.length ≤ 42 := by omega
      clear hL
      obtain ⟨ao, co, hvo⟩ := owns_form hD.own
      subst hvo
      have HD := Lib.hid hD
      clear hD
      by_cases hlt : j < m
      · have hj1 : (j : Int) < m := by omega
        go_wp2_with fail
        refine (l1Once W _ p 12 (by omega) (by omega) HD.out.cur).mono ?_
        rintro e w6 ⟨⟨b6, rfl⟩, hc6, hg6⟩
        have HD6 := Lib.hid (HD.out.draw hc6 hg6)
        clear hc6 hg6 HD
        cases b6 with
        | true =>
          go_wp2_with fail
          refine (l1WholeG W _ p HD6.out.cur).mono ?_
          rintro e w7 ⟨⟨z, z0, z1, rfl⟩, hc7, hg7⟩
          have HD7 := Lib.hid (HD6.out.draw hc7 hg7)
          clear hc7 hg7 HD6 z0 z1
          go_wp2_with (at_builtin; refine wpList_append_own _ rfl _ _ 24 rfl w.heap.size 3 iI (.int .i64 0) 1 8 Try.underlying24 gi gz0 gz1 gz2 rfl (by decide) _ _ _ rfl (World.ownsRow.alloc HD7.out.own (.cells #[.int .i64 z] 3)) ⟨w7.heap.size, 0, none⟩ 1 1 [.int .i64 z] rfl rfl ?a1 ?b1 ?c1 ?d1 ?e1 ?_)
          try (case a1 => exact news_blkL (alloc_blk w7 _ _))
          try (case b1 => first | (intro u hu; simp at hu; subst hu; rfl) | rfl)
          case c1 => unfold maxLen; omega
          case d1 => omega
          case e1 => have := HD7.out.ge; (try simp); omega
          intro v5 w5 hown5 hg5 _
          have HN := Lib.hid ((HD7.out.laid (.cells #[.int .i64 z] 3)).app (x := z) hg5 hown5)
          clear hown5 hg5
          go_wp2_with fail
          go_roundg (m - (j + 1))
          case measure => omega
          case rel => exact ⟨j + 1, L ++ [z], _, rfl, by go_num, by omega, by rw [List.length_append, HL.out]; rfl, rfl, HN.out⟩
        | false =>
          go_wp2_with fail
          refine (l1Below W _ p 9 (by omega) (by omega) HD6.out.cur).mono ?_
          rintro e w7 ⟨⟨k9, hk9, rfl⟩, hc7, hg7⟩
          have HD7 := Lib.hid (HD6.out.draw hc7 hg7)
          clear hc7 hg7 HD6
          go_wp2_with (at_builtin; refine wpList_append_own _ rfl _ _ 24 rfl w.heap.size 3 iI (.int .i64 0) 1 8 Try.underlying24 gi gz0 gz1 gz2 rfl (by decide) _ _ _ rfl (World.ownsRow.alloc HD7.out.own (.cells #[.int .i64 (500 * ((k9 : Int) - 4))] 3)) ⟨w7.heap.size, 0, none⟩ 1 1 [.int .i64 (500 * ((k9 : Int) - 4))] rfl rfl ?a2 ?b2 ?c2 ?d2 ?e2 ?_)
          try (case a2 => exact news_blkL (alloc_blk w7 _ _))
          try (case b2 => first | (intro u hu; simp at hu; subst hu; rfl) | rfl)
          case c2 => unfold maxLen; omega
          case d2 => omega
          case e2 => have := HD7.out.ge; (try simp); omega
          intro v5 w5 hown5 hg5 _
          have HN := Lib.hid ((HD7.out.laid (.cells #[.int .i64 (500 * ((k9 : Int) - 4))] 3)).app (x := (500 * ((k9 : Int) - 4))) hg5 hown5)
          clear hown5 hg5
          go_wp2_with fail
          go_roundg (m - (j + 1))
          case measure => omega
          case rel => exact ⟨j + 1, L ++ [(500 * ((k9 : Int) - 4))], _, rfl, by go_num, by omega, by rw [List.length_append, HL.out]; rfl, rfl, HN.out⟩
      · have hj1 : ¬ (j : Int) < m := by omega
        go_wp2_with fail
        go_ret
        exact ⟨_, L, rfl, HD.out, by have := HL.out; omega⟩
set_option maxRecDepth 100000 in
theorem drawCutsOf (w : World) (v : Value) (n : Nat) (hb : Bytes w v n) :
    Calls Try.prog 12 #[v] w fun e w' => (∃ v L b, e = .returned (.tuple #[v, .int .i64 b]) ∧ w'.ownsRow w.heap.size 3 1 v L.length (intCells L) ∧ L.length ≤ 42) ∧ Below w.heap.size w w' := by
  go_enter Try.func12, Try.ntmps12
  go_wp2_with fail
  refine (l1New w v n hb).mono ?_
  rintro e w1 ⟨rfl, hc1, _⟩
  have hge := hc1.2.1.size
  go_wp2_with fail
  refine (l10List w w1 _ hc1).mono ?_
  rintro e w2 ⟨v2, L, rfl, hD, hl⟩
  have HD := Lib.hid hD
  have hp2 := hD.cur.lt
  clear hc1 hD
  go_wp2_with fail
  refine (l1PickInt w _ _ w2.heap.size 10 (by omega) (by omega) (by omega) ?_ (HD.out.cur.alloc _)).mono ?_
  · refine intList ?_ ?_
    · rfl
    · decide
  rintro e w3 ⟨⟨z, z0, z1, rfl⟩, hc3, hg3⟩
  have HD3 := Lib.hid ((HD.out.laid _).draw hc3 hg3)
  clear hc3 hg3 HD
  go_wp2_with fail
  go_ret2
  exact ⟨⟨_, L, z, rfl, World.ownsRow.mono HD3.out.own hge, hl⟩, HD3.out.cur.2.1⟩
end Go.Proofs.Ytgknkjiifcnkpaa
