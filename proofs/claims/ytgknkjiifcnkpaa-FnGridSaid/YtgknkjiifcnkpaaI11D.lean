/-
  Making a grid, the program's way: the bins of a column, what a walk keeps, the early ends.
-/
import Derived.Test.YtgknkjiifcnkpaaI11A
import Derived.Test.YtgknkjiifcnkpaaI9T
import Derived.Test.YtgknkjiifcnkpaaI9K
import Derived.Test.YtgknkjiifcnkpaaI10B
import Derived.Test.YtgknkjiifcnkpaaGrdR
import Derived.Test.YtgknkjiifcnkpaaPk5
import Derived.Test.YtgknkjiifcnkpaaPk3
namespace Go.Proofs.Ytgknkjiifcnkpaa
open Go.RowKit

set_option maxRecDepth 100000 in
set_option maxHeartbeats 1000000 in
/-- The bins of a column. -/
theorem binsOf9 (C L : List Int) (u v : Value) (w : World) (hC : IntRow w u C) (hL : IntRow w v L) (hc : C.length ≤ 1048576) (hl : L.length ≤ 1048576) :
    Calls Try.prog 55 #[u, v] w fun e w' => (∃ v', e = .returned v' ∧ w'.ownsRow w.heap.size 3 1 v' (binsZ C L).length (intCells (binsZ C L))) ∧ Below w.heap.size w w' := by
  obtain ⟨iI, hi, hz0, hz1, hz2⟩ := info_parts infoInt
  have RC := Lib.hid hC
  obtain ⟨aC, cC, rfl, _⟩ := intRow_form hC
  obtain ⟨aL, cL, rfl, hl9, hfl⟩ := intRow_form hL
  have HFL := Lib.hid hfl
  obtain ⟨m, hm⟩ : ∃ m : Nat, L.length = m := ⟨_, rfl⟩
  rw [hm] at hl hl9 ⊢
  have HLM := Lib.hid hm
  have hO0 := World.ownsRow_made (e := 3) (size := 1) w #[] 0 (Nat.le_refl _) (by unfold maxLen; omega) (by simp)
  clear hC hL hfl hm
  go_enter Try.func55, Try.ntmps55
  go_wp2_with fail
  go_loopg [5, 7, 11] m (fun g_ r_ _ i_ wr => ∃ (k : Nat) (S : List Int), k ≤ m ∧ g_ = m - k ∧ i_ = .int .i64 k ∧ S = binsZ C (L.take k) ∧ wr.ownsRow w.heap.size 3 1 r_ S.length (intCells S) ∧ Below w.heap.size w wr)
  case atStart => exact ⟨0, [], Nat.zero_le _, rfl, rfl, rfl, hO0, bl_al _ _⟩
  case round =>
    clear hO0
    obtain ⟨k, S, hk, rfl, rfl, hS, hown, hB⟩ := hrel
    have HS := Lib.hid hS
    have hSl : S.length = k := by rw [hS, binsZ, List.length_map, List.length_take, HLM.out]; omega
    clear hS
    by_cases hkm : k < m
    · have hk1 : (k : Int) < m := by omega
      have hk0 : (0 : Int) ≤ k := by omega
      obtain ⟨z, hz⟩ : ∃ z, L[k]? = some z := ⟨_, List.getElem?_eq_getElem (by rw [HLM.out]; exact hkm)⟩
      obtain ⟨b9, o9, hal, hcz⟩ := HFL.out k z hz
      subst hal
      have hc1 := (hB.cell (p := ⟨b9, o9 + k, none⟩) (World.block_lt_of_cell? w _ hcz)).trans hcz
      have HZ := Lib.hid (binsZ_succ (C := C) hz)
      clear hz hcz
      go_wp2_with fail
      refine (implBin C z _ _ (RC.out.below hB) hc).mono ?_
      rintro e w5 ⟨rfl, B5⟩
      have hown5 := owns_bl hown B5
      have hB5 := bt hB B5
      generalize ((binZ C z : Nat) : Int) = bz at HZ ⊢
      go_wp2_with (at_builtin; refine wpList_append_own _ rfl _ _ 24 rfl w.heap.size 3 iI (.int .i64 0) 1 8 Try.underlying24 hi hz0 hz1 hz2 rfl (by decide) _ _ _ rfl (hown5.alloc (.cells #[.int .i64 bz] 3)) ⟨w5.heap.size, 0, none⟩ 1 1 [.int .i64 bz] rfl rfl news_one (by intro y hy; simp at hy; subst hy; rfl) ?a1 ?b1 ?c1 ?_)
      case a1 => unfold maxLen; omega
      case b1 => omega
      case c1 => have := hB5.size; simp; omega
      intro v' w7 hown1 hg1 _
      have hR := Lib.hid (int_row9 (s := S) (z := bz) (by rw [hSl]; exact hown1))
      have hBB := Lib.hid ((hB5.alloc hB5.size (.cells #[.int .i64 bz] 3)).grown hg1 (by have := hB5.size; simp; omega) (fun q hq => (hown5.lt q hq).1))
      clear hown1 hg1 hown hown5 hB hB5 B5
      go_wp2_with fail
      go_roundg (m - (k + 1))
      case measure => omega
      case rel => exact ⟨k + 1, S ++ [bz], by omega, rfl, by go_num, by rw [HZ.out, HS.out], hR.out, hBB.out⟩
    · have hk1 : ¬ (k : Int) < m := by omega
      rw [hSl] at hown
      obtain ⟨aS, cS, rfl⟩ := owns_form hown
      have HSS : Hid (binsZ C L = S) := Lib.hid (by rw [HS.out, List.take_of_length_le (by rw [HLM.out]; omega)])
      have HO := Lib.hid hown
      clear hown
      go_wp2_with fail
      go_ret
      exact ⟨⟨_, rfl, by rw [HSS.out, hSl]; exact HO.out⟩, hB⟩

/-- An append at a step of a region that draws its order: where the row lies. -/
theorem step_append_at {P : Program} {w : World} {ops : Array Oper} {o : Oper} {a : Act} {K : Act → World → Prop} {Q : Exit → Act → World → Prop} {E : Prop} (hgd : o.guard = none) (s x : Operand) (t : TypeId)
    (ho : o.op = .call { callee := .builtin .append, args := #[s, x], argTypes := #[t, t] })
    (base : Nat) (e : TypeId) (i : TypeInfo) (z : Value) (size bytes : Nat) (ht : P.underlying t = some (.slice e)) (hi : P.info? e = some i) (hz : i.zero = some z)
    (hsize : i.size = size) (hby : i.bytes = bytes) (hzs : z.cells.size = size) (hsz : 0 < size)
    (v : Value) (n : Nat) (xs : List Value) (hs : a.eval s = v) (hown : w.ownsRow base e size v n xs)
    (ad : Addr) (m c : Nat) (news : List Value) (hx : a.eval x = .slice (some ad) m c) (hl : news.length = m * size) (hnews : ∀ j u, news[j]? = some u → w.cell? (ad.add j) = some u) (h1 : ∀ u ∈ news, u.oneCell' = true)
    (h63 : n + m ≤ maxLen) (hbytes : (n + m) * bytes ≤ 140737488355328) (hbase : base ≤ w.heap.size)
    (h : ∀ v' w', w'.ownsRow base e size v' (n + m) (xs ++ news) → w.grownBy w' v.ownBlock → (v'.ownBlock = v.ownBlock ∨ v'.ownBlock = some w.heap.size) → K (a.put o.dst v') w') :
    if Region.wanted o (yielded ops a.tmps) = true then Oper.wp P o a w K Q else E := by
  rw [if_pos (show Region.wanted o (yielded ops a.tmps) = true by simp [Region.wanted, hgd])]
  obtain ⟨v', w', hr, h2, h3, _, h4⟩ := run_append_own_at (P := P) (w := w) base t o.type e i z size bytes ht hi hz hsize hby hzs hsz v n xs hown ad m c news hl hnews h1 h63 hbytes hbase
  unfold Oper.wp execOp
  simp only [ho, resolve, invoke, builtin, Sem.run_bind, Sem.run_pure, Result.andThen_ok, List.map_toArray, List.map_cons, List.map_nil, hs, hx, hr]
  exact h v' w' h2 h3 h4

/-- Rows of two families lie apart. -/
def ApR (vs1 vs2 : List Value) : Prop := ∀ x ∈ vs1, ∀ y ∈ vs2, ∀ g, x.ownBlock = some g → y.ownBlock ≠ some g
theorem ApR.push {vs1 vs2 : List Value} {a b : Value} {lo mid : Nat} (h : ApR vs1 vs2) (h1 : ∀ (j : Nat) x g, vs1[j]? = some x → x.ownBlock = some g → g < lo) (h2 : ∀ (j : Nat) x g, vs2[j]? = some x → x.ownBlock = some g → g < lo)
    (ha : ∀ g, a.ownBlock = some g → lo ≤ g ∧ g < mid) (hb : ∀ g, b.ownBlock = some g → lo ≤ g ∧ mid ≤ g) : ApR (vs1 ++ [a]) (vs2 ++ [b]) := by
  intro x hx y hy g e1 e2
  rcases List.mem_append.1 hx with hx | hx
  · obtain ⟨j, hj⟩ := List.getElem?_of_mem hx
    have k1 := h1 j x g hj e1
    rcases List.mem_append.1 hy with hy | hy
    · exact h x hx y hy g e1 e2
    · obtain rfl := List.mem_singleton.1 hy
      have := (hb g e2).1
      omega
  · obtain rfl := List.mem_singleton.1 hx
    have k1 := ha g e1
    rcases List.mem_append.1 hy with hy | hy
    · obtain ⟨j, hj⟩ := List.getElem?_of_mem hy
      have := h2 j y g hj e2
      omega
    · obtain rfl := List.mem_singleton.1 hy
      have := (hb g e2).2
      omega
/-- The grid that has been made: its cuts and its bins lie apart. -/
theorem GrS.gr {w2 wr : World} {ob : Nat} {cs : Array Value} {G : Grd} {vs1 vs2 : List Value} {u1 u2 : Value} (h : GrS w2 wr ob cs G vs1 vs2 u1 u2) (hap : ApR vs1 vs2) {lo : Nat} (hlo : lo ≤ w2.heap.size) : OwnGr (Iv lo wr.heap.size) wr u1 u2 G := by
  have hT : (24 : TypeId) ≠ 3 := by decide
  have hx1 : ∀ x ∈ vs1, ∃ c, wr.ownsRow w2.heap.size 3 1 x c.length c := fun x hx => by
    obtain ⟨j, hj⟩ := List.getElem?_of_mem hx
    have hl : j < (G.cs.map intCells).length := by rw [← h.r1.1]; exact (List.getElem?_eq_some_iff.1 hj).1
    exact ⟨_, h.r1.2.1 j x _ hj (List.getElem?_eq_getElem hl)⟩
  have hx2 : ∀ x ∈ vs2, ∃ c, wr.ownsRow w2.heap.size 3 1 x c.length c := fun x hx => by
    obtain ⟨j, hj⟩ := List.getElem?_of_mem hx
    have hl : j < (G.bs.map intCells).length := by rw [← h.r2.1]; exact (List.getElem?_eq_some_iff.1 hj).1
    exact ⟨_, h.r2.2.1 j x _ hj (List.getElem?_eq_getElem hl)⟩
  have iv : ∀ g, w2.heap.size ≤ g ∧ g < wr.heap.size → Iv lo wr.heap.size g := fun g k => ⟨Nat.le_trans hlo k.1, k.2⟩
  refine ⟨fun g => Iv lo wr.heap.size g ∧ (u1.ownBlock = some g ∨ ∃ x ∈ vs1, x.ownBlock = some g), fun g => Iv lo wr.heap.size g ∧ (u2.ownBlock = some g ∨ ∃ x ∈ vs2, x.ownBlock = some g), fun _ k => k.1, fun _ k => k.1, fun g k1 k2 => ?_, ⟨vs1, World.ownsRow.mono h.o1 (Nat.zero_le _), h.r1.mono (Nat.zero_le _), fun g e => ⟨iv g (h.o1.lt g e), Or.inl e⟩, fun j x g hx e => ⟨iv g (h.r1.lt hx e), Or.inr ⟨x, List.mem_of_getElem? hx, e⟩⟩⟩,
    ⟨vs2, World.ownsRow.mono h.o2 (Nat.zero_le _), h.r2.mono (Nat.zero_le _), fun g e => ⟨iv g (h.o2.lt g e), Or.inl e⟩, fun j x g hx e => ⟨iv g (h.r2.lt hx e), Or.inr ⟨x, List.mem_of_getElem? hx, e⟩⟩⟩⟩
  rcases k1.2 with e1 | ⟨x, hx, e1⟩
  · rcases k2.2 with e2 | ⟨y, hy, e2⟩
    · exact h.ap g e1 e2
    · obtain ⟨c, hc⟩ := hx2 y hy
      exact owns_apart h.o1 hc hT g e1 e2
  · obtain ⟨c, hc⟩ := hx1 x hx
    rcases k2.2 with e2 | ⟨y, hy, e2⟩
    · exact owns_apart h.o2 hc hT g e2 e1
    · exact hap x hx y hy g e1 e2
theorem OwnGr.setBox9 {A : Nat → Prop} {w : World} {cb : Nat} {v1 v2 : Value} {G : Grd} {cs : Array Value} (h : OwnGr A w v1 v2 G) (hb : w.heap[cb]? = some (.cells cs 38 (0, 0))) (i : Nat) (x : Value) : OwnGr A (w.setCell ⟨cb, i, none⟩ x) v1 v2 G := by
  obtain ⟨A1, A2, k1, k2, k3, o1, o2⟩ := h
  exact ⟨A1, A2, k1, k2, k3, o1.setBox hb (by decide) (by decide) i x, o2.setBox hb (by decide) (by decide) i x⟩
theorem ownGr_nil (A : Nat → Prop) (w : World) : OwnGr A w (.slice none 0 0) (.slice none 0 0) ⟨[], []⟩ :=
  ⟨fun _ => False, fun _ => False, fun _ h => h.elim, fun _ h => h.elim, fun _ h => h.elim, ⟨[], World.ownsRow_nil _ _ _ _, RowsOwn.nil _ _ _, (by intro g hg; cases hg), (by intro j u g hu; simp at hu)⟩, ⟨[], World.ownsRow_nil _ _ _ _, RowsOwn.nil _ _ _, (by intro g hg; cases hg), (by intro j u g hu; simp at hu)⟩⟩

set_option maxRecDepth 100000 in
set_option maxHeartbeats 4000000 in
theorem implGridOf_no (T : Tab) (b : Int) (u1 u2 u3 : Value) (w : World) (h : TabRow w T u1 u2 u3) (hp : PreTb T) (hno : ¬ (okT T = true ∧ inZ b 2 8 = true)) :
    Calls Try.prog 21 #[.agg #[u1, .string ⟨T.y.toArray⟩, u2, u3], .int .i64 b] w fun e w' => e = .returned (.agg #[.slice none 0 0, .slice none 0 0]) ∧ Below w.heap.size w w' := by
  obtain ⟨a1, c1, a2, c2, a3, c3, rfl, rfl, rfl⟩ := h.form
  have hA := bt (bl_al w (.cells #[.slice a1 T.ns.length c1, .string ⟨T.y.toArray⟩, .slice a2 T.rs.length c2, .slice a3 T.ys.length c3] 34)) (bl_al (w.alloc (.cells #[.slice a1 T.ns.length c1, .string ⟨T.y.toArray⟩, .slice a2 T.rs.length c2, .slice a3 T.ys.length c3] 34)) (.cells #[.slice none 0 0, .slice none 0 0] 38))
  have x1 := blk_al (alloc_blk w #[.slice a1 T.ns.length c1, .string ⟨T.y.toArray⟩, .slice a2 T.rs.length c2, .slice a3 T.ys.length c3] 34) (.cells #[.slice none 0 0, .slice none 0 0] 38)
  have x2 := alloc_blk (w.alloc (.cells #[.slice a1 T.ns.length c1, .string ⟨T.y.toArray⟩, .slice a2 T.rs.length c2, .slice a3 T.ys.length c3] 34)) #[.slice none 0 0, .slice none 0 0] 38
  rw [sz_alloc] at x2
  have H1 := h.below hA
  have X1 := Lib.hid x1
  have X2 := Lib.hid x2
  have HA := Lib.hid hA
  have p0 := cell_blk x1 0
  have pf0 := free_blk x1 0
  have p1 := cell_blk x1 1
  have pf1 := free_blk x1 1
  have p2 := cell_blk x1 2
  have pf2 := free_blk x1 2
  have p3 := cell_blk x1 3
  have pf3 := free_blk x1 3
  have lp := blk_lt x1
  clear x1 x2 hA
  clear h
  obtain ⟨o, ho⟩ : ∃ o, okT T = o := ⟨_, rfl⟩
  have KT := Lib.hid (fun W (hW : TabRow W T (.slice a1 T.ns.length c1) (.slice a2 T.rs.length c2) (.slice a3 T.ys.length c3)) => by have := implTabOk9 T _ _ _ W hW hp.1 hp.2.2.2.2.1 hp.2.2.2.2.2; rwa [ho] at this)
  cases o with
  | false =>
    clear hno ho
    go_enter Try.func21, Try.ntmps21
    go_wp2_with fail
    refine (KT.out _ H1).mono ?_
    rintro e w1 ⟨rfl, B1⟩
    clear p0 p1 p2 p3 pf0 pf1 pf2 pf3 lp
    have hC := bt HA.out B1
    have y1 := blk_next X1.out B1
    have y2 := blk_next X2.out B1
    have p0 := cell_blk y1 0
    have pf0 := free_blk y1 0
    have p1 := cell_blk y1 1
    have pf1 := free_blk y1 1
    have p2 := cell_blk y1 2
    have pf2 := free_blk y1 2
    have p3 := cell_blk y1 3
    have pf3 := free_blk y1 3
    have lp := blk_lt y1
    have r0 := cell_blk y2 0
    have rf0 := free_blk y2 0
    have r1 := cell_blk y2 1
    have rf1 := free_blk y2 1
    have lr := blk_lt y2
    have HC6 := Lib.hid ((hC.setCell (p := ⟨w.heap.size + 1, 0, none⟩) (by simp) (.slice none 0 0)).setCell (p := ⟨w.heap.size + 1, 1, none⟩) (by simp) (.slice none 0 0))
    clear y1 y2 hC B1
    go_wp2_with fail
    refine bodyPost_ret (v := .agg #[.slice none 0 0, .slice none 0 0]) ?_ rfl ⟨rfl, HC6.out⟩
    rw [res_one rfl]
    go_simp
  | true =>
    have hb : inZ b 2 8 = false := by
      cases e : inZ b 2 8 with
      | false => rfl
      | true => exact absurd ⟨ho, e⟩ hno
    clear hno ho
    go_enter Try.func21, Try.ntmps21
    go_wp2_with fail
    refine (KT.out _ H1).mono ?_
    rintro e w1 ⟨rfl, B1⟩
    clear p0 p1 p2 p3 pf0 pf1 pf2 pf3 lp
    have hC := bt HA.out B1
    have y1 := blk_next X1.out B1
    have y2 := blk_next X2.out B1
    have p0 := cell_blk y1 0
    have pf0 := free_blk y1 0
    have p1 := cell_blk y1 1
    have pf1 := free_blk y1 1
    have p2 := cell_blk y1 2
    have pf2 := free_blk y1 2
    have p3 := cell_blk y1 3
    have pf3 := free_blk y1 3
    have lp := blk_lt y1
    have r0 := cell_blk y2 0
    have rf0 := free_blk y2 0
    have r1 := cell_blk y2 1
    have rf1 := free_blk y2 1
    have lr := blk_lt y2
    have HC6 := Lib.hid ((hC.setCell (p := ⟨w.heap.size + 1, 0, none⟩) (by simp) (.slice none 0 0)).setCell (p := ⟨w.heap.size + 1, 1, none⟩) (by simp) (.slice none 0 0))
    clear y1 y2 hC B1
    go_wp2_with fail
    refine (inRange9 _ _ _ _).mono ?_
    rintro e w2 ⟨rfl, rfl⟩
    rw [hb]
    go_wp2_with fail
    refine bodyPost_ret (v := .agg #[.slice none 0 0, .slice none 0 0]) ?_ rfl ⟨rfl, HC6.out⟩
    rw [res_one rfl]
    go_simp
end Go.Proofs.Ytgknkjiifcnkpaa
