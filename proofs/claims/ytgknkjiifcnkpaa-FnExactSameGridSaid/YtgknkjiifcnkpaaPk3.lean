/-
  What an argument of numbers gives the walks.
  What an argument of a table gives the walks.
  What the laws on tables share.
  What a walk of an exact law keeps: sets of blocks that have changed or have not; rows of numbers that lie in such a set.
  Marking a table: what it leaves alone.
  What a walk of an exact law keeps: tables.
-/
import Derived.Test.YtgknkjiifcnkpaaTabS
import Derived.Test.YtgknkjiifcnkpaaArgsB
import Derived.ChangeSlices
import Derived.ChangeSame
import Derived.Deep.Fields
import Derived.Test.YtgknkjiifcnkpaaPk2
import Derived.Test.YtgknkjiifcnkpaaPk1
namespace Go.Proofs.Ytgknkjiifcnkpaa
open Go.ChangeShapes Go.WideShapes Go.ChangeAt Go.RowKit Go.Deep

theorem cellsIntI : Try.prog.cellsOf 3 = 1 := by kernel_rfl
theorem addr_addI (b off j : Nat) : ((⟨b, off, none⟩ : Addr).add j) = ⟨b, off + j, none⟩ := by unfold Addr.add; split <;> simp_all
theorem ints_trodI {H : Type} {enc : TypeId × Value → H} {W : World} {sp : Nat → Bool} {base fuel : Nat} {held : Bool} {v : Value} {x : DataW H × List MemPlace}
    (h : DataW.trod enc Try.prog W base sp held fuel 24 [v] = some x) (hsp : ∀ b, sp b = true) : ∃ zs : List Int, IntRow W v zs := by
  rcases open_ints Try.underlying24 Try.underlying3 cellsIntI h with ⟨hcs, hx⟩ | ⟨a', len', cap', zs, hcs, _, hl, hm, hz, hx, hcell, hwz⟩
  · obtain rfl : v = .slice none 0 0 := by simpa using hcs
    exact ⟨[], Or.inl ⟨rfl, _, _, rfl⟩⟩
  · obtain rfl : v = .slice (some a') len' cap' := by simpa using hcs
    simp only [hsp, if_true] at hz
    unfold maxLen at hm
    by_cases h0 : len' = 0
    · subst h0
      exact ⟨[], Or.inl ⟨rfl, _, _, rfl⟩⟩
    · obtain ⟨b, off, spot⟩ := a'
      have hspot : spot = none := by simpa [Addr.add] using World.cell?_spot (hcell 0 (by omega))
      subst hspot
      have hlen : (zs.take len').length = len' := by simp; omega
      refine ⟨zs.take len', Or.inr ⟨b, off, cap', by rw [hlen], by omega, by omega, fun j p hj => ?_⟩⟩
      have hjn : j < len' := by
        have := (List.getElem?_eq_some_iff.1 hj).1
        omega
      have hc := hcell j (by omega)
      rw [addr_addI] at hc
      rw [hc]
      rw [List.getElem?_take, if_pos hjn, List.getElem?_eq_getElem (by omega)] at hj
      obtain rfl := Option.some.inj hj
      rw [List.getD_eq_getElem?_getD, List.getElem?_eq_getElem (by omega)]
      rfl
theorem ints_read {H : Type} {enc : TypeId × Value → H} {W : World} {sp : Nat → Bool} {a : Option Addr} {n c : Nat} {d : DataW H} {p : List MemPlace}
    (h : DataW.Trod enc Try.prog W 0 sp true 24 (.slice a n c) d p) (hsp : ∀ b, sp b = true := by intro _; rfl) : ∃ zs : List Int, IntRow W (.slice a n c) zs := by
  obtain ⟨fuel, hf⟩ := h
  exact ints_trodI hf hsp
end Go.Proofs.Ytgknkjiifcnkpaa
namespace Go.Proofs.Ytgknkjiifcnkpaa
open Go.ChangeShapes Go.WideShapes Go.ChangeAt Go.RowKit Go.Deep

theorem cellsIntT : Try.prog.cellsOf 3 = 1 := by kernel_rfl
theorem cellsSlIT : Try.prog.cellsOf 24 = 1 := by kernel_rfl
theorem cellsSlST : Try.prog.cellsOf 31 = 1 := by kernel_rfl
theorem cellsStrT : Try.prog.cellsOf 9 = 1 := by kernel_rfl
theorem cellsSlIIT : Try.prog.cellsOf 32 = 1 := by kernel_rfl
theorem cellsTabT : Try.prog.cellsOf 45 = 4 := by kernel_rfl
theorem ints_trod9 {H : Type} {enc : TypeId × Value → H} {W : World} {sp : Nat → Bool} {base fuel : Nat} {held : Bool} {v : Value} {x : DataW H × List MemPlace}
    (h : DataW.trod enc Try.prog W base sp held fuel 24 [v] = some x) (hsp : ∀ b, sp b = true) : ∃ zs : List Int, IntRow W v zs := by
  rcases open_ints Try.underlying24 Try.underlying3 cellsIntT h with ⟨hcs, hx⟩ | ⟨a', len', cap', zs, hcs, _, hl, hm, hz, hx, hcell, hwz⟩
  · obtain rfl : v = .slice none 0 0 := by simpa using hcs
    exact ⟨[], Or.inl ⟨rfl, _, _, rfl⟩⟩
  · obtain rfl : v = .slice (some a') len' cap' := by simpa using hcs
    simp only [hsp, if_true] at hz
    unfold maxLen at hm
    by_cases h0 : len' = 0
    · subst h0
      exact ⟨[], Or.inl ⟨rfl, _, _, rfl⟩⟩
    · obtain ⟨b, off, spot⟩ := a'
      have hspot : spot = none := by simpa [Addr.add] using World.cell?_spot (hcell 0 (by omega))
      subst hspot
      have hlen : (zs.take len').length = len' := by simp; omega
      refine ⟨zs.take len', Or.inr ⟨b, off, cap', by rw [hlen], by omega, by omega, fun j p hj => ?_⟩⟩
      have hjn : j < len' := by
        have := (List.getElem?_eq_some_iff.1 hj).1
        omega
      have hc := hcell j (by omega)
      rw [addr_add] at hc
      rw [hc]
      rw [List.getElem?_take, if_pos hjn, List.getElem?_eq_getElem (by omega)] at hj
      obtain rfl := Option.some.inj hj
      rw [List.getD_eq_getElem?_getD, List.getElem?_eq_getElem (by omega)]
      rfl
theorem grid_trod {H : Type} {enc : TypeId × Value → H} {W : World} {sp : Nat → Bool} {base fuel : Nat} {held : Bool} {v : Value} {x : DataW H × List MemPlace}
    (h : DataW.trod enc Try.prog W base sp held fuel 32 [v] = some x) (hsp : ∀ b, sp b = true) : ∃ L : List (List Int), IIRow W v L := by
  rcases Go.Deep.open_slice1 Try.underlying32 cellsSlIT h with ⟨hcs, hx⟩ | ⟨a', len', cap', m, n', V, D, Pl, hcs, _, hl, hm, hmm, hx, hcell⟩
  · obtain rfl : v = .slice none 0 0 := by simpa using hcs
    exact ⟨[], Or.inl ⟨rfl, _, _, rfl⟩⟩
  · obtain rfl : v = .slice (some a') len' cap' := by simpa using hcs
    simp only [hsp, if_true] at hmm
    unfold maxLen at hm
    by_cases h0 : len' = 0
    · subst h0
      exact ⟨[], Or.inl ⟨rfl, _, _, rfl⟩⟩
    · obtain ⟨b, off, spot⟩ := a'
      have hspot : spot = none := by simpa [Addr.add] using World.cell?_spot (hcell 0 (by omega)).1
      subst hspot
      obtain ⟨R, hR⟩ := Go.Deep.choose_lt (n := len') (p := fun i (zs : List Int) => IntRow W (V i) zs) (fun i hi => ints_trod9 (hcell i (by omega)).2 hsp)
      have hlen : ((List.range len').map R).length = len' := by simp
      refine ⟨(List.range len').map R, Or.inr ⟨b, off, cap', by rw [hlen], by omega, by omega, fun j row hj => ?_⟩⟩
      have hjn : j < len' := by
        have := (List.getElem?_eq_some_iff.1 hj).1
        omega
      have hc := (hcell j (by omega)).1
      rw [addr_add] at hc
      rw [List.getElem?_map, List.getElem?_range hjn] at hj
      obtain rfl := Option.some.inj hj
      exact ⟨V j, hc, hR j hjn⟩
set_option maxRecDepth 100000 in
theorem tab_read {H : Type} {enc : TypeId × Value → H} {W : World} {sp : Nat → Bool} {r : Reach} {b0 : Nat} {v : Value} {d : DataW H} {p : List MemPlace}
    (hval : Value.okWide Try.prog W r b0 45 v) (h : DataW.Trod enc Try.prog W 0 sp true 45 v d p) (hsp : ∀ b, sp b = true := by intro _; rfl) :
    ∃ (T : Tab) (u1 u2 u3 : Value), v = .agg #[u1, .string ⟨T.y.toArray⟩, u2, u3] ∧ TabRow W T u1 u2 u3 ∧ (∀ p ∈ T.ns, p.length ≤ 9223372036854775807) ∧ T.y.length ≤ 9223372036854775807 := by
  obtain ⟨cs, rfl, hsz⟩ := okWide_struct Try.underlying45 hval
  rw [cellsTabT] at hsz
  obtain ⟨l⟩ := cs
  match l, hsz with
  | [c0, c1, c2, c3], _ =>
    obtain ⟨fuel, hf⟩ := h
    obtain ⟨xs, n, _, _, _, hxl, hat⟩ := DataW.trod_struct Try.underlying45 hf
    have hx : ∀ i, i < 4 → ∃ y, xs[i]? = some y := fun i hi => ⟨_, List.getElem?_eq_getElem (by rw [hxl]; exact hi)⟩
    obtain ⟨y0, e0⟩ := hx 0 (by omega)
    obtain ⟨y1, e1⟩ := hx 1 (by omega)
    obtain ⟨y2, e2⟩ := hx 2 (by omega)
    obtain ⟨y3, e3⟩ := hx 3 (by omega)
    have h0 := (hat 0 _ rfl).trans e0
    have h1 := (hat 1 _ rfl).trans e1
    have h2 := (hat 2 _ rfl).trans e2
    have h3 := (hat 3 _ rfl).trans e3
    have h0' : DataW.trod enc Try.prog W 0 sp true n 31 [c0] = some y0 := by simpa [Value.cells, cellsSlST] using h0
    have h1' : DataW.trod enc Try.prog W 0 sp true n 9 [c1] = some y1 := by simpa [Value.cells, cellsSlST, cellsStrT] using h1
    have h2' : DataW.trod enc Try.prog W 0 sp true n 32 [c2] = some y2 := by simpa [Value.cells, cellsSlST, cellsStrT, cellsSlIIT] using h2
    have h3' : DataW.trod enc Try.prog W 0 sp true n 24 [c3] = some y3 := by simpa [Value.cells, cellsSlST, cellsStrT, cellsSlIIT, cellsSlIT] using h3
    obtain ⟨ps, hps, hpl⟩ := strs_trod h0' hsp
    obtain ⟨s, k1, _, hs⟩ := DataW.trod_string Try.underlying9 h1'
    obtain ⟨L, hL⟩ := grid_trod h2' hsp
    obtain ⟨zs, hz⟩ := ints_trod9 h3' hsp
    simp at k1
    subst k1
    unfold maxLen at hs
    refine ⟨⟨ps, s.data.toList, L, zs⟩, c0, c2, c3, rfl, ⟨hps, hL, hz⟩, hpl, ?_⟩
    have := Lib.size_eq s
    show s.data.toList.length ≤ _
    omega
end Go.Proofs.Ytgknkjiifcnkpaa
namespace Go.Proofs.Ytgknkjiifcnkpaa
open Go.RowKit

theorem szTab_ok (T : Tab) (u1 u2 u3 : Value) (w : World) (h : TabRow w T u1 u2 u3) (hsz : ∀ p ∈ T.ns, p.length ≤ 9223372036854775807) (left : Nat) (hleft : left ≤ 1048576) (m : Nat) (hm : left = szTab T + m) :
    Calls Try.prog 31 #[.agg #[u1, .string ⟨T.y.toArray⟩, u2, u3], .int .i64 left] w fun e w' => e = .returned (.int .i64 (m : Int)) ∧ Below w.heap.size w w' := by
  unfold szTab at hm
  exact szTab_5 T u1 u2 u3 w h hsz left hleft (left - (T.ns.length + lensum T.ns)) (by omega) (left - (T.ns.length + lensum T.ns) - T.y.length) (by omega) (left - (T.ns.length + lensum T.ns) - T.y.length - (T.rs.length + szLI T.rs)) (by omega) m (by omega)
theorem szTab_no (T : Tab) (u1 u2 u3 : Value) (w : World) (h : TabRow w T u1 u2 u3) (hsz : ∀ p ∈ T.ns, p.length ≤ 9223372036854775807) (hyl : T.y.length ≤ 9223372036854775807) (left : Nat) (hleft : left ≤ 1048576) (hf : left < szTab T) :
    Calls Try.prog 31 #[.agg #[u1, .string ⟨T.y.toArray⟩, u2, u3], .int .i64 left] w fun e w' => e = .returned (.int .i64 (-1)) ∧ Below w.heap.size w w' := by
  unfold szTab at hf
  by_cases h1 : left < T.ns.length + lensum T.ns
  · exact szTab_1 T u1 u2 u3 w h hsz left hleft h1
  · obtain ⟨l1, e1⟩ : ∃ l1, left = T.ns.length + lensum T.ns + l1 := ⟨left - (T.ns.length + lensum T.ns), by omega⟩
    by_cases h2 : l1 < T.y.length
    · exact szTab_2 T u1 u2 u3 w h hsz left hleft l1 e1 h2 hyl
    · obtain ⟨l2, e2⟩ : ∃ l2, l1 = T.y.length + l2 := ⟨l1 - T.y.length, by omega⟩
      by_cases h3 : l2 < T.rs.length + szLI T.rs
      · exact szTab_3 T u1 u2 u3 w h hsz left hleft l1 e1 l2 e2 h3
      · obtain ⟨l3, e3⟩ : ∃ l3, l2 = T.rs.length + szLI T.rs + l3 := ⟨l2 - (T.rs.length + szLI T.rs), by omega⟩
        exact szTab_4 T u1 u2 u3 w h hsz left hleft l1 e1 l2 e2 l3 e3 (by omega)
/-- What a table that fits keeps to. -/
theorem szTab_le {T : Tab} (h : szTab T ≤ 1048576) : T.ns.length ≤ 1048576 ∧ T.rs.length ≤ 1048576 ∧ (∀ r ∈ T.rs, r.length ≤ 1048576) ∧ T.ys.length ≤ 1048576 ∧ T.ns.length + szLI T.rs + T.ys.length ≤ 1048576 := by
  unfold szTab at h
  exact ⟨by omega, by omega, fun r hr => by have := szLI_mem hr; omega, by omega, by omega⟩
/-- What the last comparison keeps: two boxes. -/
abbrev TwT (W : World) (P Q : Nat) (p1 p2 p3 p4 q1 q2 q3 q4 : Value) (w' : World) : Prop := w'.cell? ⟨P, 0, none⟩ = some p1 ∧ w'.cell? ⟨P, 1, none⟩ = some p2 ∧ w'.cell? ⟨P, 2, none⟩ = some p3 ∧ w'.cell? ⟨P, 3, none⟩ = some p4 ∧ w'.cell? ⟨Q, 0, none⟩ = some q1 ∧ w'.cell? ⟨Q, 1, none⟩ = some q2 ∧ w'.cell? ⟨Q, 2, none⟩ = some q3 ∧ w'.cell? ⟨Q, 3, none⟩ = some q4 ∧ Below W.heap.size W w'
theorem TwT.mk {W w : World} {P Q : Nat} {T1 T2 : TypeId} {p1 p2 p3 p4 q1 q2 q3 q4 : Value} (h1 : w.heap[P]? = some (.cells #[p1, p2, p3, p4] T1 (0, 0))) (h2 : w.heap[Q]? = some (.cells #[q1, q2, q3, q4] T2 (0, 0))) (hB : Below W.heap.size W w) : TwT W P Q p1 p2 p3 p4 q1 q2 q3 q4 w :=
  ⟨cell_blk h1 0, cell_blk h1 1, cell_blk h1 2, cell_blk h1 3, cell_blk h2 0, cell_blk h2 1, cell_blk h2 2, cell_blk h2 3, hB⟩
theorem TwT.next {W w w' : World} {P Q : Nat} {p1 p2 p3 p4 q1 q2 q3 q4 : Value} (h : TwT W P Q p1 p2 p3 p4 q1 q2 q3 q4 w) (hB : Below w.heap.size w w') : TwT W P Q p1 p2 p3 p4 q1 q2 q3 q4 w' := by
  obtain ⟨a1, a2, a3, a4, b1, b2, b3, b4, h9⟩ := h
  have k : ∀ {p : Addr} {v : Value}, w.cell? p = some v → w'.cell? p = some v := fun h => (hB.cell (World.block_lt_of_cell? w _ h)).trans h
  exact ⟨k a1, k a2, k a3, k a4, k b1, k b2, k b3, k b4, bt h9 hB⟩
theorem below_dr9 {w w' : World} (h : Below w.drew.heap.size w.drew w') : Below w.heap.size w w' := ⟨h.os, h.tape, h.output, h.size, h.block⟩
theorem TabRow.drew {w : World} {T : Tab} {u1 u2 u3 : Value} (h : TabRow w T u1 u2 u3) : TabRow w.drew T u1 u2 u3 := h
/-- The three forms. -/
theorem TabRow.form {w : World} {T : Tab} {u1 u2 u3 : Value} (h : TabRow w T u1 u2 u3) : ∃ a1 c1 a2 c2 a3 c3, u1 = .slice a1 T.ns.length c1 ∧ u2 = .slice a2 T.rs.length c2 ∧ u3 = .slice a3 T.ys.length c3 := by
  obtain ⟨h1, h2, h3⟩ := h
  obtain ⟨a1, c1, rfl, _⟩ := sRow_form h1
  obtain ⟨a2, c2, rfl, _⟩ := iiRow_form h2
  obtain ⟨a3, c3, rfl, _⟩ := intRow_form h3
  exact ⟨a1, c1, a2, c2, a3, c3, rfl, rfl, rfl⟩
end Go.Proofs.Ytgknkjiifcnkpaa
namespace Go.Proofs.Ytgknkjiifcnkpaa
open Go.RowKit

/-- The blocks from lo on and below hi. -/
def Iv (lo hi : Nat) : Nat → Prop := fun b => lo ≤ b ∧ b < hi
/-- Nothing but what lies in A has changed. -/
structure Chg (A : Nat → Prop) (w w' : World) : Prop where
  os : w'.os = w.os
  tape : w'.tape = w.tape
  output : w'.output = w.output
  size : w.heap.size ≤ w'.heap.size
  block : ∀ b, b < w.heap.size → ¬ A b → w'.heap[b]? = w.heap[b]?
theorem Chg.refl (A : Nat → Prop) (w : World) : Chg A w w := ⟨rfl, rfl, rfl, Nat.le_refl _, fun _ _ _ => rfl⟩
theorem Chg.trans {A : Nat → Prop} {a b c : World} (h : Chg A a b) (k : Chg A b c) : Chg A a c :=
  ⟨k.os.trans h.os, k.tape.trans h.tape, k.output.trans h.output, Nat.le_trans h.size k.size, fun i hi hn => (k.block i (Nat.lt_of_lt_of_le hi h.size) hn).trans (h.block i hi hn)⟩
theorem Chg.mono {A A' : Nat → Prop} {w w' : World} (h : Chg A w w') (hA : ∀ b, A b → A' b) : Chg A' w w' :=
  ⟨h.os, h.tape, h.output, h.size, fun b hb hn => h.block b hb (fun x => hn (hA b x))⟩
theorem Chg.below {B lo hi : Nat} {w w' : World} (h : Chg (Iv lo hi) w w') (hB : B ≤ lo) (hw : B ≤ w.heap.size) : Below B w w' :=
  ⟨h.os, h.tape, h.output, h.size, fun b hb => h.block b (Nat.lt_of_lt_of_le hb hw) (fun x => by have := x.1; omega)⟩
theorem chg_of_below {A : Nat → Prop} {w w' : World} (h : Below w.heap.size w w') : Chg A w w' := ⟨h.os, h.tape, h.output, h.size, fun b hb _ => h.block b hb⟩
theorem chg_of_grown {A : Nat → Prop} {w w' : World} {r : Option Nat} (h : w.grownBy w' r) (hr : ∀ g, r = some g → A g) : Chg A w w' :=
  ⟨h.os, h.tape, h.output, h.size, fun b hb hn => h.block b hb (fun e => hn (hr b e.symm))⟩
theorem Chg.blk {A : Nat → Prop} {w w' : World} {b : Nat} {o : Obj} (h : w.heap[b]? = some o) (hC : Chg A w w') (hn : ¬ A b) : w'.heap[b]? = some o := (hC.block b (blk_lt h) hn).trans h
theorem not_iv_lo {lo hi b : Nat} (h : b < lo) : ¬ Iv lo hi b := fun x => by have := x.1; omega
theorem not_iv_hi {lo hi b : Nat} (h : hi ≤ b) : ¬ Iv lo hi b := fun x => by have := x.2; omega
theorem iv_lo {lo hi lo' hi' : Nat} (h : hi ≤ lo') : ∀ b, Iv lo hi b → ¬ Iv lo' hi' b := fun b x y => by have := x.2; have := y.1; omega
theorem iv_hi {lo hi lo' hi' : Nat} (h : hi' ≤ lo) : ∀ b, Iv lo hi b → ¬ Iv lo' hi' b := fun b x y => by have := x.1; have := y.2; omega
/-- Zone facts: from v on nothing below its size has changed; through a change that lies behind v. -/
theorem bel_chg {lo hi : Nat} {v w w' : World} (h : Below v.heap.size v w) (hC : Chg (Iv lo hi) w w') (hlo : v.heap.size ≤ lo) : Below v.heap.size v w' :=
  h.trans (hC.below hlo h.size)

/-- A row that owns its block: the block lies in A. -/
def OwnR (T : TypeId) (A : Nat → Prop) (w : World) (v : Value) (xs : List Value) : Prop := w.ownsRow 0 T 1 v xs.length xs ∧ ∀ g, v.ownBlock = some g → A g
theorem own_blk {w w' : World} {base n : Nat} {T : TypeId} {v : Value} {xs : List Value} (h : w.ownsRow base T 1 v n xs) (hb : ∀ g, v.ownBlock = some g → w'.heap[g]? = w.heap[g]?) : w'.ownsRow base T 1 v n xs := by
  refine ⟨h.1, ?_⟩
  rcases h.2 with ⟨rfl, h0⟩ | ⟨g, cap, cur, rfl, h1, h2, h3⟩
  · exact Or.inl ⟨rfl, h0⟩
  · exact Or.inr ⟨g, cap, cur, rfl, h1, (hb g rfl).trans h2, h3⟩
theorem ownR_of {T : TypeId} {w : World} {B n : Nat} {v : Value} {xs : List Value} (h : w.ownsRow B T 1 v n xs) : OwnR T (Iv B w.heap.size) w v xs := by
  have hn : n = xs.length := by have := h.1; omega
  subst hn
  exact ⟨World.ownsRow.mono h (Nat.zero_le _), fun g e => h.lt g e⟩
theorem OwnR.below {T : TypeId} {A : Nat → Prop} {w w' : World} {v : Value} {xs : List Value} (h : OwnR T A w v xs) (hB : Below w.heap.size w w') : OwnR T A w' v xs := ⟨own_blk h.1 (fun g e => hB.block g (h.1.lt g e).2), h.2⟩
theorem OwnR.chg {T : TypeId} {A A' : Nat → Prop} {w w' : World} {v : Value} {xs : List Value} (h : OwnR T A w v xs) (hC : Chg A' w w') (hd : ∀ b, A b → ¬ A' b) : OwnR T A w' v xs := ⟨own_blk h.1 (fun g e => hC.block g (h.1.lt g e).2 (hd g (h.2 g e))), h.2⟩
theorem OwnR.mono {T : TypeId} {A A' : Nat → Prop} {w : World} {v : Value} {xs : List Value} (h : OwnR T A w v xs) (hA : ∀ b, A b → A' b) : OwnR T A' w v xs := ⟨h.1, fun g e => hA g (h.2 g e)⟩

/-- Numbers that lie in A. -/
def OwnI (A : Nat → Prop) (w : World) (v : Value) (zs : List Int) : Prop := OwnR 3 A w v (intCells zs)
theorem ownI_of {w : World} {B n : Nat} {v : Value} {zs : List Int} (h : w.ownsRow B 3 1 v n (intCells zs)) : OwnI (Iv B w.heap.size) w v zs := ownR_of h
theorem OwnI.below {A : Nat → Prop} {w w' : World} {v : Value} {zs : List Int} (h : OwnI A w v zs) (hB : Below w.heap.size w w') : OwnI A w' v zs := OwnR.below h hB
theorem OwnI.chg {A A' : Nat → Prop} {w w' : World} {v : Value} {zs : List Int} (h : OwnI A w v zs) (hC : Chg A' w w') (hd : ∀ b, A b → ¬ A' b) : OwnI A w' v zs := OwnR.chg h hC hd
theorem OwnI.own {A : Nat → Prop} {w : World} {v : Value} {zs : List Int} (h : OwnI A w v zs) : w.ownsRow 0 3 1 v zs.length (intCells zs) := by
  have h1 := h.1
  rw [intCells_len] at h1
  exact h1
theorem OwnI.row {A : Nat → Prop} {w : World} {v : Value} {zs : List Int} (h : OwnI A w v zs) (hl : zs.length ≤ 140737488355328) : IntRow w v zs := intRow_of_owns h.own (by omega)
theorem toX_I (zs : List Int) (u : Value) (w : World) (h : IntRow w u zs) (hs : zs.length ≤ 1048576) :
    Calls Try.prog 29 #[u] w fun e w' => (∃ v, e = .returned v ∧ OwnI (Iv w.heap.size w'.heap.size) w' v zs) ∧ Below w.heap.size w w' :=
  (toI w u zs h hs).mono fun _ _ ⟨v, he, ho, hB⟩ => ⟨⟨v, he, ownI_of ho⟩, hB⟩
theorem eqX_I (zs : List Int) (u v : Value) (w : World) (h1 : IntRow w u zs) (h2 : IntRow w v zs) :
    Calls Try.prog 30 #[u, v] w fun e w' => e = .returned (.bool true) ∧ Below w.heap.size w w' :=
  (eqI w u v zs h1 h2).mono fun _ _ ⟨he, q, hq⟩ => ⟨he, hq ▸ below_drewN2 (Below.refl _ _) q⟩
theorem markX_I (A : Nat → Prop) (zs : List Int) (v : Value) (k : Nat) (w : World) (h : OwnI A w v zs) (hl : k + zs.length ≤ 140737488355328) :
    Calls Try.prog 75 #[v, .int .i64 k] w fun e w' => e = .returned (.int .i64 ((k + zs.length : Nat) : Int)) ∧ OwnI A w' v (marksI k zs.length) ∧ Chg A w w' := by
  refine (markI w 0 zs.length k v _ h.own (by omega) (by omega)).mono fun e w' ⟨he, ho, hg⟩ => ⟨?_, ⟨?_, h.2⟩, chg_of_grown hg h.2⟩
  · rw [he]
    exact congrArg Ending.returned (congrArg (Value.int .i64) (by omega))
  · rw [intCells_len, marksI_len]
    exact ho
theorem heldX_I (zs : List Int) (v : Value) (k : Nat) (w : World) (h : IntRow w v (marksI k zs.length)) (hl : k + zs.length ≤ 140737488355328) :
    Calls Try.prog 93 #[v, .int .i64 k] w fun e w' => e = .returned (.int .i64 ((k + zs.length : Nat) : Int)) ∧ Below w.heap.size w w' :=
  (heldI w v zs.length k h (by omega) (by omega)).mono fun e w' ⟨he, q, hq⟩ => ⟨by
    rw [he]
    exact congrArg Ending.returned (congrArg (Value.int .i64) (by omega)), hq ▸ below_drewN2 (Below.refl _ _) q⟩
theorem mkLen_I (k : Nat) (zs : List Int) : (marksI k zs.length).length = zs.length := marksI_len _ _
theorem intForm {w : World} {v : Value} {zs : List Int} (h : IntRow w v zs) : ∃ a c, v = .slice a zs.length c := by
  obtain ⟨a, c, hv, _⟩ := intRow_form h
  exact ⟨a, c, hv⟩
theorem cell_nx {w w' : World} {p : Addr} {v : Value} (hB : Below w.heap.size w w') (h : w.cell? p = some v) : w'.cell? p = some v := (hB.cell (World.block_lt_of_cell? w _ h)).trans h
theorem bel_dr {w w' : World} (h : Below w.drew.heap.size w.drew w') : Below w.heap.size w w' := ⟨h.os, h.tape, h.output, h.size, h.block⟩
end Go.Proofs.Ytgknkjiifcnkpaa
namespace Go.Proofs.Ytgknkjiifcnkpaa
open Go.RowKit

theorem owns_same {w w' : World} {base n : Nat} {T : TypeId} {v : Value} {xs : List Value} (h : w.ownsRow base T 1 v n xs) (hb : ∀ g, v.ownBlock = some g → w'.heap[g]? = w.heap[g]?) : w'.ownsRow base T 1 v n xs := by
  refine ⟨h.1, ?_⟩
  rcases h.2 with ⟨rfl, h0⟩ | ⟨g, cap, cur, rfl, h1, h2, h3⟩
  · exact Or.inl ⟨rfl, h0⟩
  · exact Or.inr ⟨g, cap, cur, rfl, h1, (hb g rfl).trans h2, h3⟩

set_option maxRecDepth 100000 in
set_option maxHeartbeats 2000000 in
theorem markTabH (T : Tab) (u1 u2 u3 : Value) (vs : List Value) (base k : Nat) (w : World) (h : TabOwn w base T vs u1 u2 u3) (hbase : base ≤ w.heap.size) (hk : 1 ≤ k) (l1 : T.ns.length ≤ 1048576) (l2 : T.rs.length ≤ 1048576) (l4 : T.ys.length ≤ 1048576) (hkl : k + T.ns.length + (T.rs.map List.length).sum ≤ 2097152) (hi : Nat) (hv1 : ∀ g, u1.ownBlock = some g → g < hi) (hvs : ∀ (j : Nat) u g, vs[j]? = some u → u.ownBlock = some g → g < hi) (hv3 : ∀ g, u3.ownBlock = some g → g < hi) :
    Calls Try.prog 35 #[.agg #[u1, .string ⟨T.y.toArray⟩, u2, u3], .int .i64 k] w fun e w' => e = .returned (.int .i64 ((k + T.ns.length + (T.rs.map List.length).sum + T.ys.length : Nat) : Int)) ∧ TabOwn w' base (marksT T k) vs u1 u2 u3 ∧ Below base w w' ∧ (∀ b, hi ≤ b → b < w.heap.size → w'.heap[b]? = w.heap[b]?) := by
  obtain ⟨h1, h2, h3, h4, hap⟩ := h
  obtain ⟨a1, c1, rfl⟩ := owns_form h1
  obtain ⟨a2, c2, rfl⟩ := owns_form h2
  obtain ⟨a3, c3, rfl⟩ := owns_form h4
  have hB0 : Below base w (w.alloc (.cells #[.slice a1 T.ns.length c1, .string ⟨T.y.toArray⟩, .slice a2 T.rs.length c2, .slice a3 T.ys.length c3] 34)) := (Below.refl base w).alloc hbase _
  have hB0b := bl_al w (.cells #[.slice a1 T.ns.length c1, .string ⟨T.y.toArray⟩, .slice a2 T.rs.length c2, .slice a3 T.ys.length c3] 34)
  have hb1 := alloc_blk w #[.slice a1 T.ns.length c1, .string ⟨T.y.toArray⟩, .slice a2 T.rs.length c2, .slice a3 T.ys.length c3] 34
  have o1 := owns_bl h1 hB0b
  have o2 := owns_bl h2 hB0b
  have o3 := h3.below hB0b
  have o4 := owns_bl h4 hB0b
  have hX : ∀ (j : Nat) u g, vs[j]? = some u → u.ownBlock = some g → base ≤ g ∧ g ≠ w.heap.size ∧ (Value.slice a1 T.ns.length c1).ownBlock ≠ some g := fun j u g hu hb => by
    have hj : j < (T.rs.map intCells).length := by rw [← h3.1]; exact (List.getElem?_eq_some_iff.1 hu).1
    refine ⟨(h3.lt hu hb).1, ?_, ?_⟩
    · have := (h3.lt hu hb).2
      omega
    · intro e
      exact owns_apart h1 (h3.2.1 j u _ hu (List.getElem?_eq_getElem hj)) (by decide) g e hb
  have HV1 := Lib.hid hv1
  have HVS := Lib.hid hvs
  have HV3 := Lib.hid hv3
  clear hv1 hvs hv3
  have P0 : Hid (∀ b, hi ≤ b → b < w.heap.size → (w.alloc (.cells #[.slice a1 T.ns.length c1, .string ⟨T.y.toArray⟩, .slice a2 T.rs.length c2, .slice a3 T.ys.length c3] 34)).heap[b]? = w.heap[b]?) := Lib.hid (fun b _ hb => Below.heap_alloc w _ b hb)
  have HX := Lib.hid hX
  have HAP := Lib.hid hap
  have hF : ∀ g, (Value.slice a1 T.ns.length c1).ownBlock = some g → base ≤ g ∧ g < w.heap.size := fun g e => h1.lt g e
  have HFF := Lib.hid hF
  clear hX hap hF h1 h2 h3 h4
  go_enter Try.func35, Try.ntmps35
  have p0 := cell_blk hb1 0
  go_wp2_with fail
  refine (markStr _ base T.ns.length k _ _ o1 hk (by omega) (by omega)).mono ?_
  rintro e w1 ⟨rfl, hM, hg⟩
  have m1 := marked_cells hM
  have b1 := blk_gr hb1 hg (fun e => by have := (HFF.out _ e.symm).2; omega)
  have g2 := owns_keep o2 o1 (by decide) hg
  have g3 := o3.kept hg (fun j u g hu hb e => by
    have hj : j < (T.rs.map intCells).length := by rw [← o3.1]; exact (List.getElem?_eq_some_iff.1 hu).1
    exact owns_apart (o3.2.1 j u _ hu (List.getElem?_eq_getElem hj)) o1 (by decide) g hb e)
  have g4 := owns_keep o4 o1 (by decide) hg
  have P1 : Hid (∀ b, hi ≤ b → b < w.heap.size → w1.heap[b]? = w.heap[b]?) := Lib.hid (fun b hb hbw => (hg.block b (Nat.lt_of_lt_of_le hbw hB0b.size) (fun e => by have := HV1.out b e.symm; omega)).trans (P0.out b hb hbw))
  have hB1 := hB0.grown hg (Nat.le_trans hbase hB0b.size) (fun b hb => (o1.lt b hb).1)
  obtain ⟨K, hK⟩ : ∃ K : Nat, k + T.ns.length = K := ⟨_, rfl⟩
  have e2 : (k : Int) + T.ns.length = (K : Int) := by omega
  rw [e2]
  have HK := Lib.hid hK
  have hK1 : K ≤ 2097152 := by omega
  have hK2 : K + (T.rs.map List.length).sum ≤ 2097152 := by omega
  have p2 := cell_blk b1 2
  clear hM hg o1 o2 o3 o4 hb1 hB0 hB0b e2 hK
  go_wp2_with fail
  refine (markII _ base _ vs T.rs K g2 g3 (fun a => (a.ownsRow base 9 1 (.slice a1 T.ns.length c1) (strCells (marks k T.ns.length)).length (strCells (marks k T.ns.length)) ∧ a.ownsRow base 3 1 (.slice a3 T.ys.length c3) T.ys.length (intCells T.ys) ∧ a.heap[w.heap.size]? = some (.cells #[.slice a1 T.ns.length c1, .string ⟨T.y.toArray⟩, .slice a2 T.rs.length c2, .slice a3 T.ys.length c3] 34 (0, 0))) ∧ Below base w a ∧ (∀ b, hi ≤ b → b < w.heap.size → a.heap[b]? = w.heap[b]?)) ?_ ⟨⟨m1, g4, b1⟩, hB1, P1.out⟩ (by omega) (by omega)).mono ?_
  · rintro j u a b hu hgu ⟨⟨t1, t3, t4⟩, t5, t6⟩
    refine ⟨⟨owns_far t1 hgu (fun g e => (HX.out j u g hu e).2.2), owns_far t3 hgu (fun g e => HAP.out j u g hu e), blk_gr t4 hgu (fun e => (HX.out j u _ hu e.symm).2.1 rfl)⟩, t5.grown hgu (Nat.le_trans hbase t5.size) (fun g e => (HX.out j u g hu e).1), fun b' hb' hbw => (hgu.block b' (Nat.lt_of_lt_of_le hbw t5.size) (fun e => by have := HVS.out j u b' hu e.symm; omega)).trans (t6 b' hb' hbw)⟩
  rintro e w2 ⟨rfl, ⟨q2, q3⟩, ⟨q1, q4, b2⟩, hB2, P2⟩
  have p3 := cell_blk b2 3
  obtain ⟨K2, hK3⟩ : ∃ K2 : Nat, K + (T.rs.map List.length).sum = K2 := ⟨_, rfl⟩
  rw [hK3] at hK2
  rw [hK3]
  have HK2 := Lib.hid hK3
  clear m1 b1 g2 g3 g4 hB1 p2 p0 hK3
  go_wp2_with fail
  refine (markI _ base T.ys.length K2 _ _ q4 (by omega) (by omega)).mono ?_
  rintro e w3 ⟨rfl, r4, hg3⟩
  have r1 := owns_keep q1 q4 (by decide) hg3
  have r2 := owns_keep q2 q4 (by decide) hg3
  have r3 := q3.kept hg3 (fun j u g hu hb => HAP.out j u g hu hb)
  have hB3 := hB2.grown hg3 (Nat.le_trans hbase hB2.size) (fun b hb => (q4.lt b hb).1)
  go_wp2_with fail
  go_ret
  have f1 := HK.out
  have f2 := HK2.out
  refine ⟨ret_int (by omega), ⟨?_, ?_, ?_, ?_, HAP.out⟩, hB3, fun b hb hbw => (hg3.block b (Nat.lt_of_lt_of_le hbw hB2.size) (fun e => by have := HV3.out b e.symm; omega)).trans (P2 b hb hbw)⟩
  · rw [strCells_len] at r1
    exact r1
  · have e : (marksT T k).rs.length = T.rs.length := by rw [marksT, marksLI_len, List.length_map]
    rw [e]
    exact r2
  · rw [marksT, f1]
    exact r3
  · have e : (marksT T k).ys.length = T.ys.length := by rw [marksT, marksI_len]
    rw [e, marksT, f1, f2]
    exact r4

end Go.Proofs.Ytgknkjiifcnkpaa
namespace Go.Proofs.Ytgknkjiifcnkpaa
open Go.RowKit

/-- A table that lies in A. -/
def OwnTb (A : Nat → Prop) (w : World) (u1 u2 u3 : Value) (T : Tab) : Prop :=
  ∃ lo hi, (∀ b, Iv lo hi b → A b) ∧ lo ≤ w.heap.size ∧ ∃ vs, TabOwn w lo T vs u1 u2 u3 ∧ (∀ g, u1.ownBlock = some g → g < hi) ∧ (∀ g, u2.ownBlock = some g → g < hi) ∧ (∀ (j : Nat) u g, vs[j]? = some u → u.ownBlock = some g → g < hi) ∧ (∀ g, u3.ownBlock = some g → g < hi)
theorem ownTb_of {w : World} {B : Nat} {u1 u2 u3 : Value} {T : Tab} {vs : List Value} (h : TabOwn w B T vs u1 u2 u3) (hB : B ≤ w.heap.size) : OwnTb (Iv B w.heap.size) w u1 u2 u3 T :=
  ⟨B, w.heap.size, fun _ h => h, hB, vs, h, fun g e => (h.1.lt g e).2, fun g e => (h.2.1.lt g e).2, fun _ _ _ hu e => (h.2.2.1.lt hu e).2, fun g e => (h.2.2.2.1.lt g e).2⟩
theorem OwnTb.below {A : Nat → Prop} {w w' : World} {u1 u2 u3 : Value} {T : Tab} (h : OwnTb A w u1 u2 u3 T) (hB : Below w.heap.size w w') : OwnTb A w' u1 u2 u3 T := by
  obtain ⟨lo, hi, hA, hl, vs, ho, k⟩ := h
  exact ⟨lo, hi, hA, Nat.le_trans hl hB.size, vs, ho.below hB, k⟩
theorem OwnTb.chg {A A' : Nat → Prop} {w w' : World} {u1 u2 u3 : Value} {T : Tab} (h : OwnTb A w u1 u2 u3 T) (hC : Chg A' w w') (hd : ∀ b, A b → ¬ A' b) : OwnTb A w' u1 u2 u3 T := by
  obtain ⟨lo, hi, hA, hl, vs, ⟨o1, o2, o3, o4, o5⟩, k1, k2, k3, k4⟩ := h
  exact ⟨lo, hi, hA, Nat.le_trans hl hC.size, vs, ⟨own_blk o1 (fun g e => hC.block g (o1.lt g e).2 (hd g (hA g ⟨(o1.lt g e).1, k1 g e⟩))), own_blk o2 (fun g e => hC.block g (o2.lt g e).2 (hd g (hA g ⟨(o2.lt g e).1, k2 g e⟩))),
    ⟨o3.1, fun j u c hu hc => own_blk (o3.2.1 j u c hu hc) (fun g e => hC.block g (o3.lt hu e).2 (hd g (hA g ⟨(o3.lt hu e).1, k3 j u g hu e⟩))), o3.2.2⟩, own_blk o4 (fun g e => hC.block g (o4.lt g e).2 (hd g (hA g ⟨(o4.lt g e).1, k4 g e⟩))), o5⟩, k1, k2, k3, k4⟩
def FitTb (T : Tab) : Prop := szTab T ≤ 1048576 ∧ (∀ p ∈ T.ns, p.length ≤ 9223372036854775807) ∧ T.y.length ≤ 9223372036854775807
/-- What the functions are asked for: no part is past all bounds. -/
def PreTb (T : Tab) : Prop := T.ns.length ≤ 1048576 ∧ T.rs.length ≤ 1048576 ∧ (∀ r ∈ T.rs, r.length ≤ 1048576) ∧ T.ys.length ≤ 1048576 ∧ (∀ p ∈ T.ns, p.length ≤ 9223372036854775807) ∧ T.y.length ≤ 9223372036854775807
theorem FitTb.pre {T : Tab} (h : FitTb T) : PreTb T := by
  have hz := szTab_le h.1
  exact ⟨hz.1, hz.2.1, hz.2.2.1, hz.2.2.2.1, h.2.1, h.2.2⟩
theorem OwnTb.row {A : Nat → Prop} {w : World} {u1 u2 u3 : Value} {T : Tab} (h : OwnTb A w u1 u2 u3 T) (hz : PreTb T) : TabRow w T u1 u2 u3 := by
  obtain ⟨_, _, _, _, vs, ho, _⟩ := h
  exact ho.row (Nat.le_trans hz.1 (by omega)) (Nat.le_trans hz.2.1 (by omega)) (fun r hr => Nat.le_trans (hz.2.2.1 r hr) (by omega)) (Nat.le_trans hz.2.2.2.1 (by omega))
theorem TabRow.dr {w : World} {T : Tab} {u1 u2 u3 : Value} (h : TabRow w T u1 u2 u3) : TabRow w.drew T u1 u2 u3 := h
def cntTb (T : Tab) : Nat := T.ns.length + (T.rs.map List.length).sum + T.ys.length
theorem FitTb.cnt {T : Tab} (h : FitTb T) : cntTb T ≤ 1048576 := (szTab_le h.1).2.2.2.2
theorem toX_Tb (T : Tab) (u1 u2 u3 : Value) (w : World) (h : TabRow w T u1 u2 u3) (hf : FitTb T) :
    Calls Try.prog 32 #[.agg #[u1, .string ⟨T.y.toArray⟩, u2, u3]] w fun e w' => (∃ v1 v2 v3, e = .returned (.agg #[v1, .string ⟨T.y.toArray⟩, v2, v3]) ∧ OwnTb (Iv w.heap.size w'.heap.size) w' v1 v2 v3 T) ∧ Below w.heap.size w w' := by
  have hz := szTab_le hf.1
  exact (toTab T u1 u2 u3 w h hz.1 hz.2.1 hz.2.2.1 hz.2.2.2.1).mono fun _ _ ⟨⟨vs, v1, v2, v3, he, ho⟩, hB⟩ => ⟨⟨v1, v2, v3, he, ownTb_of ho hB.size⟩, hB⟩
theorem eqX_Tb (T : Tab) (u1 u2 u3 v1 v2 v3 : Value) (w : World) (h1 : TabRow w T u1 u2 u3) (h2 : TabRow w T v1 v2 v3) :
    Calls Try.prog 34 #[.agg #[u1, .string ⟨T.y.toArray⟩, u2, u3], .agg #[v1, .string ⟨T.y.toArray⟩, v2, v3]] w fun e w' => e = .returned (.bool true) ∧ Below w.heap.size w w' := eqTab T u1 u2 u3 v1 v2 v3 w h1 h2
theorem szok_Tb (T : Tab) (u1 u2 u3 : Value) (w : World) (h : TabRow w T u1 u2 u3) (left : Nat) (hleft : left ≤ 1048576) (m : Nat) (hm : left = szTab T + m) (ok : (∀ p ∈ T.ns, p.length ≤ 9223372036854775807) ∧ T.y.length ≤ 9223372036854775807) :
    Calls Try.prog 31 #[.agg #[u1, .string ⟨T.y.toArray⟩, u2, u3], .int .i64 left] w fun e w' => e = .returned (.int .i64 (m : Int)) ∧ Below w.heap.size w w' := szTab_ok T u1 u2 u3 w h ok.1 left hleft m hm
theorem szno_Tb (T : Tab) (u1 u2 u3 : Value) (w : World) (h : TabRow w T u1 u2 u3) (left : Nat) (hleft : left ≤ 1048576) (hf : left < szTab T) (ok : (∀ p ∈ T.ns, p.length ≤ 9223372036854775807) ∧ T.y.length ≤ 9223372036854775807) :
    Calls Try.prog 31 #[.agg #[u1, .string ⟨T.y.toArray⟩, u2, u3], .int .i64 left] w fun e w' => e = .returned (.int .i64 (-1)) ∧ Below w.heap.size w w' := szTab_no T u1 u2 u3 w h ok.1 ok.2 left hleft hf
theorem markX_Tb (A : Nat → Prop) (T : Tab) (u1 u2 u3 : Value) (k : Nat) (w : World) (h : OwnTb A w u1 u2 u3 T) (_hl : k + cntTb T ≤ 140737488355328) (hb : FitTb T ∧ 1 ≤ k ∧ k ≤ 1048576) :
    Calls Try.prog 35 #[.agg #[u1, .string ⟨T.y.toArray⟩, u2, u3], .int .i64 k] w fun e w' => e = .returned (.int .i64 ((k + cntTb T : Nat) : Int)) ∧ OwnTb A w' u1 u2 u3 (marksT T k) ∧ Chg A w w' := by
  obtain ⟨lo, hi, hA, hlo, vs, ho, k1, k2, k3, k4⟩ := h
  have hz := szTab_le hb.1.1
  have hs : szLI T.rs = (T.rs.map List.length).sum := rfl
  refine (markTabH T u1 u2 u3 vs lo k w ho hlo hb.2.1 hz.1 hz.2.1 hz.2.2.2.1 (by have := hz.2.2.2.2; omega) hi k1 k3 k4).mono ?_
  rintro e w' ⟨he, ho', hB, hk⟩
  refine ⟨by rw [he]; exact congrArg Ending.returned (congrArg (Value.int .i64) (by unfold cntTb; omega)), ⟨lo, hi, hA, Nat.le_trans hlo hB.size, vs, ho', k1, k2, k3, k4⟩, ⟨hB.os, hB.tape, hB.output, hB.size, fun b hb hn => ?_⟩⟩
  by_cases h1 : b < lo
  · exact hB.block b h1
  · refine hk b ?_ hb
    by_cases h2 : b < hi
    · exact absurd (hA b ⟨by omega, h2⟩) hn
    · omega
end Go.Proofs.Ytgknkjiifcnkpaa
