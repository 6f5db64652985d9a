/-
  The laws' own helpers on tables: equal, their size, their copy, their marks.
-/
import Derived.Test.YtgknkjiifcnkpaaPk2
import Derived.Test.YtgknkjiifcnkpaaPk1
import Derived.Test.YtgknkjiifcnkpaaRowII
import Derived.Test.YtgknkjiifcnkpaaArgsB
import Derived.Laws.ResultCell
import Derived.Deep.Onto
import Derived.OneCell
namespace Go.Proofs.Ytgknkjiifcnkpaa
open Go.RowKit

/-- A table. -/
structure Tab where
  ns : List (List UInt8)
  y : List UInt8
  rs : List (List Int)
  ys : List Int
/-- The table's parts read so. -/
def TabRow (w : World) (T : Tab) (u1 u2 u3 : Value) : Prop := StrRow w u1 T.ns ∧ IIRow w u2 T.rs ∧ IntRow w u3 T.ys
theorem TabRow.below {w w' : World} {T : Tab} {u1 u2 u3 : Value} (h : TabRow w T u1 u2 u3) (hB : Below w.heap.size w w') : TabRow w' T u1 u2 u3 := ⟨h.1.below hB, h.2.1.below hB, h.2.2.below hB⟩
theorem sRow_form {w : World} {v : Value} {L : List (List UInt8)} (h : StrRow w v L) : ∃ a c, v = .slice a L.length c ∧ L.length ≤ 9223372036854775807 := by
  rcases h with ⟨rfl, a, c, rfl⟩ | ⟨b, off, c, rfl, hl, _, hc⟩
  · exact ⟨a, c, rfl, by simp⟩
  · exact ⟨_, c, rfl, hl⟩
theorem iiRow_form {w : World} {v : Value} {L : List (List Int)} (h : IIRow w v L) : ∃ a c, v = .slice a L.length c ∧ L.length ≤ 9223372036854775807 := by
  rcases h with ⟨rfl, a, c, rfl⟩ | ⟨b, off, c, rfl, hl, _, hc⟩
  · exact ⟨a, c, rfl, by simp⟩
  · exact ⟨_, c, rfl, hl⟩
theorem res_one {fn : Func} {p : Tmp} {ty : TypeId} (h : fn.results = #[.cell p ty]) (tmps : Array Value) (P : Program) (w : World) :
    (results fn tmps).run P w = ((asAddr (tmps.getD p undef)).run P w).andThen fun a w1 => (loadVar ty a).run P w1 := by
  simp only [results, h]
  simp [Sem.run_bind, Result.andThen]
theorem sz_alloc (w : World) (o : Obj) : (w.alloc o).heap.size = w.heap.size + 1 := by simp
theorem blk_al {w : World} {b : Nat} {o : Obj} (h : w.heap[b]? = some o) (x : Obj) : (w.alloc x).heap[b]? = some o := (Below.heap_alloc w x b (blk_lt h)).trans h
theorem bl_al (w : World) (o : Obj) : Below w.heap.size w (w.alloc o) := (Below.refl _ _).alloc (Nat.le_refl _) _
theorem grow_al (w : World) (o : Obj) (r : Option Nat) : w.grownBy (w.alloc o) r := ⟨rfl, rfl, rfl, by simp, fun i hi _ => Below.heap_alloc w o i hi⟩
theorem owns_bl {w w' : World} {base n : Nat} {T : TypeId} {v : Value} {xs : List Value} (h : w.ownsRow base T 1 v n xs) (hB : Below w.heap.size w w') : w'.ownsRow base T 1 v n xs :=
  h.kept (row := none) ⟨hB.os, hB.tape, hB.output, hB.size, fun k hk _ => hB.block k hk⟩ (by cases hv : v.ownBlock <;> simp)

set_option maxRecDepth 100000 in
theorem eqTab (T : Tab) (u1 u2 u3 v1 v2 v3 : Value) (w : World) (h1 : TabRow w T u1 u2 u3) (h2 : TabRow w T v1 v2 v3) :
    Calls Try.prog 34 #[.agg #[u1, .string ⟨T.y.toArray⟩, u2, u3], .agg #[v1, .string ⟨T.y.toArray⟩, v2, v3]] w fun e w' => e = .returned (.bool true) ∧ Below w.heap.size w w' := by
  obtain ⟨p1, p2, p3⟩ := h1
  obtain ⟨q1, q2, q3⟩ := h2
  obtain ⟨a1, c1, rfl, _⟩ := sRow_form p1
  obtain ⟨a2, c2, rfl, _⟩ := iiRow_form p2
  obtain ⟨a3, c3, rfl, _⟩ := intRow_form p3
  obtain ⟨b1, d1, rfl, _⟩ := sRow_form q1
  obtain ⟨b2, d2, rfl, _⟩ := iiRow_form q2
  obtain ⟨b3, d3, rfl, _⟩ := intRow_form q3
  go_enter Try.func34, Try.ntmps34
  go_wp2_with fail
  have hA := bl_al w (.cells #[.slice a1 T.ns.length c1, .string ⟨T.y.toArray⟩, .slice a2 T.rs.length c2, .slice a3 T.ys.length c3] 34)
  have hA2 := bt hA (bl_al _ (.cells #[.slice b1 T.ns.length d1, .string ⟨T.y.toArray⟩, .slice b2 T.rs.length d2, .slice b3 T.ys.length d3] 34))
  refine (eqStr _ _ _ T.ns (p1.below hA2) (q1.below hA2)).mono ?_
  rintro e w1 ⟨rfl, z1, rfl⟩
  have hA3 := below_drewN2 hA2 z1
  go_wp2_with fail
  refine (eqII _ _ _ T.rs (p2.below hA3) (q2.below hA3)).mono ?_
  rintro e w1 ⟨rfl, z2, rfl⟩
  have hA4 := below_drewN2 hA2 (z1 + z2)
  go_wp2_with fail
  refine (eqI _ _ _ T.ys (p3.below hA4) (q3.below hA4)).mono ?_
  rintro e w1 ⟨rfl, z3, rfl⟩
  have hA5 := below_drewN2 hA2 (z1 + z2 + z3)
  go_wp2_with fail
  go_ret
  exact ⟨rfl, hA5⟩

/-- What the size of a table counts. -/
def szTab (T : Tab) : Nat := (T.ns.length + lensum T.ns) + T.y.length + (T.rs.length + szLI T.rs) + T.ys.length

theorem szII_ok (w : World) (v : Value) (left : Nat) (L : List (List Int)) (h : IIRow w v L) (hleft : left ≤ 1048576) (m : Nat) (hm : left = L.length + szLI L + m) :
    Calls Try.prog 67 #[v, .int .i64 left] w fun e w' => e = .returned (.int .i64 m) ∧ w = w' :=
  (szII w v left L h hleft).mono fun e w' ⟨he, hw⟩ => ⟨by
    rcases he with ⟨_, he⟩ | ⟨hlt, _⟩
    · rw [he]
      exact ret_int (by omega)
    · omega, hw⟩
theorem szII_no (w : World) (v : Value) (left : Nat) (L : List (List Int)) (h : IIRow w v L) (hleft : left ≤ 1048576) (hf : left < L.length + szLI L) :
    Calls Try.prog 67 #[v, .int .i64 left] w fun e w' => e = .returned (.int .i64 (-1)) ∧ w = w' :=
  (szII w v left L h hleft).mono fun e w' ⟨he, hw⟩ => ⟨by
    rcases he with ⟨hle, _⟩ | ⟨_, he⟩
    · omega
    · exact he, hw⟩
theorem szStr_ok (w : World) (v : Value) (left : Nat) (ps : List (List UInt8)) (h : StrRow w v ps) (hleft : left ≤ 1048576) (hsz : ∀ p ∈ ps, p.length ≤ 9223372036854775807) (m : Nat) (hm : left = ps.length + lensum ps + m) :
    Calls Try.prog 66 #[v, .int .i64 left] w fun e w' => e = .returned (.int .i64 m) ∧ w = w' :=
  (szStr_fits w v left ps h hleft hsz (by omega)).mono fun e w' ⟨he, hw⟩ => ⟨by rw [he]; exact ret_int (by omega), hw⟩
theorem szInt_ok (w : World) (v : Value) (left : Nat) (ps : List Int) (h : IntRow w v ps) (hleft : left ≤ 1048576) (m : Nat) (hm : left = ps.length + m) :
    Calls Try.prog 68 #[v, .int .i64 left] w fun e w' => e = .returned (.int .i64 m) ∧ w = w' :=
  (szInt_fits w v left ps h hleft (by omega)).mono fun e w' ⟨he, hw⟩ => ⟨by rw [he]; exact ret_int (by omega), hw⟩

set_option maxRecDepth 100000 in
theorem szTab_1 (T : Tab) (u1 u2 u3 : Value) (w : World) (h : TabRow w T u1 u2 u3) (hsz : ∀ p ∈ T.ns, p.length ≤ 9223372036854775807) (left : Nat) (hleft : left ≤ 1048576) (hf : left < T.ns.length + lensum T.ns) :
    Calls Try.prog 31 #[.agg #[u1, .string ⟨T.y.toArray⟩, u2, u3], .int .i64 left] w fun e w' => e = .returned (.int .i64 (-1)) ∧ Below w.heap.size w w' := by
  obtain ⟨h1, h2, h3⟩ := h
  have hA := bl_al w (.cells #[u1, .string ⟨T.y.toArray⟩, u2, u3] 45)
  obtain ⟨q1, c1, rfl, _⟩ := sRow_form h1
  obtain ⟨q2, c2, rfl, _⟩ := iiRow_form h2
  obtain ⟨q3, c3, rfl, _⟩ := intRow_form h3
  have HZ := Lib.hid hsz
  clear hsz
  have HF := Lib.hid hf
  clear hf
  go_enter Try.func31, Try.ntmps31
  go_wp2_with fail
  refine (szStr_not _ _ left T.ns (h1.below hA) hleft HZ.out HF.out).mono ?_
  rintro e w1 ⟨rfl, rfl⟩
  go_wp2_with fail
  go_ret
  exact ⟨rfl, hA⟩

set_option maxRecDepth 100000 in
theorem szTab_2 (T : Tab) (u1 u2 u3 : Value) (w : World) (h : TabRow w T u1 u2 u3) (hsz : ∀ p ∈ T.ns, p.length ≤ 9223372036854775807) (left : Nat) (hleft : left ≤ 1048576) (l1 : Nat) (e1 : left = T.ns.length + lensum T.ns + l1) (hf : l1 < T.y.length) (hyl : T.y.length ≤ 9223372036854775807) :
    Calls Try.prog 31 #[.agg #[u1, .string ⟨T.y.toArray⟩, u2, u3], .int .i64 left] w fun e w' => e = .returned (.int .i64 (-1)) ∧ Below w.heap.size w w' := by
  obtain ⟨h1, h2, h3⟩ := h
  have hA := bl_al w (.cells #[u1, .string ⟨T.y.toArray⟩, u2, u3] 45)
  obtain ⟨q1, c1, rfl, _⟩ := sRow_form h1
  obtain ⟨q2, c2, rfl, _⟩ := iiRow_form h2
  obtain ⟨q3, c3, rfl, _⟩ := intRow_form h3
  have HZ := Lib.hid hsz
  clear hsz
  have m1 : ¬ (l1 : Int) < 0 := by omega
  have b1 : l1 ≤ 1048576 := by omega
  have m2 : (l1 : Int) - T.y.length < 0 := by omega
  have E1 := Lib.hid e1
  clear e1
  go_enter Try.func31, Try.ntmps31
  go_wp2_with fail
  refine (szStr_ok _ _ left T.ns (h1.below hA) hleft HZ.out l1 E1.out).mono ?_
  rintro e w1 ⟨rfl, rfl⟩
  go_wp2_with fail
  go_ret
  exact ⟨rfl, hA⟩

set_option maxRecDepth 100000 in
theorem szTab_3 (T : Tab) (u1 u2 u3 : Value) (w : World) (h : TabRow w T u1 u2 u3) (hsz : ∀ p ∈ T.ns, p.length ≤ 9223372036854775807) (left : Nat) (hleft : left ≤ 1048576) (l1 : Nat) (e1 : left = T.ns.length + lensum T.ns + l1) (l2 : Nat) (e2 : l1 = T.y.length + l2) (hf : l2 < T.rs.length + szLI T.rs) :
    Calls Try.prog 31 #[.agg #[u1, .string ⟨T.y.toArray⟩, u2, u3], .int .i64 left] w fun e w' => e = .returned (.int .i64 (-1)) ∧ Below w.heap.size w w' := by
  obtain ⟨h1, h2, h3⟩ := h
  have hA := bl_al w (.cells #[u1, .string ⟨T.y.toArray⟩, u2, u3] 45)
  obtain ⟨q1, c1, rfl, _⟩ := sRow_form h1
  obtain ⟨q2, c2, rfl, _⟩ := iiRow_form h2
  obtain ⟨q3, c3, rfl, _⟩ := intRow_form h3
  have HZ := Lib.hid hsz
  clear hsz
  have HF := Lib.hid hf
  clear hf
  have m1 : ¬ (l1 : Int) < 0 := by omega
  have m2 : (l1 : Int) - T.y.length = l2 := by omega
  have m3 : ¬ (l1 : Int) - T.y.length < 0 := by omega
  have m4 : ¬ (l2 : Int) < 0 := by omega
  have b1 : l1 ≤ 1048576 := by omega
  have b2 : l2 ≤ 1048576 := by omega
  have bt : T.y.length ≤ 1048576 := by omega
  have E1 := Lib.hid e1
  have E2 := Lib.hid e2
  clear e1 e2
  go_enter Try.func31, Try.ntmps31
  go_wp2_with fail
  refine (szStr_ok _ _ left T.ns (h1.below hA) hleft HZ.out l1 E1.out).mono ?_
  rintro e w1 ⟨rfl, rfl⟩
  go_wp2_with fail
  refine (szII_no _ _ l2 T.rs (h2.below hA) b2 HF.out).mono ?_
  rintro e w1 ⟨rfl, rfl⟩
  go_wp2_with fail
  go_ret
  exact ⟨rfl, hA⟩

set_option maxRecDepth 100000 in
theorem szTab_4 (T : Tab) (u1 u2 u3 : Value) (w : World) (h : TabRow w T u1 u2 u3) (hsz : ∀ p ∈ T.ns, p.length ≤ 9223372036854775807) (left : Nat) (hleft : left ≤ 1048576) (l1 : Nat) (e1 : left = T.ns.length + lensum T.ns + l1) (l2 : Nat) (e2 : l1 = T.y.length + l2) (l3 : Nat) (e3 : l2 = T.rs.length + szLI T.rs + l3) (hf : l3 < T.ys.length) :
    Calls Try.prog 31 #[.agg #[u1, .string ⟨T.y.toArray⟩, u2, u3], .int .i64 left] w fun e w' => e = .returned (.int .i64 (-1)) ∧ Below w.heap.size w w' := by
  obtain ⟨h1, h2, h3⟩ := h
  have hA := bl_al w (.cells #[u1, .string ⟨T.y.toArray⟩, u2, u3] 45)
  obtain ⟨q1, c1, rfl, _⟩ := sRow_form h1
  obtain ⟨q2, c2, rfl, _⟩ := iiRow_form h2
  obtain ⟨q3, c3, rfl, _⟩ := intRow_form h3
  have HZ := Lib.hid hsz
  clear hsz
  have HF := Lib.hid hf
  clear hf
  have m1 : ¬ (l1 : Int) < 0 := by omega
  have m2 : (l1 : Int) - T.y.length = l2 := by omega
  have m3 : ¬ (l1 : Int) - T.y.length < 0 := by omega
  have m4 : ¬ (l2 : Int) < 0 := by omega
  have m6 : ¬ (l3 : Int) < 0 := by omega
  have b1 : l1 ≤ 1048576 := by omega
  have b2 : l2 ≤ 1048576 := by omega
  have bt : T.y.length ≤ 1048576 := by omega
  have b3 : l3 ≤ 1048576 := by omega
  have E1 := Lib.hid e1
  have E2 := Lib.hid e2
  have E3 := Lib.hid e3
  clear e1 e2 e3
  go_enter Try.func31, Try.ntmps31
  go_wp2_with fail
  refine (szStr_ok _ _ left T.ns (h1.below hA) hleft HZ.out l1 E1.out).mono ?_
  rintro e w1 ⟨rfl, rfl⟩
  go_wp2_with fail
  refine (szII_ok _ _ l2 T.rs (h2.below hA) b2 l3 E3.out).mono ?_
  rintro e w1 ⟨rfl, rfl⟩
  go_wp2_with fail
  refine (szInt_not _ _ l3 T.ys (h3.below hA) b3 HF.out).mono ?_
  rintro e w1 ⟨rfl, rfl⟩
  go_wp2_with fail
  go_ret
  exact ⟨rfl, hA⟩

set_option maxRecDepth 100000 in
theorem szTab_5 (T : Tab) (u1 u2 u3 : Value) (w : World) (h : TabRow w T u1 u2 u3) (hsz : ∀ p ∈ T.ns, p.length ≤ 9223372036854775807) (left : Nat) (hleft : left ≤ 1048576) (l1 : Nat) (e1 : left = T.ns.length + lensum T.ns + l1) (l2 : Nat) (e2 : l1 = T.y.length + l2) (l3 : Nat) (e3 : l2 = T.rs.length + szLI T.rs + l3) (l4 : Nat) (e4 : l3 = T.ys.length + l4) :
    Calls Try.prog 31 #[.agg #[u1, .string ⟨T.y.toArray⟩, u2, u3], .int .i64 left] w fun e w' => e = .returned (.int .i64 (l4 : Int)) ∧ Below w.heap.size w w' := by
  obtain ⟨h1, h2, h3⟩ := h
  have hA := bl_al w (.cells #[u1, .string ⟨T.y.toArray⟩, u2, u3] 45)
  obtain ⟨q1, c1, rfl, _⟩ := sRow_form h1
  obtain ⟨q2, c2, rfl, _⟩ := iiRow_form h2
  obtain ⟨q3, c3, rfl, _⟩ := intRow_form h3
  have HZ := Lib.hid hsz
  clear hsz
  have m1 : ¬ (l1 : Int) < 0 := by omega
  have m2 : (l1 : Int) - T.y.length = l2 := by omega
  have m3 : ¬ (l1 : Int) - T.y.length < 0 := by omega
  have m4 : ¬ (l2 : Int) < 0 := by omega
  have m6 : ¬ (l3 : Int) < 0 := by omega
  have m7 : ¬ (l4 : Int) < 0 := by omega
  have b1 : l1 ≤ 1048576 := by omega
  have b2 : l2 ≤ 1048576 := by omega
  have bt : T.y.length ≤ 1048576 := by omega
  have b3 : l3 ≤ 1048576 := by omega
  have E1 := Lib.hid e1
  have E2 := Lib.hid e2
  have E3 := Lib.hid e3
  have E4 := Lib.hid e4
  clear e1 e2 e3 e4
  go_enter Try.func31, Try.ntmps31
  go_wp2_with fail
  refine (szStr_ok _ _ left T.ns (h1.below hA) hleft HZ.out l1 E1.out).mono ?_
  rintro e w1 ⟨rfl, rfl⟩
  go_wp2_with fail
  refine (szII_ok _ _ l2 T.rs (h2.below hA) b2 l3 E3.out).mono ?_
  rintro e w1 ⟨rfl, rfl⟩
  go_wp2_with fail
  refine (szInt_ok _ _ l3 T.ys (h3.below hA) b3 l4 E4.out).mono ?_
  rintro e w1 ⟨rfl, rfl⟩
  go_wp2_with fail
  go_ret
  exact ⟨rfl, hA⟩


theorem blk_gr {w w' : World} {b : Nat} {o : Obj} {r : Option Nat} (h : w.heap[b]? = some o) (hg : w.grownBy w' r) (hne : some b ≠ r) : w'.heap[b]? = some o := (hg.block b (blk_lt h) hne).trans h
theorem owns_far {w w' : World} {base n : Nat} {T : TypeId} {v : Value} {xs : List Value} {r : Option Nat} (h : w.ownsRow base T 1 v n xs) (hg : w.grownBy w' r) (hne : ∀ g, r = some g → v.ownBlock ≠ some g) : w'.ownsRow base T 1 v n xs := by
  refine h.kept hg ?_
  cases e : v.ownBlock with
  | none => exact Or.inl rfl
  | some g => exact Or.inr (fun k => hne g k.symm e)
/-- The table's parts are the call's own, and its rows lie apart from its last part. -/
def TabOwn (w : World) (base : Nat) (T : Tab) (vs : List Value) (u1 u2 u3 : Value) : Prop :=
  w.ownsRow base 9 1 u1 T.ns.length (strCells T.ns) ∧ w.ownsRow base 24 1 u2 T.rs.length vs ∧ RowsOwn w base 3 vs (T.rs.map intCells) ∧ w.ownsRow base 3 1 u3 T.ys.length (intCells T.ys) ∧ (∀ (j : Nat) u g, vs[j]? = some u → u.ownBlock = some g → u3.ownBlock ≠ some g)
theorem TabOwn.below {w w' : World} {base : Nat} {T : Tab} {vs : List Value} {u1 u2 u3 : Value} (h : TabOwn w base T vs u1 u2 u3) (hB : Below w.heap.size w w') : TabOwn w' base T vs u1 u2 u3 :=
  ⟨owns_bl h.1 hB, owns_bl h.2.1 hB, h.2.2.1.below hB, owns_bl h.2.2.2.1 hB, h.2.2.2.2⟩
theorem TabOwn.row {w : World} {base : Nat} {T : Tab} {vs : List Value} {u1 u2 u3 : Value} (h : TabOwn w base T vs u1 u2 u3) (h1 : T.ns.length ≤ 9223372036854775807) (h2 : T.rs.length ≤ 9223372036854775807) (h3 : ∀ r ∈ T.rs, r.length ≤ 9223372036854775807) (h4 : T.ys.length ≤ 9223372036854775807) : TabRow w T u1 u2 u3 :=
  ⟨strRow_of_owns h.1 h1, IIOwn.row ⟨vs, h.2.1, h.2.2.1⟩ h2 h3, intRow_of_owns h.2.2.2.1 h4⟩
theorem own_ne_blk {w : World} {base n cb : Nat} {T T' : TypeId} {v : Value} {xs : List Value} {cs : Array Value} (h : w.ownsRow base T 1 v n xs) (hb : w.heap[cb]? = some (.cells cs T' (0, 0))) (hT : T ≠ T') : v.ownBlock ≠ some cb := by
  intro hg
  rcases h.2 with ⟨rfl, _⟩ | ⟨g1, c1, cur1, rfl, _, hc1, _⟩
  · cases hg
  · simp only [Value.ownBlock, Option.some.injEq] at hg
    subst hg
    rw [hb] at hc1
    injection hc1 with hc1
    injection hc1 with _ hc1
    exact hT hc1.symm
theorem RowsOwn.setBox {w : World} {base cb : Nat} {T T' : TypeId} {vs : List Value} {C : List (List Value)} {cs : Array Value} (h : RowsOwn w base T vs C) (hb : w.heap[cb]? = some (.cells cs T' (0, 0))) (hT : T ≠ T') (i : Nat) (x : Value) : RowsOwn (w.setCell ⟨cb, i, none⟩ x) base T vs C :=
  ⟨h.1, fun j u c hu hc => ownsRow_setCell_other (h.2.1 j u c hu hc) (own_ne_blk (h.2.1 j u c hu hc) hb hT) _, h.2.2⟩
theorem RowsOwn.mono {w : World} {base base' : Nat} {T : TypeId} {vs : List Value} {C : List (List Value)} (h : RowsOwn w base T vs C) (hb : base' ≤ base) : RowsOwn w base' T vs C :=
  ⟨h.1, fun j u c hu hc => World.ownsRow.mono (h.2.1 j u c hu hc) hb, h.2.2⟩
/-- The copy's three boxes. -/
structure TbS (wr : World) (n : Nat) (P R L : Array Value) : Prop where
  pb : wr.heap[n]? = some (.cells P 45 (0, 0))
  rb : wr.heap[n + 1]? = some (.cells R 34 (0, 0))
  lb : wr.heap[n + 1 + 1]? = some (.cells L 34 (0, 0))
theorem TbS.next {wr w' : World} {n : Nat} {P R L : Array Value} (h : TbS wr n P R L) (hB : Below wr.heap.size wr w') : TbS w' n P R L := ⟨blk_next h.pb hB, blk_next h.rb hB, blk_next h.lb hB⟩
theorem TbS.setL {wr : World} {n : Nat} {P R L : Array Value} (h : TbS wr n P R L) (i : Nat) (x : Value) : TbS (wr.setCell ⟨n + 1 + 1, i, none⟩ x) n P R (L.setIfInBounds i x) :=
  ⟨(heap_setCell_other _ _ _ _ (by simp; omega)).trans h.pb, (heap_setCell_other _ _ _ _ (by simp)).trans h.rb, heap_setCell_same _ _ _ _ _ _ h.lb⟩

set_option maxRecDepth 100000 in
set_option maxHeartbeats 2000000 in
theorem toTab (T : Tab) (u1 u2 u3 : Value) (w : World) (h : TabRow w T u1 u2 u3) (l1 : T.ns.length ≤ 1048576) (l2 : T.rs.length ≤ 1048576) (l3 : ∀ r ∈ T.rs, r.length ≤ 1048576) (l4 : T.ys.length ≤ 1048576) :
    Calls Try.prog 32 #[.agg #[u1, .string ⟨T.y.toArray⟩, u2, u3]] w fun e w' => (∃ vs v1 v2 v3, e = .returned (.agg #[v1, .string ⟨T.y.toArray⟩, v2, v3]) ∧ TabOwn w' w.heap.size T vs v1 v2 v3) ∧ Below w.heap.size w w' := by
  obtain ⟨h1, h2, h3⟩ := h
  obtain ⟨a1, c1, rfl, _⟩ := sRow_form h1
  obtain ⟨a2, c2, rfl, _⟩ := iiRow_form h2
  obtain ⟨a3, c3, rfl, _⟩ := intRow_form h3
  have hA1 := bl_al w (.cells #[.slice a1 T.ns.length c1, .string ⟨T.y.toArray⟩, .slice a2 T.rs.length c2, .slice a3 T.ys.length c3] 45)
  have hA2 := bt hA1 (bl_al _ (.cells #[.slice none 0 0, .string ByteArray.empty, .slice none 0 0, .slice none 0 0] 34))
  have hA := bt hA2 (bl_al _ (.cells #[.slice none 0 0, .string ByteArray.empty, .slice none 0 0, .slice none 0 0] 34))
  have hT0 : TbS (((w.alloc (.cells #[.slice a1 T.ns.length c1, .string ⟨T.y.toArray⟩, .slice a2 T.rs.length c2, .slice a3 T.ys.length c3] 45)).alloc (.cells #[.slice none 0 0, .string ByteArray.empty, .slice none 0 0, .slice none 0 0] 34)).alloc (.cells #[.slice none 0 0, .string ByteArray.empty, .slice none 0 0, .slice none 0 0] 34)) w.heap.size #[.slice a1 T.ns.length c1, .string ⟨T.y.toArray⟩, .slice a2 T.rs.length c2, .slice a3 T.ys.length c3] #[.slice none 0 0, .string ByteArray.empty, .slice none 0 0, .slice none 0 0] #[.slice none 0 0, .string ByteArray.empty, .slice none 0 0, .slice none 0 0] := by
    refine ⟨blk_al (blk_al (alloc_blk w _ _) _) _, ?_, ?_⟩
    · have := blk_al (alloc_blk (w.alloc (.cells #[.slice a1 T.ns.length c1, .string ⟨T.y.toArray⟩, .slice a2 T.rs.length c2, .slice a3 T.ys.length c3] 45)) #[.slice none 0 0, .string ByteArray.empty, .slice none 0 0, .slice none 0 0] 34) (.cells #[.slice none 0 0, .string ByteArray.empty, .slice none 0 0, .slice none 0 0] 34)
      simpa using this
    · have := alloc_blk ((w.alloc (.cells #[.slice a1 T.ns.length c1, .string ⟨T.y.toArray⟩, .slice a2 T.rs.length c2, .slice a3 T.ys.length c3] 45)).alloc (.cells #[.slice none 0 0, .string ByteArray.empty, .slice none 0 0, .slice none 0 0] 34)) #[.slice none 0 0, .string ByteArray.empty, .slice none 0 0, .slice none 0 0] 34
      simpa using this
  go_enter Try.func32, Try.ntmps32
  have p0 := cell_blk hT0.pb 0
  have p1 := cell_blk hT0.pb 1
  go_wp2_with fail
  refine (toStrP _ _ T.ns (h1.below hA) l1).mono ?_
  rintro e w1 ⟨v1, rfl, ho1, hB1⟩
  obtain ⟨b1, d1, rfl⟩ := owns_form ho1
  have hT1 := hT0.next hB1
  have hC1 := bt hA hB1
  have hT2 := (hT1.setL 0 (.slice b1 T.ns.length d1)).setL 1 (.string ⟨T.y.toArray⟩)
  have ho1b := ownsRow_setCell_other (a := ⟨w.heap.size + 1 + 1, 1, none⟩) (ownsRow_setCell_other (a := ⟨w.heap.size + 1 + 1, 0, none⟩) ho1 (own_ne_blk ho1 hT1.lb (by decide)) (.slice b1 T.ns.length d1)) (own_ne_blk ho1 hT1.lb (by decide)) (.string ⟨T.y.toArray⟩)
  have hC2 := (hC1.setCell (p := ⟨w.heap.size + 1 + 1, 0, none⟩) (by simp; omega) (.slice b1 T.ns.length d1)).setCell (p := ⟨w.heap.size + 1 + 1, 1, none⟩) (by simp; omega) (.string ⟨T.y.toArray⟩)
  have hz1 := hA.size
  have ho1c := World.ownsRow.mono ho1b hz1
  have p0 := cell_blk hT1.pb 0
  have p1 := cell_blk hT1.pb 1
  have p2 := cell_blk hT1.pb 2
  have q0 := cell_blk hT1.lb 0
  have f0 := free_blk hT1.lb 0
  have q1 := cell_blk hT1.lb 1
  have f1 := free_blk hT1.lb 1
  clear hB1 ho1 ho1b hC1 hT0 hA1 hA2
  go_wp2_with fail
  refine (toII _ _ T.rs (h2.below hC2) l2 l3).mono ?_
  rintro e w2 ⟨v2, rfl, ⟨vs, ho2, hr2⟩, hB2⟩
  obtain ⟨b2, d2, rfl⟩ := owns_form ho2
  have hT3 := hT2.next hB2
  have hC3 := bt hC2 hB2
  have ho1d := owns_bl ho1c hB2
  have hz2 := hC2.size
  have ho2b := World.ownsRow.mono ho2 hz2
  have hr2b := hr2.mono hz2
  have hT4 := hT3.setL 2 (.slice b2 T.rs.length d2)
  have ho1e := ownsRow_setCell_other (a := ⟨w.heap.size + 1 + 1, 2, none⟩) ho1d (own_ne_blk ho1d hT3.lb (by decide)) (.slice b2 T.rs.length d2)
  have ho2c := ownsRow_setCell_other (a := ⟨w.heap.size + 1 + 1, 2, none⟩) ho2b (own_ne_blk ho2b hT3.lb (by decide)) (.slice b2 T.rs.length d2)
  have hr2c := hr2b.setBox hT3.lb (by decide) 2 (.slice b2 T.rs.length d2)
  have hC4 := hC3.setCell (p := ⟨w.heap.size + 1 + 1, 2, none⟩) (by simp; omega) (.slice b2 T.rs.length d2)
  have p0 := cell_blk hT3.pb 0
  have p2 := cell_blk hT3.pb 2
  have p3 := cell_blk hT3.pb 3
  have q2 := cell_blk hT3.lb 2
  have f2 := free_blk hT3.lb 2
  clear hB2 ho1c ho1d ho2 ho2b hr2 hr2b hC3 hT2 hT1
  go_wp2_with fail
  refine (toI _ _ T.ys (h3.below hC4) l4).mono ?_
  rintro e w3 ⟨v3, rfl, ho3, hB3⟩
  obtain ⟨b3, d3, rfl⟩ := owns_form ho3
  have hT5 := hT4.next hB3
  have hC5 := bt hC4 hB3
  have ho1f := owns_bl ho1e hB3
  have ho2d := owns_bl ho2c hB3
  have hr2d := hr2c.below hB3
  have hz4 := hC4.size
  have hap : ∀ (j : Nat) u g, vs[j]? = some u → u.ownBlock = some g → (Value.slice b3 T.ys.length d3).ownBlock ≠ some g := fun j u g hu hg hg2 => by
    have e1 := (hr2c.lt hu hg).2
    have e2 := (ho3.lt g hg2).1
    omega
  have ho3b := World.ownsRow.mono ho3 hz4
  have n1 := own_ne_blk ho1f hT5.lb (by decide)
  have n2 := own_ne_blk ho2d hT5.lb (by decide)
  have n3 := own_ne_blk ho3b hT5.lb (by decide)
  have k1 := own_ne_blk ho1f hT5.rb (by decide)
  have k2 := own_ne_blk ho2d hT5.rb (by decide)
  have k3 := own_ne_blk ho3b hT5.rb (by decide)
  have p0 := cell_blk hT5.pb 0
  have q0 := cell_blk hT5.lb 0
  have f0 := free_blk hT5.lb 0
  have q1 := cell_blk hT5.lb 1
  have f1 := free_blk hT5.lb 1
  have q2 := cell_blk hT5.lb 2
  have f2 := free_blk hT5.lb 2
  have q3 := cell_blk hT5.lb 3
  have f3 := free_blk hT5.lb 3
  have r0 := cell_blk hT5.rb 0
  have g0 := free_blk hT5.rb 0
  have r1 := cell_blk hT5.rb 1
  have g1 := free_blk hT5.rb 1
  have r2 := cell_blk hT5.rb 2
  have g2 := free_blk hT5.rb 2
  have r3 := cell_blk hT5.rb 3
  have g3 := free_blk hT5.rb 3
  have lb := blk_lt hT5.lb
  have hpb := hT5.rb
  have hlb := hT5.lb
  clear hB3 ho1e ho2c hr2c ho3 hC4 hT4 hT3
  go_wp2_with fail
  refine bodyPost_ret (v := .agg #[.slice b1 T.ns.length d1, .string ⟨T.y.toArray⟩, .slice b2 T.rs.length d2, .slice b3 T.ys.length d3]) ?_ rfl ⟨⟨vs, _, _, _, rfl, ?_, ?_, ?_, ?_, hap⟩, ?_⟩
  · rw [res_one rfl]
    go_simp
  · iterate 4 refine ownsRow_setCell_other ?_ k1 _
    exact ownsRow_setCell_other ho1f n1 _
  · iterate 4 refine ownsRow_setCell_other ?_ k2 _
    exact ownsRow_setCell_other ho2d n2 _
  · have e0 := hr2d.setBox hlb (by decide) 3 (.slice b3 T.ys.length d3)
    have t0 := (hT5.setL 3 (.slice b3 T.ys.length d3)).rb
    have e1 := e0.setBox t0 (by decide) 0 (.slice b1 T.ns.length d1)
    have t1 := heap_setCell_same _ _ 0 _ _ (.slice b1 T.ns.length d1) t0
    have e2 := e1.setBox t1 (by decide) 1 (.string ⟨T.y.toArray⟩)
    have t2 := heap_setCell_same _ _ 1 _ _ (.string ⟨T.y.toArray⟩) t1
    have e3 := e2.setBox t2 (by decide) 2 (.slice b2 T.rs.length d2)
    have t3 := heap_setCell_same _ _ 2 _ _ (.slice b2 T.rs.length d2) t2
    exact e3.setBox t3 (by decide) 3 (.slice b3 T.ys.length d3)
  · iterate 4 refine ownsRow_setCell_other ?_ k3 _
    exact ownsRow_setCell_other ho3b n3 _
  · iterate 5 refine Below.setCell ?_ (by simp <;> omega) _
    exact hC5

/-- The table whose parts are marks from k on. -/
def marksT (T : Tab) (k : Nat) : Tab := ⟨marks k T.ns.length, T.y, marksLI (k + T.ns.length) (T.rs.map List.length), marksI (k + T.ns.length + (T.rs.map List.length).sum) T.ys.length⟩

set_option maxRecDepth 100000 in
set_option maxHeartbeats 2000000 in
theorem markTab (T : Tab) (u1 u2 u3 : Value) (vs : List Value) (base k : Nat) (w : World) (h : TabOwn w base T vs u1 u2 u3) (hbase : base ≤ w.heap.size) (hk : 1 ≤ k) (l1 : T.ns.length ≤ 1048576) (l2 : T.rs.length ≤ 1048576) (l4 : T.ys.length ≤ 1048576) (hkl : k + T.ns.length + (T.rs.map List.length).sum ≤ 1048576) :
    Calls Try.prog 35 #[.agg #[u1, .string ⟨T.y.toArray⟩, u2, u3], .int .i64 k] w fun e w' => e = .returned (.int .i64 ((k + T.ns.length + (T.rs.map List.length).sum + T.ys.length : Nat) : Int)) ∧ TabOwn w' base (marksT T k) vs u1 u2 u3 ∧ Below base w w' := by
  obtain ⟨h1, h2, h3, h4, hap⟩ := h
  obtain ⟨a1, c1, rfl⟩ := owns_form h1
  obtain ⟨a2, c2, rfl⟩ := owns_form h2
  obtain ⟨a3, c3, rfl⟩ := owns_form h4
  have hB0 : Below base w (w.alloc (.cells #[.slice a1 T.ns.length c1, .string ⟨T.y.toArray⟩, .slice a2 T.rs.length c2, .slice a3 T.ys.length c3] 34)) := (Below.refl base w).alloc hbase _
  have hB0b := bl_al w (.cells #[.slice a1 T.ns.length c1, .string ⟨T.y.toArray⟩, .slice a2 T.rs.length c2, .slice a3 T.ys.length c3] 34)
  have hb1 := alloc_blk w #[.slice a1 T.ns.length c1, .string ⟨T.y.toArray⟩, .slice a2 T.rs.length c2, .slice a3 T.ys.length c3] 34
  have o1 := owns_bl h1 hB0b
  have o2 := owns_bl h2 hB0b
  have o3 := h3.below hB0b
  have o4 := owns_bl h4 hB0b
  have hX : ∀ (j : Nat) u g, vs[j]? = some u → u.ownBlock = some g → base ≤ g ∧ g ≠ w.heap.size ∧ (Value.slice a1 T.ns.length c1).ownBlock ≠ some g := fun j u g hu hb => by
    have hj : j < (T.rs.map intCells).length := by rw [← h3.1]; exact (List.getElem?_eq_some_iff.1 hu).1
    refine ⟨(h3.lt hu hb).1, ?_, ?_⟩
    · have := (h3.lt hu hb).2
      omega
    · intro e
      exact owns_apart h1 (h3.2.1 j u _ hu (List.getElem?_eq_getElem hj)) (by decide) g e hb
  have HX := Lib.hid hX
  have HAP := Lib.hid hap
  have hF : ∀ g, (Value.slice a1 T.ns.length c1).ownBlock = some g → base ≤ g ∧ g < w.heap.size := fun g e => h1.lt g e
  have HFF := Lib.hid hF
  clear hX hap hF h1 h2 h3 h4
  go_enter Try.func35, Try.ntmps35
  have p0 := cell_blk hb1 0
  go_wp2_with fail
  refine (markStr _ base T.ns.length k _ _ o1 hk (by omega) (by omega)).mono ?_
  rintro e w1 ⟨rfl, hM, hg⟩
  have m1 := marked_cells hM
  have b1 := blk_gr hb1 hg (fun e => by have := (HFF.out _ e.symm).2; omega)
  have g2 := owns_keep o2 o1 (by decide) hg
  have g3 := o3.kept hg (fun j u g hu hb e => by
    have hj : j < (T.rs.map intCells).length := by rw [← o3.1]; exact (List.getElem?_eq_some_iff.1 hu).1
    exact owns_apart (o3.2.1 j u _ hu (List.getElem?_eq_getElem hj)) o1 (by decide) g hb e)
  have g4 := owns_keep o4 o1 (by decide) hg
  have hB1 := hB0.grown hg (Nat.le_trans hbase hB0b.size) (fun b hb => (o1.lt b hb).1)
  obtain ⟨K, hK⟩ : ∃ K : Nat, k + T.ns.length = K := ⟨_, rfl⟩
  have e2 : (k : Int) + T.ns.length = (K : Int) := by omega
  rw [e2]
  have HK := Lib.hid hK
  have hK1 : K ≤ 1048576 := by omega
  have hK2 : K + (T.rs.map List.length).sum ≤ 1048576 := by omega
  have p2 := cell_blk b1 2
  clear hM hg o1 o2 o3 o4 hb1 hB0 hB0b e2 hK
  go_wp2_with fail
  refine (markII _ base _ vs T.rs K g2 g3 (fun a => (a.ownsRow base 9 1 (.slice a1 T.ns.length c1) (strCells (marks k T.ns.length)).length (strCells (marks k T.ns.length)) ∧ a.ownsRow base 3 1 (.slice a3 T.ys.length c3) T.ys.length (intCells T.ys) ∧ a.heap[w.heap.size]? = some (.cells #[.slice a1 T.ns.length c1, .string ⟨T.y.toArray⟩, .slice a2 T.rs.length c2, .slice a3 T.ys.length c3] 34 (0, 0))) ∧ Below base w a) ?_ ⟨⟨m1, g4, b1⟩, hB1⟩ (by omega) (by omega)).mono ?_
  · rintro j u a b hu hgu ⟨⟨t1, t3, t4⟩, t5⟩
    refine ⟨⟨owns_far t1 hgu (fun g e => (HX.out j u g hu e).2.2), owns_far t3 hgu (fun g e => HAP.out j u g hu e), blk_gr t4 hgu (fun e => (HX.out j u _ hu e.symm).2.1 rfl)⟩, t5.grown hgu (Nat.le_trans hbase t5.size) (fun g e => (HX.out j u g hu e).1)⟩
  rintro e w2 ⟨rfl, ⟨q2, q3⟩, ⟨q1, q4, b2⟩, hB2⟩
  have p3 := cell_blk b2 3
  obtain ⟨K2, hK3⟩ : ∃ K2 : Nat, K + (T.rs.map List.length).sum = K2 := ⟨_, rfl⟩
  rw [hK3] at hK2
  rw [hK3]
  have HK2 := Lib.hid hK3
  clear m1 b1 g2 g3 g4 hB1 p2 p0 hK3
  go_wp2_with fail
  refine (markI _ base T.ys.length K2 _ _ q4 (by omega) (by omega)).mono ?_
  rintro e w3 ⟨rfl, r4, hg3⟩
  have r1 := owns_keep q1 q4 (by decide) hg3
  have r2 := owns_keep q2 q4 (by decide) hg3
  have r3 := q3.kept hg3 (fun j u g hu hb => HAP.out j u g hu hb)
  have hB3 := hB2.grown hg3 (Nat.le_trans hbase hB2.size) (fun b hb => (q4.lt b hb).1)
  go_wp2_with fail
  go_ret
  have f1 := HK.out
  have f2 := HK2.out
  refine ⟨ret_int (by omega), ⟨?_, ?_, ?_, ?_, HAP.out⟩, hB3⟩
  · rw [strCells_len] at r1
    exact r1
  · have e : (marksT T k).rs.length = T.rs.length := by rw [marksT, marksLI_len, List.length_map]
    rw [e]
    exact r2
  · rw [marksT, f1]
    exact r3
  · have e : (marksT T k).ys.length = T.ys.length := by rw [marksT, marksI_len]
    rw [e, marksT, f1, f2]
    exact r4

end Go.Proofs.Ytgknkjiifcnkpaa
