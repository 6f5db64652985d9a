
/-
  The text of a wide number: the program's loop.
-/
import Derived.Test.YtapdocfifgnjgaaDoorPk7
namespace Go.Proofs.YtapdocfifgnjgaaDoor
open Go.RowKit Go.Sort

theorem blkX {w : World} {b : Nat} {cs : Array Value} {T : TypeId} {f : Nat × Nat} (h : w.heap[b]? = some (.cells cs T f)) : b < w.heap.size := by
  rcases Nat.lt_or_ge b w.heap.size with hl | hl
  · exact hl
  · rw [Array.getElem?_eq_none hl] at h; cases h

theorem eqU32 (n : Nat) (a b : Int) (w : World) : (Op.equalIn (n + 1) 89 (.int .u32 a) (.int .u32 b)).run Tryd.prog w = .ok (a == b) w := by
  simp [Op.equalIn, run_underlying Tryd.underlying89]
theorem eqDigs (n : Nat) (a b c d : Int) (w : World) : (Op.equalIn (n + 1 + 1) 91 (.agg #[.int .u32 a, .int .u32 b, .int .u32 c, .int .u32 d]) (.agg #[.int .u32 0, .int .u32 0, .int .u32 0, .int .u32 0])).run Tryd.prog w = .ok (a == 0 && b == 0 && c == 0 && d == 0) w := by
  rw [Op.equalIn]
  simp [run_underlying Tryd.underlying91, go_sem, eqU32, List.range']
  by_cases h0 : a = 0 <;> by_cases h1 : b = 0 <;> by_cases h2 : c = 0 <;> by_cases h3 : d = 0 <;> simp [h0, h1, h2, h3]
theorem eqDig_no {a b c d : Int} (h : ¬ (a = 0 ∧ b = 0 ∧ c = 0 ∧ d = 0)) (w : World) : (Op.equalIn 10000 91 (.agg #[.int .u32 a, .int .u32 b, .int .u32 c, .int .u32 d]) (.agg #[.int .u32 0, .int .u32 0, .int .u32 0, .int .u32 0])).run Tryd.prog w = .ok false w := by
  rw [eqDigs 9998]
  by_cases h0 : a = 0 <;> by_cases h1 : b = 0 <;> by_cases h2 : c = 0 <;> by_cases h3 : d = 0 <;> simp_all
theorem eqDig_yes {a b c d : Int} (h : a = 0 ∧ b = 0 ∧ c = 0 ∧ d = 0) (w : World) : (Op.equalIn 10000 91 (.agg #[.int .u32 a, .int .u32 b, .int .u32 c, .int .u32 d]) (.agg #[.int .u32 0, .int .u32 0, .int .u32 0, .int .u32 0])).run Tryd.prog w = .ok true w := by
  rw [eqDigs 9998]
  simp [h.1, h.2.1, h.2.2.1, h.2.2.2]
theorem text_step {w wr w4 : World} {X A n : Nat} {DX cs : Array Value} {TX TA E : TypeId} {v : Value} {xs : List Value} {o1 : Obj} (hown : wr.ownsRow w.heap.size E 1 v n xs) (hgrow : (wr.alloc o1).grownBy w4 v.ownBlock)
    (hX : wr.heap[X]? = some (.cells DX TX (0, 0))) (hA : wr.heap[A]? = some (.cells cs TA (0, 0))) (tX : TX ≠ E) (tA : TA ≠ E) (hB : Below w.heap.size w wr) :
    w4.heap[X]? = some (.cells DX TX (0, 0)) ∧ w4.heap[A]? = some (.cells cs TA (0, 0)) ∧ Below w.heap.size w w4 := by
  have one : ∀ {Y : Nat} {D : Array Value} {T : TypeId}, wr.heap[Y]? = some (.cells D T (0, 0)) → T ≠ E → w4.heap[Y]? = some (.cells D T (0, 0)) := by
    intro Y D T hY hT
    have hne := Lib.ownBlock_ne hown hY hT
    have hl := blkX hY
    rw [hgrow.block Y (by simp; omega) (fun h => hne h.symm), Below.heap_alloc _ _ _ hl]
    exact hY
  refine ⟨one hX tX, one hA tA, (hB.alloc hB.size _).grown hgrow (by have := hB.size; simp; omega) fun k hk => ?_⟩
  rcases hown.2 with ⟨e0, _⟩ | ⟨g, cap, cur, e0, hb, _⟩
  · rw [e0] at hk
    cases hk
  · rw [e0] at hk
    simp only [Value.ownBlock, Option.some.injEq] at hk
    omega
theorem text_below {w w5 : World} {B n : Nat} {E : TypeId} {v : Value} {xs : List Value} (h : w.ownsRow B E 1 v n xs) (hb : Below w.heap.size w w5) : w5.ownsRow B E 1 v n xs := by
  refine ⟨h.1, ?_⟩
  rcases h.2 with e | ⟨g, cap, cur, e0, hb2, hg, r⟩
  · exact Or.inl e
  · exact Or.inr ⟨g, cap, cur, e0, hb2, (hb.block g (blkX hg)).trans hg, r⟩
theorem st4_at {w : World} {X : Nat} {a0 a1 a2 a3 b0 b1 b2 b3 : Value} {T : TypeId} (h : w.heap[X]? = some (.cells #[a0, a1, a2, a3] T (0, 0))) :
    ((((w.setCell ⟨X, 0, none⟩ b0).setCell ⟨X, 1, none⟩ b1).setCell ⟨X, 2, none⟩ b2).setCell ⟨X, 3, none⟩ b3).heap[X]? = some (.cells #[b0, b1, b2, b3] T (0, 0)) := by
  have h1 := Lib.heap_setCell_same (i := 0) h b0
  have h2 := Lib.heap_setCell_same (i := 1) h1 b1
  have h3 := Lib.heap_setCell_same (i := 2) h2 b2
  have h4 := Lib.heap_setCell_same (i := 3) h3 b3
  rw [h4]
  rfl
theorem st4_far {w : World} {X Y : Nat} (b0 b1 b2 b3 : Value) (h : X ≠ Y) :
    ((((w.setCell ⟨X, 0, none⟩ b0).setCell ⟨X, 1, none⟩ b1).setCell ⟨X, 2, none⟩ b2).setCell ⟨X, 3, none⟩ b3).heap[Y]? = w.heap[Y]? := by
  simp [World.setCell, Array.getElem?_modify, h]
theorem st4_own {w : World} {X B n : Nat} {E : TypeId} {v : Value} {xs : List Value} (h : w.ownsRow B E 1 v n xs) (hX : v.ownBlock ≠ some X) (b0 b1 b2 b3 : Value) :
    ((((w.setCell ⟨X, 0, none⟩ b0).setCell ⟨X, 1, none⟩ b1).setCell ⟨X, 2, none⟩ b2).setCell ⟨X, 3, none⟩ b3).ownsRow B E 1 v n xs :=
  ownsRow_setCell_other (ownsRow_setCell_other (ownsRow_setCell_other (ownsRow_setCell_other h hX _) hX _) hX _) hX _
theorem st4_below {W w : World} {X : Nat} (h : Below W.heap.size W w) (hX : W.heap.size ≤ X) (b0 b1 b2 b3 : Value) :
    Below W.heap.size W ((((w.setCell ⟨X, 0, none⟩ b0).setCell ⟨X, 1, none⟩ b1).setCell ⟨X, 2, none⟩ b2).setCell ⟨X, 3, none⟩ b3) :=
  (((h.setCell hX _).setCell hX _).setCell hX _).setCell hX _
theorem text_cons (k : Nat) (o : List UInt8) (h : k < 10) : (UInt8.ofNat (48 + k) :: o).reverse.map byteV = (o.map byteV).reverse ++ [.int .u8 (48 + (k : Int))] := by
  simp [byteV]
  omega
/-- Reverse at a row that the call owns: the text that it then is. -/
theorem libReverse_own {w0 w4 : World} {B g cap n : Nat} {l : List UInt8} (hown : w4.ownsRow B 5 1 (.slice (some ⟨g, 0, none⟩) n cap) n (l.map byteV)) (hn : n ≤ 1000) (hB : Below B w0 w4) :
    Calls Tryd.prog 64 #[.slice (some ⟨g, 0, none⟩) n cap] w4 fun e w5 => e = .returned (.tuple #[]) ∧ (∀ x, x = w5 → (convert 22 9 (.slice (some ⟨g, 0, none⟩) n cap)).run Tryd.prog x = .ok (.string ⟨l.reverse.toArray⟩) x) ∧ Below B w0 w5 := by
  obtain ⟨g', cap', he, hg, hlt, hnc, _, hl, hH⟩ := Lib.holds_of_ownsRow hown (by intro h; cases h)
  have e1 : g' = g ∧ cap' = cap := by
    simp only [Value.slice.injEq, Option.some.injEq, Addr.mk.injEq] at he
    exact ⟨he.1.1.symm, he.2.2.symm⟩
  obtain ⟨rfl, rfl⟩ := e1
  have hs : l.toArray.size = n := by simpa using hl
  have hc := libReverse g' cap' l.toArray w4 hH (by omega)
  rw [hs] at hc
  refine hc.mono ?_
  rintro e w5 ⟨rfl, q, rfl⟩
  refine ⟨rfl, ?_, Lib.below_putRow hB hg⟩
  rintro x rfl
  have hH2 := holds_putRow byteV (Sort.ahead w4 q) g' 0 l.toArray l.toArray.reverse (holds_ahead byteV w4 q g' 0 l.toArray hH) (by simp)
  have hr := run_convert_bytes_back (P := Tryd.prog) (putRow byteV (Sort.ahead w4 q) g' 0 l.toArray.reverse) 22 9 5 ⟨g', 0, none⟩ cap' l.reverse Tryd.underlying22 Tryd.underlying5 Tryd.underlying9 (fun j hj => by
    have h := (hH2 j (by simpa using hj)).1
    rw [Lib.addr_add]
    rw [h]
    simp only [List.reverse_toArray]
    rw [getElem!_pos _ _ (by simpa using hj)]
    simp)
  rw [show l.reverse.length = n by simpa using hl] at hr
  exact hr
/-- The four digits of a number, as cells. -/
def digA (v : Int) : Array Value := #[.int .u32 (v / 18446744073709551616 / 4294967296), .int .u32 (v / 18446744073709551616 % 4294967296), .int .u32 (v % 18446744073709551616 / 4294967296), .int .u32 (v % 18446744073709551616 % 4294967296)]
theorem digA_eq {v p0 p1 p2 p3 : Int} (e0 : v / 18446744073709551616 / 4294967296 = p0) (e1 : v / 18446744073709551616 % 4294967296 = p1) (e2 : v % 18446744073709551616 / 4294967296 = p2) (e3 : v % 18446744073709551616 % 4294967296 = p3) : digA v = #[.int .u32 p0, .int .u32 p1, .int .u32 p2, .int .u32 p3] := by rw [digA, e0, e1, e2, e3]
theorem infoU8 : (Tryd.prog.info? 5).map (fun i => (i.zero, i.size, i.bytes)) = some (some (.int .u8 0), 1, 1) := by kernel_rfl
def lenS (v : Value) : Nat := match v with | .slice _ n _ => n | _ => 0
/-- What the loop of the text keeps: what is written (the last digit first), the digit to be written next, what is left. -/
def TextRel (w : World) (A X : Nat) (cs : Array Value) (u : Nat) (v d : Value) (wr : World) : Prop :=
  ∃ (r k : Nat) (o : List UInt8) (g cap : Nat), v = .slice (some ⟨g, 0, none⟩) o.length cap ∧ d = .int .u8 (48 + k) ∧ k < 10 ∧ r ≤ u ∧ DigW u (10 * r + k) o ∧ (o = [] ∨ 10 * r + k ≠ 0) ∧
    wr.ownsRow w.heap.size 5 1 v o.length (o.reverse.map byteV) ∧ wr.heap[X]? = some (.cells (digA r) 91 (0, 0)) ∧ wr.heap[A]? = some (.cells cs 26 (0, 0)) ∧ Below w.heap.size w wr
set_option maxRecDepth 100000 in
set_option maxHeartbeats 1000000 in
theorem implText_ok (n0 : Bool) (u : Nat) (hu : u < 170141183460469231731687303715884105728) (hk : okV n0 ((u : Int) / 18446744073709551616) ((u : Int) % 18446744073709551616) = true) (w : World) :
    Calls Tryd.prog 35 #[.agg #[.bool n0, .int .u64 ((u : Int) / 18446744073709551616), .int .u64 ((u : Int) % 18446744073709551616)]] w fun e w' => e = .returned (.string ⟨((if n0 = true then [45] else []) ++ Lib.decDigits u).toArray⟩) ∧ Below w.heap.size w w' := by
  obtain ⟨p0, e0⟩ : ∃ p, (u : Int) / 18446744073709551616 / 4294967296 = p := ⟨_, rfl⟩
  obtain ⟨p1, e1⟩ : ∃ p, (u : Int) / 18446744073709551616 % 4294967296 = p := ⟨_, rfl⟩
  obtain ⟨p2, e2⟩ : ∃ p, (u : Int) % 18446744073709551616 / 4294967296 = p := ⟨_, rfl⟩
  obtain ⟨p3, e3⟩ : ∃ p, (u : Int) % 18446744073709551616 % 4294967296 = p := ⟨_, rfl⟩
  obtain ⟨q0, f0⟩ : ∃ p, ((u : Int) / 10) / 18446744073709551616 / 4294967296 = p := ⟨_, rfl⟩
  obtain ⟨q1, f1⟩ : ∃ p, ((u : Int) / 10) / 18446744073709551616 % 4294967296 = p := ⟨_, rfl⟩
  obtain ⟨q2, f2⟩ : ∃ p, ((u : Int) / 10) % 18446744073709551616 / 4294967296 = p := ⟨_, rfl⟩
  obtain ⟨q3, f3⟩ : ∃ p, ((u : Int) / 10) % 18446744073709551616 % 4294967296 = p := ⟨_, rfl⟩
  obtain ⟨i0, hi, hz0, hz1, hz2⟩ := info_parts infoU8
  go_enter Tryd.func35, Tryd.ntmps35
  go_wp2_with fail
  refine (implWideOk n0 _ _ (by omega) (by omega) _).mono ?_
  rintro e w1 ⟨rfl, hB1⟩
  rw [hk]
  have hXa := box_kept hB1
  have HT := Lib.hid (box_below hB1)
  clear hB1
  have hw1 := blkX hXa
  have hca0 := cell_blk hXa 0
  have hca1 := cell_blk hXa 1
  have hca2 := cell_blk hXa 2
  have hla := blkX hXa
  go_wp2_with fail
  refine (implDigitsOf n0 u (by omega) (by omega) p0 p1 p2 p3 e0 e1 e2 e3 _).mono ?_
  rintro e w2 ⟨rfl, hB2⟩
  clear hca0 hca1 hca2 hla
  have hTb := box_kept hB2
  have hBB := box_below hB2
  replace hXa := box_still hXa hBB
  replace HT := Lib.hid (bt2 HT.out hBB)
  clear hBB hB2
  go_wp2_with fail
  refine (implTenth u (by omega) (by omega) p0 p1 p2 p3 q0 q1 q2 q3 e0 e1 e2 e3 f0 f1 f2 f3 _).mono ?_
  rintro e w3 ⟨rfl, hB3⟩
  replace hXa := box_still hXa hB3
  replace hTb := box_still hTb hB3
  replace HT := Lib.hid (bt2 HT.out hB3)
  clear hB3
  have hla := blkX hXa
  have hlb := blkX hTb
  go_wp2_with fail
  go_loopw [3, 5] (fun v d wr => TextRel w w.heap.size w3.heap.size #[.bool n0, .int .u64 ((u : Int) / 18446744073709551616), .int .u64 ((u : Int) % 18446744073709551616)] u v d wr) (fun v _ _ => 40 - lenS v)
  case atStart =>
    refine ⟨u / 10, u % 10, [], w1.heap.size, 0, rfl, by simp, by omega, by omega, Or.inl ⟨rfl, by omega⟩, Or.inl rfl, ⟨rfl, Or.inr ⟨w1.heap.size, 0, #[], rfl, by omega, ?_, by simp, by decide, rfl, rfl⟩⟩, ?_, ?_, HT.out.alloc (by omega) _⟩
    · rw [Below.heap_alloc _ _ _ hlb]
      exact hTb
    · rw [show ((u / 10 : Nat) : Int) = (u : Int) / 10 by omega, digA_eq f0 f1 f2 f3]
      exact box_new _ _
    · rw [Below.heap_alloc _ _ _ hla]
      exact hXa
  case round =>
    obtain ⟨r, k, o, g, cap, rfl, rfl, hk10, hru, hDW, hne, hown, hX, hA, hB⟩ := hrel
    obtain ⟨a0, x0⟩ : ∃ p, (r : Int) / 18446744073709551616 / 4294967296 = p := ⟨_, rfl⟩
    obtain ⟨a1, x1⟩ : ∃ p, (r : Int) / 18446744073709551616 % 4294967296 = p := ⟨_, rfl⟩
    obtain ⟨a2, x2⟩ : ∃ p, (r : Int) % 18446744073709551616 / 4294967296 = p := ⟨_, rfl⟩
    obtain ⟨a3, x3⟩ : ∃ p, (r : Int) % 18446744073709551616 % 4294967296 = p := ⟨_, rfl⟩
    obtain ⟨b0, y0⟩ : ∃ p, ((r : Int) / 10) / 18446744073709551616 / 4294967296 = p := ⟨_, rfl⟩
    obtain ⟨b1, y1⟩ : ∃ p, ((r : Int) / 10) / 18446744073709551616 % 4294967296 = p := ⟨_, rfl⟩
    obtain ⟨b2, y2⟩ : ∃ p, ((r : Int) / 10) % 18446744073709551616 / 4294967296 = p := ⟨_, rfl⟩
    obtain ⟨b3, y3⟩ : ∃ p, ((r : Int) / 10) % 18446744073709551616 % 4294967296 = p := ⟨_, rfl⟩
    rw [digA_eq x0 x1 x2 x3] at hX
    have cx0 := cell_blk hX 0
    have cx1 := cell_blk hX 1
    have cx2 := cell_blk hX 2
    have cx3 := cell_blk hX 3
    have hlx := blkX hX
    have hfx := free_blk hX
    have hsz : w.heap.size ≤ wr.heap.size := hB.size
    have hL := Lib.hid (digW_len hDW hu)
    clear hk e0 e1 e2 e3 f0 f1 f2 f3
    by_cases hr : r = 0
    · have hnq := eqDig_yes (show a0 = 0 ∧ a1 = 0 ∧ a2 = 0 ∧ a3 = 0 by omega)
      replace x0 := Lib.hid x0
      replace x1 := Lib.hid x1
      replace x2 := Lib.hid x2
      replace x3 := Lib.hid x3
      replace y0 := Lib.hid y0
      replace y1 := Lib.hid y1
      replace y2 := Lib.hid y2
      replace y3 := Lib.hid y3
      go_wp2_with (first
        | (at_builtin; refine wpList_append_own _ rfl _ _ 22 rfl w.heap.size 5 i0 (.int .u8 0) 1 1 Tryd.underlying22 hi hz0 hz1 hz2 rfl (by decide) _ _ _ rfl (hown.alloc _) ⟨wr.heap.size, 0, none⟩ 1 1 [.int .u8 (48 + k)] rfl rfl ?c1 ?c2 ?c3 ?c4 ?c5 ?_)
        | fail)
      case c1 =>
        intro j z hj
        match j, hj with
        | 0, hj => simp at hj; subst hj; simp [Addr.add]
      case c2 => intro z hz; simp at hz; subst hz; rfl
      case c3 => have := hL.out; unfold maxLen; omega
      case c4 => have := hL.out; omega
      case c5 => simp; omega
      intro v' w4 hown' hgrow _
      obtain ⟨hX4, hA4, hB4⟩ := text_step hown hgrow hX hA (by decide) (by decide) hB
      obtain ⟨g', cap', rfl⟩ := Joins.ownsRow_form hown' (by omega)
      have h1 := digW_step hDW hne
      rw [show (10 * r + k) / 10 = 0 by omega, show (10 * r + k) % 10 = k by omega] at h1
      have h2 := digW_done h1 (by simp)
      rw [← text_cons k o hk10, h2] at hown'
      have hs4 : w.heap.size ≤ w4.heap.size := hB4.size
      clear hown hgrow hX hA hB cx0 cx1 cx2 cx3 hlx hfx hnq x0 x1 x2 x3 y0 y1 y2 y3 hDW h1
      have cA0 := cell_blk hA4 0
      rcases Bool.eq_false_or_eq_true n0 with hn | hn
      · have cA1 := cA0.trans (congrArg some (congrArg Value.bool hn))
        clear cA0
        go_wp2_with (first
          | (at_builtin; refine wpList_append_own _ rfl _ _ 22 rfl w.heap.size 5 i0 (.int .u8 0) 1 1 Tryd.underlying22 hi hz0 hz1 hz2 rfl (by decide) _ _ _ rfl (hown'.alloc _) ⟨w4.heap.size, 0, none⟩ 1 1 [.int .u8 45] rfl rfl ?c1 ?c2 ?c3 ?c4 ?c5 ?_)
          | fail)
        case c1 =>
          intro j z hj
          match j, hj with
          | 0, hj => simp at hj; subst hj; simp [Addr.add]
        case c2 => intro z hz; simp at hz; subst hz; rfl
        case c3 => have := hL.out; unfold maxLen; omega
        case c4 => have := hL.out; omega
        case c5 => simp; omega
        intro v2 w6 hown2 hgrow2 _
        obtain ⟨_, _, hB6⟩ := text_step hown' hgrow2 hX4 hA4 (by decide) (by decide) hB4
        obtain ⟨g2, cap2, rfl⟩ := Joins.ownsRow_form hown2 (by omega)
        rw [show (List.map byteV (Lib.decDigits u)).reverse ++ [Value.int .u8 45] = ((Lib.decDigits u).reverse ++ [45]).map byteV by simp [byteV]] at hown2
        clear hown' hgrow2 hX4 hA4 hB4 cA1
        go_wp2_with fail
        refine (libReverse_own hown2 (by have := hL.out; omega) hB6).mono ?_
        rintro e w7 ⟨rfl, hcv, hB7⟩
        replace hcv := hcv w7 rfl
        go_wp2_with fail
        go_ret
        exact ⟨by simp, hB7⟩
      · have cA1 := cA0.trans (congrArg some (congrArg Value.bool hn))
        clear cA0
        go_wp2_with fail
        refine (libReverse_own hown' (by have := hL.out; omega) hB4).mono ?_
        rintro e w7 ⟨rfl, hcv, hB7⟩
        replace hcv := hcv w7 rfl
        clear cA1
        go_wp2_with fail
        all_goals (go_ret; exact ⟨by simp, hB7⟩)
    · have hnq := eqDig_no (show ¬ (a0 = 0 ∧ a1 = 0 ∧ a2 = 0 ∧ a3 = 0) by omega)
      have hol : o.length < 39 := hL.out.2 (by omega)
      replace x0 := Lib.hid x0
      replace x1 := Lib.hid x1
      replace x2 := Lib.hid x2
      replace x3 := Lib.hid x3
      replace y0 := Lib.hid y0
      replace y1 := Lib.hid y1
      replace y2 := Lib.hid y2
      replace y3 := Lib.hid y3
      go_wp2_with (first
        | (at_builtin; refine wpList_append_own _ rfl _ _ 22 rfl w.heap.size 5 i0 (.int .u8 0) 1 1 Tryd.underlying22 hi hz0 hz1 hz2 rfl (by decide) _ _ _ rfl (hown.alloc _) ⟨wr.heap.size, 0, none⟩ 1 1 [.int .u8 (48 + k)] rfl rfl ?c1 ?c2 ?c3 ?c4 ?c5 ?_)
        | fail)
      case c1 =>
        intro j z hj
        match j, hj with
        | 0, hj => simp at hj; subst hj; simp [Addr.add]
      case c2 => intro z hz; simp at hz; subst hz; rfl
      case c3 => have := hL.out; unfold maxLen; omega
      case c4 => have := hL.out; omega
      case c5 => simp; omega
      intro v' w4 hown' hgrow _
      obtain ⟨hX4, hA4, hB4⟩ := text_step hown hgrow hX hA (by decide) (by decide) hB
      obtain ⟨g', cap', rfl⟩ := Joins.ownsRow_form hown' (by omega)
      clear hown hgrow hX hA hB cx0 cx1 cx2 cx3 hlx hfx hnq
      have cx0 := cell_blk hX4 0
      have cx1 := cell_blk hX4 1
      have cx2 := cell_blk hX4 2
      have cx3 := cell_blk hX4 3
      go_wp2_with fail
      refine (implTenth (r : Int) (by omega) (by omega) a0 a1 a2 a3 b0 b1 b2 b3 x0.out x1.out x2.out x3.out y0.out y1.out y2.out y3.out _).mono ?_
      rintro e w5 ⟨rfl, hB5⟩
      replace hX4 := box_still hX4 hB5
      replace hA4 := box_still hA4 hB5
      replace hB4 := Lib.hid (bt2 hB4 hB5)
      replace hown' := text_below hown' hB5
      clear hB5 cx0 cx1 cx2 cx3
      have cx0 := cell_blk hX4 0
      have cx1 := cell_blk hX4 1
      have cx2 := cell_blk hX4 2
      have cx3 := cell_blk hX4 3
      have hfx := free_blk hX4
      go_wp2_with fail
      go_roundw
      case rel =>
        have h1 := digW_step hDW hne
        rw [show (10 * r + k) / 10 = r by omega, show (10 * r + k) % 10 = k by omega] at h1
        refine ⟨r / 10, r % 10, UInt8.ofNat (48 + k) :: o, g', cap', rfl, by simp, by omega, by omega, ?_, Or.inr (by omega), ?_, ?_, ?_, st4_below hB4.out (by omega) _ _ _ _⟩
        · rw [show 10 * (r / 10) + r % 10 = r by omega]
          exact h1
        · have h2 := st4_own hown' (Lib.ownBlock_ne hown' hX4 (by decide)) (.int .u32 b0) (.int .u32 b1) (.int .u32 b2) (.int .u32 b3)
          rw [text_cons k o hk10]
          exact h2
        · rw [show ((r / 10 : Nat) : Int) = (r : Int) / 10 by omega, digA_eq y0.out y1.out y2.out y3.out]
          exact st4_at hX4
        · exact (st4_far _ _ _ _ (by omega)).trans hA4
      case measure =>
        simp only [lenS]
        omega
end Go.Proofs.YtapdocfifgnjgaaDoor
