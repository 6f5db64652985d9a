/-
  Marking a table: what it leaves alone.
-/
import Derived.Test.YticeagjonfifbaaTabL
namespace Go.Proofs.Yticeagjonfifbaa
open Go.RowKit

theorem owns_same {w w' : World} {base n : Nat} {T : TypeId} {v : Value} {xs : List Value} (h : w.ownsRow base T 1 v n xs) (hb : ∀ g, v.ownBlock = some g → w'.heap[g]? = w.heap[g]?) : w'.ownsRow base T 1 v n xs := by
  refine ⟨h.1, ?_⟩
  rcases h.2 with ⟨rfl, h0⟩ | ⟨g, cap, cur, rfl, h1, h2, h3⟩
  · exact Or.inl ⟨rfl, h0⟩
  · exact Or.inr ⟨g, cap, cur, rfl, h1, (hb g rfl).trans h2, h3⟩

set_option maxRecDepth 100000 in
set_option maxHeartbeats 2000000 in
theorem markTabH (T : Tab) (u1 u2 u3 : Value) (vs : List Value) (base k : Nat) (w : World) (h : TabOwn w base T vs u1 u2 u3) (hbase : base ≤ w.heap.size) (hk : 1 ≤ k) (l1 : T.ns.length ≤ 1048576) (l2 : T.rs.length ≤ 1048576) (l4 : T.ys.length ≤ 1048576) (hkl : k + T.ns.length + (T.rs.map List.length).sum ≤ 2097152) (hi : Nat) (hv1 : ∀ g, u1.ownBlock = some g → g < hi) (hvs : ∀ (j : Nat) u g, vs[j]? = some u → u.ownBlock = some g → g < hi) (hv3 : ∀ g, u3.ownBlock = some g → g < hi) :
    Calls Try.prog 23 #[.agg #[u1, .string ⟨T.y.toArray⟩, u2, u3], .int .i64 k] w fun e w' => e = .returned (.int .i64 ((k + T.ns.length + (T.rs.map List.length).sum + T.ys.length : Nat) : Int)) ∧ TabOwn w' base (marksT T k) vs u1 u2 u3 ∧ Below base w w' ∧ (∀ b, hi ≤ b → b < w.heap.size → w'.heap[b]? = w.heap[b]?) := by
  obtain ⟨h1, h2, h3, h4, hap⟩ := h
  obtain ⟨a1, c1, rfl⟩ := owns_form h1
  obtain ⟨a2, c2, rfl⟩ := owns_form h2
  obtain ⟨a3, c3, rfl⟩ := owns_form h4
  have hB0 : Below base w (w.alloc (.cells #[.slice a1 T.ns.length c1, .string ⟨T.y.toArray⟩, .slice a2 T.rs.length c2, .slice a3 T.ys.length c3] 28)) := (Below.refl base w).alloc hbase _
  have hB0b := bl_al w (.cells #[.slice a1 T.ns.length c1, .string ⟨T.y.toArray⟩, .slice a2 T.rs.length c2, .slice a3 T.ys.length c3] 28)
  have hb1 := alloc_blk w #[.slice a1 T.ns.length c1, .string ⟨T.y.toArray⟩, .slice a2 T.rs.length c2, .slice a3 T.ys.length c3] 28
  have o1 := owns_bl h1 hB0b
  have o2 := owns_bl h2 hB0b
  have o3 := h3.below hB0b
  have o4 := owns_bl h4 hB0b
  have hX : ∀ (j : Nat) u g, vs[j]? = some u → u.ownBlock = some g → base ≤ g ∧ g ≠ w.heap.size ∧ (Value.slice a1 T.ns.length c1).ownBlock ≠ some g := fun j u g hu hb => by
    have hj : j < (T.rs.map intCells).length := by rw [← h3.1]; exact (List.getElem?_eq_some_iff.1 hu).1
    refine ⟨(h3.lt hu hb).1, ?_, ?_⟩
    · have := (h3.lt hu hb).2
      omega
    · intro e
      exact owns_apart h1 (h3.2.1 j u _ hu (List.getElem?_eq_getElem hj)) (by decide) g e hb
  have HV1 := Lib.hid hv1
  have HVS := Lib.hid hvs
  have HV3 := Lib.hid hv3
  clear hv1 hvs hv3
  have P0 : Hid (∀ b, hi ≤ b → b < w.heap.size → (w.alloc (.cells #[.slice a1 T.ns.length c1, .string ⟨T.y.toArray⟩, .slice a2 T.rs.length c2, .slice a3 T.ys.length c3] 28)).heap[b]? = w.heap[b]?) := Lib.hid (fun b _ hb => Below.heap_alloc w _ b hb)
  have HX := Lib.hid hX
  have HAP := Lib.hid hap
  have hF : ∀ g, (Value.slice a1 T.ns.length c1).ownBlock = some g → base ≤ g ∧ g < w.heap.size := fun g e => h1.lt g e
  have HFF := Lib.hid hF
  clear hX hap hF h1 h2 h3 h4
  go_enter Try.func23, Try.ntmps23
  have p0 := cell_blk hb1 0
  go_wp2_with fail
  refine (markStr _ base T.ns.length k _ _ o1 hk (by omega) (by omega)).mono ?_
  rintro e w1 ⟨rfl, hM, hg⟩
  have m1 := marked_cells hM
  have b1 := blk_gr hb1 hg (fun e => by have := (HFF.out _ e.symm).2; omega)
  have g2 := owns_keep o2 o1 (by decide) hg
  have g3 := o3.kept hg (fun j u g hu hb e => by
    have hj : j < (T.rs.map intCells).length := by rw [← o3.1]; exact (List.getElem?_eq_some_iff.1 hu).1
    exact owns_apart (o3.2.1 j u _ hu (List.getElem?_eq_getElem hj)) o1 (by decide) g hb e)
  have g4 := owns_keep o4 o1 (by decide) hg
  have P1 : Hid (∀ b, hi ≤ b → b < w.heap.size → w1.heap[b]? = w.heap[b]?) := Lib.hid (fun b hb hbw => (hg.block b (Nat.lt_of_lt_of_le hbw hB0b.size) (fun e => by have := HV1.out b e.symm; omega)).trans (P0.out b hb hbw))
  have hB1 := hB0.grown hg (Nat.le_trans hbase hB0b.size) (fun b hb => (o1.lt b hb).1)
  obtain ⟨K, hK⟩ : ∃ K : Nat, k + T.ns.length = K := ⟨_, rfl⟩
  have e2 : (k : Int) + T.ns.length = (K : Int) := by omega
  rw [e2]
  have HK := Lib.hid hK
  have hK1 : K ≤ 2097152 := by omega
  have hK2 : K + (T.rs.map List.length).sum ≤ 2097152 := by omega
  have p2 := cell_blk b1 2
  clear hM hg o1 o2 o3 o4 hb1 hB0 hB0b e2 hK
  go_wp2_with fail
  refine (markII _ base _ vs T.rs K g2 g3 (fun a => (a.ownsRow base 9 1 (.slice a1 T.ns.length c1) (strCells (marks k T.ns.length)).length (strCells (marks k T.ns.length)) ∧ a.ownsRow base 3 1 (.slice a3 T.ys.length c3) T.ys.length (intCells T.ys) ∧ a.heap[w.heap.size]? = some (.cells #[.slice a1 T.ns.length c1, .string ⟨T.y.toArray⟩, .slice a2 T.rs.length c2, .slice a3 T.ys.length c3] 28 (0, 0))) ∧ Below base w a ∧ (∀ b, hi ≤ b → b < w.heap.size → a.heap[b]? = w.heap[b]?)) ?_ ⟨⟨m1, g4, b1⟩, hB1, P1.out⟩ (by omega) (by omega)).mono ?_
  · rintro j u a b hu hgu ⟨⟨t1, t3, t4⟩, t5, t6⟩
    refine ⟨⟨owns_far t1 hgu (fun g e => (HX.out j u g hu e).2.2), owns_far t3 hgu (fun g e => HAP.out j u g hu e), blk_gr t4 hgu (fun e => (HX.out j u _ hu e.symm).2.1 rfl)⟩, t5.grown hgu (Nat.le_trans hbase t5.size) (fun g e => (HX.out j u g hu e).1), fun b' hb' hbw => (hgu.block b' (Nat.lt_of_lt_of_le hbw t5.size) (fun e => by have := HVS.out j u b' hu e.symm; omega)).trans (t6 b' hb' hbw)⟩
  rintro e w2 ⟨rfl, ⟨q2, q3⟩, ⟨q1, q4, b2⟩, hB2, P2⟩
  have p3 := cell_blk b2 3
  obtain ⟨K2, hK3⟩ : ∃ K2 : Nat, K + (T.rs.map List.length).sum = K2 := ⟨_, rfl⟩
  rw [hK3] at hK2
  rw [hK3]
  have HK2 := Lib.hid hK3
  clear m1 b1 g2 g3 g4 hB1 p2 p0 hK3
  go_wp2_with fail
  refine (markI _ base T.ys.length K2 _ _ q4 (by omega) (by omega)).mono ?_
  rintro e w3 ⟨rfl, r4, hg3⟩
  have r1 := owns_keep q1 q4 (by decide) hg3
  have r2 := owns_keep q2 q4 (by decide) hg3
  have r3 := q3.kept hg3 (fun j u g hu hb => HAP.out j u g hu hb)
  have hB3 := hB2.grown hg3 (Nat.le_trans hbase hB2.size) (fun b hb => (q4.lt b hb).1)
  go_wp2_with fail
  go_ret
  have f1 := HK.out
  have f2 := HK2.out
  refine ⟨ret_int (by omega), ⟨?_, ?_, ?_, ?_, HAP.out⟩, hB3, fun b hb hbw => (hg3.block b (Nat.lt_of_lt_of_le hbw hB2.size) (fun e => by have := HV3.out b e.symm; omega)).trans (P2 b hb hbw)⟩
  · rw [strCells_len] at r1
    exact r1
  · have e : (marksT T k).rs.length = T.rs.length := by rw [marksT, marksLI_len, List.length_map]
    rw [e]
    exact r2
  · rw [marksT, f1]
    exact r3
  · have e : (marksT T k).ys.length = T.ys.length := by rw [marksT, marksI_len]
    rw [e, marksT, f1, f2]
    exact r4

end Go.Proofs.Yticeagjonfifbaa
