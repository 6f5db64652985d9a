/-
  Whether a list holds so many bins, the program's way.
  The draw of a small decimal: what it is, and what it leaves alone.
  Sorted lists, lists without duplicates, and cuts: plain mathematics.
  What is wrong with the names: plain mathematics.
  Tables and their text: plain mathematics.
  The reading of a table: what a walk keeps (the box of the table, its parts, the row that is read).
  What a walk of an exact law keeps: lists of rows of numbers, grids.
  The draws of tables: what a walk keeps (the cursor, the box of the table, its parts, the row that is drawn, the result's box).
  The making of a grid: what a walk keeps (the box of the grid, its two rows of rows).
  Sorted lists and cuts: what the laws ask of them: plain mathematics.
  Bins: plain mathematics.
-/
import Derived.Test.YtgknkjiifcnkpaaI9N
import Derived.Test.YtgknkjiifcnkpaaTabO
import Derived.Test.YtgknkjiifcnkpaaPk1
import Derived.Test.YtgknkjiifcnkpaaTabS
import Derived.Test.YtgknkjiifcnkpaaTabC
import Derived.Test.YtgknkjiifcnkpaaPk2
import Derived.Test.YtgknkjiifcnkpaaPk3
import Derived.Test.YtgknkjiifcnkpaaGrdV
import Derived.Test.YtgknkjiifcnkpaaLawH11
namespace Go.Proofs.Ytgknkjiifcnkpaa
open Go.RowKit

set_option maxRecDepth 100000 in
set_option maxHeartbeats 1000000 in
theorem notBin9 (W : World) (bx : Nat) (x m : Int) (h1 : W.cell? ⟨bx, 0, none⟩ = some (.int .i64 m)) :
    Calls Try.prog 91 #[.int .i64 x, .pointer (some ⟨bx, 0, none⟩)] W fun e w' => e = .returned (.bool (!inZ x 0 m)) ∧ W = w' := by
  go_enter Try.func91, Try.ntmps91
  go_wp2_with fail
  refine (inRange9 _ _ _ _).mono ?_
  rintro e w1 ⟨rfl, rfl⟩
  go_wp2_with fail
  go_ret
  exact ⟨rfl, rfl⟩
theorem all_takeB {p : Int → Bool} {s : List Int} {j : Nat} {z : Int} (h : s[j]? = some z) : (s.take (j + 1)).all p = ((s.take j).all p && p z) := by
  rw [List.take_add_one, h, List.all_append]
  simp
set_option maxRecDepth 100000 in
set_option maxHeartbeats 1000000 in
theorem indexBin9 (w : World) (bx : Nat) (lim : Int) (a : Option Addr) (c : Nat) (s : List Int) (hb : w.cell? ⟨bx, 0, none⟩ = some (.int .i64 lim)) (hl : s.length ≤ 9223372036854775807) (hc : ∀ (q : Nat) z, s[q]? = some z → ∃ b off, a = some ⟨b, off, none⟩ ∧ w.cell? ⟨b, off + q, none⟩ = some (.int .i64 z)) :
    Calls Try.prog 103 #[.slice a s.length c, .func (.func 91) #[] #[.pointer (some ⟨bx, 0, none⟩)]] w fun e w' => (∃ z : Int, e = .returned (.int .i64 z) ∧ decide (0 ≤ z) = !s.all (fun x => inZ x 0 lim)) ∧ ∃ q, w' = w.drewN q := by
  have HC := Lib.hid hc
  have HK := Lib.hid (fun (k : Nat) (x : Int) => notBin9 (w.drewN k) bx x lim hb)
  clear hc hb
  obtain ⟨p, hp⟩ : ∃ p : Int → Bool, (fun x => inZ x 0 lim) = p := ⟨_, rfl⟩
  have HP : Hid (∀ x, inZ x 0 lim = p x) := Lib.hid (fun x => by rw [← hp])
  rw [hp]
  clear hp
  obtain ⟨n, hn⟩ : ∃ n : Nat, s.length = n := ⟨_, rfl⟩
  rw [hn] at hl ⊢
  have HE := Lib.hid hn
  clear hn
  go_enter Try.func103, Try.ntmps103
  go_wp2_with fail
  go_loopg [5, 8] n (fun g _ i wr => ∃ j z : Nat, j ≤ n ∧ g = n - j ∧ i = .int .i64 j ∧ wr = w.drewN z ∧ (s.take j).all p = true)
  case atStart => exact ⟨0, 0, Nat.zero_le _, rfl, rfl, rfl, rfl⟩
  case round =>
    obtain ⟨j, z, hj, rfl, rfl, rfl, ht⟩ := hrel
    have HT := Lib.hid ht
    clear ht
    by_cases hlt : j < n
    · have hj1 : (j : Int) < n := by omega
      have hj0 : (0 : Int) ≤ j := by omega
      obtain ⟨x, hx⟩ : ∃ x, s[j]? = some x := ⟨_, List.getElem?_eq_getElem (by rw [HE.out]; exact hlt)⟩
      obtain ⟨b, off, rfl, hcx⟩ := HC.out j x hx
      have HX := Lib.hid hx
      have hcell : (w.drewN z).cell? ⟨b, off + j, none⟩ = some (.int .i64 x) := hcx
      have HR := Lib.hid (HK.out z x)
      rw [HP.out x] at HR
      clear hx hcx
      obtain ⟨wq, hwq⟩ : ∃ wq, w.drewN z = wq := ⟨_, rfl⟩
      rw [hwq] at hcell HR ⊢
      have HW := Lib.hid hwq
      clear hwq
      cases hp : p x with
      | false =>
        go_wp2_with fail
        refine HR.out.mono ?_
        rintro e w1 ⟨rfl, rfl⟩
        rw [hp]
        go_wp2_with fail
        go_ret
        refine ⟨⟨_, rfl, ?_⟩, z, by rw [← HW.out]⟩
        rw [decide_eq_true hj0]
        have h2 : s.all p = false := List.all_eq_false.2 ⟨x, List.mem_of_getElem? HX.out, by rw [hp]; simp⟩
        rw [h2]
        rfl
      | true =>
        go_wp2_with fail
        refine HR.out.mono ?_
        rintro e w1 ⟨rfl, rfl⟩
        rw [hp]
        go_wp2_with fail
        go_roundg (n - (j + 1))
        case measure => omega
        case rel => exact ⟨j + 1, z, by omega, rfl, by go_num, HW.out.symm, by rw [all_takeB HX.out, HT.out, hp]; rfl⟩
    · have hje : j = n := by omega
      have hj1 : ¬ (j : Int) < n := by omega
      have HA : Hid (s.all p = true) := Lib.hid (by
        have h := HT.out
        rwa [hje, List.take_of_length_le (by rw [HE.out]; exact Nat.le_refl _)] at h)
      clear hje
      go_wp2_with fail
      go_ret
      exact ⟨⟨_, rfl, by rw [HA.out]; rfl⟩, z, rfl⟩
set_option maxRecDepth 100000 in
theorem containsBin9 (w : World) (bx : Nat) (lim : Int) (v : Value) (s : List Int) (hb : w.cell? ⟨bx, 0, none⟩ = some (.int .i64 lim)) (h : IntRow w v s) :
    Calls Try.prog 90 #[v, .func (.func 91) #[] #[.pointer (some ⟨bx, 0, none⟩)]] w fun e w' => e = .returned (.bool (!s.all (fun x => inZ x 0 lim))) ∧ ∃ q, w' = w.drewN q := by
  obtain ⟨a, c, rfl, hl, hc⟩ := intRow_form h
  have HC := Lib.hid (indexBin9 w bx lim a c s hb hl hc)
  clear hc h hb
  go_enter Try.func90, Try.ntmps90
  go_wp2_with fail
  refine HC.out.mono ?_
  rintro e w1 ⟨⟨z, rfl, hz⟩, q, rfl⟩
  have HZ := Lib.hid hz
  clear hz
  go_wp2_with fail
  go_ret
  exact ⟨ret_bool9 HZ.out, q, rfl⟩
set_option maxRecDepth 100000 in
set_option maxHeartbeats 1000000 in
/-- WHETHER A LIST HOLDS SO MANY BINS. -/
theorem areBins9 (w : World) (v : Value) (s : List Int) (m : Nat) (lim : Int) (h : IntRow w v s) :
    Calls Try.prog 64 #[v, .int .i64 m, .int .i64 lim] w fun e w' => e = .returned (.bool (decide (s.length = m) && s.all (fun x => inZ x 0 lim))) ∧ Below w.heap.size w w' := by
  have hA := bl_al w (.cells #[.int .i64 lim] 3)
  have x := alloc_blk w #[.int .i64 lim] 3
  have h0 := h.below hA
  obtain ⟨a, c, rfl, hl, hc⟩ := intRow_form h
  clear hc
  by_cases hm : s.length = m
  · have HC := Lib.hid (containsBin9 _ w.heap.size lim _ s (cell_blk x 0) h0)
    have hm1 : (s.length : Int) = m := by omega
    have HD := Lib.hid (decide_eq_true hm)
    have HA := Lib.hid hA
    clear h h0 hm hA x
    go_enter Try.func64, Try.ntmps64
    go_wp2_with fail
    refine HC.out.mono ?_
    rintro e w1 ⟨rfl, q, rfl⟩
    go_wp2_with fail
    go_ret
    exact ⟨ret_bool9 (by rw [HD.out]; simp), below_drewN2 HA.out q⟩
  · have hm1 : ¬ (s.length : Int) = m := by omega
    have HD := Lib.hid (decide_eq_false hm)
    clear hm
    go_enter Try.func64, Try.ntmps64
    go_wp2_with fail
    go_ret
    exact ⟨ret_bool9 (by rw [HD.out]; rfl), hA⟩
end Go.Proofs.Ytgknkjiifcnkpaa
namespace Go.Proofs.Ytgknkjiifcnkpaa
open Go.RowKit

theorem valI {n : Int} (h0 : -2147483647 ≤ n) (h1 : n ≤ 2147483647) : valB n = true := inZ_iff.2 ⟨h0, h1⟩
/-- A literal list of right decimals. -/
theorem valList {w : World} {cs : Array Value} {T : TypeId} {n : Nat} (hn : n = cs.size) (h : cs.toList.all (fun v => match v with | .int .i64 z => decide (-2147483647 ≤ z) && decide (z ≤ 2147483647) | _ => false) = true) :
    ∀ j, j < n → ∃ z : Int, -2147483647 ≤ z ∧ z ≤ 2147483647 ∧ (w.alloc (.cells cs T)).cell? ⟨w.heap.size, j, none⟩ = some (.int .i64 z) := by
  subst hn
  intro j hj
  have hb : (w.alloc (.cells cs T)).heap[w.heap.size]? = some (.cells cs T (0, 0)) := by
    show (w.heap.push _)[w.heap.size]? = _
    simp
  rw [cell_blk hb]
  have hm : cs[j] ∈ cs.toList := by simp
  have h1 := List.all_eq_true.1 h _ hm
  rw [Array.getElem?_eq_getElem hj]
  split at h1
  · rename_i z hz
    simp only [Bool.and_eq_true, decide_eq_true_eq] at h1
    exact ⟨z, h1.1, h1.2, by rw [hz]⟩
  · cases h1
set_option maxRecDepth 100000 in
theorem l1PickV (W w : World) (p lb k : Nat) (h1 : 1 ≤ k) (h2 : k ≤ 4294967296) (hne : lb ≠ p) (hcell : ∀ j, j < k → ∃ z : Int, -2147483647 ≤ z ∧ z ≤ 2147483647 ∧ w.cell? ⟨lb, j, none⟩ = some (.int .i64 z)) (hc : Cur W w p) :
    Calls Try.prog 43 #[.pointer (some ⟨p, 0, none⟩), .slice (some ⟨lb, 0, none⟩) k k] w fun e w' => (∃ z : Int, e = .returned (.int .i64 z) ∧ valB z = true) ∧ Cur W w' p ∧ w.grownBy w' (some p) := by
  have HC := Lib.hid hcell
  clear hcell
  go_enter Try.func43, Try.ntmps43
  go_wp2_with fail
  refine (l1Below W _ p k h1 h2 hc).mono ?_
  rintro e w1 ⟨⟨m, hm, rfl⟩, hc1, hg1⟩
  obtain ⟨z, z0, z1, hcs⟩ := HC.out m hm
  have hcs1 := grown_cell hg1 hne hcs
  have hm1 : (m : Int) < k := by omega
  clear hcs
  go_wp2_with fail
  go_ret
  exact ⟨⟨z, rfl, valI z0 z1⟩, hc1, hg1⟩
set_option maxRecDepth 100000 in
set_option maxHeartbeats 1000000 in
theorem l6SmallV (W w : World) (p : Nat) (hc : Cur W w p) :
    Calls Try.prog 96 #[.pointer (some ⟨p, 0, none⟩)] w fun e w' => (∃ z : Int, e = .returned (.int .i64 z) ∧ valB z = true) ∧ Cur W w' p ∧ w.grownBy w' (some p) := by
  go_enter Try.func96, Try.ntmps96
  go_wp2_with fail
  refine (l1Once W w p 20 (by omega) (by omega) hc).mono ?_
  rintro e w2 ⟨⟨b, rfl⟩, hc2, hg2⟩
  cases b with
  | true =>
    have hl := hc2.lt
    go_wp2_with fail
    refine (l1PickV W _ p w2.heap.size 5 (by omega) (by omega) (by omega) ?_ (hc2.alloc _)).mono ?_
    · refine valList ?_ ?_
      · rfl
      · decide
    rintro e w3 ⟨⟨z, rfl, hz⟩, hc3, hg3⟩
    go_wp2_with fail
    go_ret
    exact ⟨⟨z, rfl, hz⟩, hc3, grownBy_trans (grownBy_trans hg2 (grow_al _ _ _)) hg3⟩
  | false =>
    go_wp2_with fail
    refine (l1Once W _ p 2 (by omega) (by omega) hc2).mono ?_
    rintro e w3 ⟨⟨b, rfl⟩, hc3, hg3⟩
    cases b with
    | true =>
      go_wp2_with fail
      refine (l1Below W _ p 9 (by omega) (by omega) hc3).mono ?_
      rintro e w4 ⟨⟨m, hm, rfl⟩, hc4, hg4⟩
      go_wp2_with fail
      go_ret
      exact ⟨⟨_, rfl, valI (by omega) (by omega)⟩, hc4, grownBy_trans (grownBy_trans hg2 hg3) hg4⟩
    | false =>
      go_wp2_with fail
      refine (l1Below W _ p 41 (by omega) (by omega) hc3).mono ?_
      rintro e w4 ⟨⟨m, hm, rfl⟩, hc4, hg4⟩
      go_wp2_with fail
      go_ret
      exact ⟨⟨_, rfl, valI (by omega) (by omega)⟩, hc4, grownBy_trans (grownBy_trans hg2 hg3) hg4⟩
end Go.Proofs.Ytgknkjiifcnkpaa
namespace Go.Proofs.Ytgknkjiifcnkpaa
open Go.RowKit

/-- Where x is put: behind the last that is not above it, from the end on. -/
def posK (out : List Int) (x : Int) : Nat → Nat
  | 0 => 0
  | k + 1 => if x < out.getD k 0 then posK out x k else k + 1
def insZ (out : List Int) (x : Int) : List Int := out.take (posK out x out.length) ++ [x] ++ out.drop (posK out x out.length)
/-- The numbers in order. -/
def sortZ (zs : List Int) : List Int := zs.foldl insZ []
theorem posK_le (out : List Int) (x : Int) : ∀ k, posK out x k ≤ k
  | 0 => Nat.le_refl _
  | k + 1 => by
    unfold posK
    split
    · exact Nat.le_succ_of_le (posK_le out x k)
    · exact Nat.le_refl _
theorem posK_up {out : List Int} {x : Int} {k : Nat} (h : x < out.getD k 0) : posK out x (k + 1) = posK out x k := by rw [posK, if_pos h]
theorem posK_at {out : List Int} {x : Int} {k : Nat} (h : ¬ x < out.getD k 0) : posK out x (k + 1) = k + 1 := by rw [posK, if_neg h]
theorem posK_low (out : List Int) (x : Int) : ∀ k, posK out x k = 0 ∨ ∃ j, posK out x k = j + 1 ∧ ¬ x < out.getD j 0
  | 0 => Or.inl rfl
  | k + 1 => by
    unfold posK
    split
    · exact posK_low out x k
    · rename_i h
      exact Or.inr ⟨k, rfl, h⟩
theorem posK_high (out : List Int) (x : Int) : ∀ k j, posK out x k ≤ j → j < k → x < out.getD j 0
  | 0, _, _, h => by omega
  | k + 1, j, h1, h2 => by
    unfold posK at h1
    split at h1
    · rename_i h
      by_cases e : j = k
      · subst e
        exact h
      · exact posK_high out x k j h1 (by omega)
    · omega
theorem insZ_len (out : List Int) (x : Int) : (insZ out x).length = out.length + 1 := by
  have := posK_le out x out.length
  simp only [insZ, List.length_append, List.length_take, List.length_drop, List.length_singleton]
  omega
theorem insZ_perm (out : List Int) (x : Int) : (insZ out x).Perm (x :: out) := by
  have h := List.perm_middle (a := x) (l₁ := out.take (posK out x out.length)) (l₂ := out.drop (posK out x out.length))
  rw [List.take_append_drop] at h
  simpa [insZ] using h
theorem getD_mem {l : List Int} {j : Nat} (h : j < l.length) : l.getD j 0 ∈ l := by
  rw [List.getD_eq_getElem?_getD, List.getElem?_eq_getElem h]
  exact List.getElem_mem h
theorem getD_eq {l : List Int} {j : Nat} (h : j < l.length) : l.getD j 0 = l[j] := by
  rw [List.getD_eq_getElem?_getD, List.getElem?_eq_getElem h]
  rfl
theorem srt_le {l : List Int} (h : l.Pairwise (· ≤ ·)) {i j : Nat} (hij : i ≤ j) (hj : j < l.length) : l.getD i 0 ≤ l.getD j 0 := by
  rw [getD_eq (by omega), getD_eq hj]
  by_cases e : i = j
  · subst e
    exact Int.le_refl _
  · exact List.pairwise_iff_getElem.1 h i j (by omega) hj (by omega)
theorem insZ_srt {out : List Int} (x : Int) (h : out.Pairwise (· ≤ ·)) : (insZ out x).Pairwise (· ≤ ·) := by
  have hp := posK_le out x out.length
  have hlow : ∀ a ∈ out.take (posK out x out.length), a ≤ x := by
    intro a ha
    obtain ⟨i, hi, rfl⟩ := List.mem_take_iff_getElem.1 ha
    rcases posK_low out x out.length with e | ⟨j, e, hj⟩
    · omega
    · have := srt_le h (i := i) (j := j) (by omega) (by omega)
      rw [getD_eq (by omega)] at this
      omega
  have hhigh : ∀ a ∈ out.drop (posK out x out.length), x < a := by
    intro a ha
    obtain ⟨i, hi, rfl⟩ := List.mem_drop_iff_getElem.1 ha
    have := posK_high out x out.length (posK out x out.length + i) (by omega) (by omega)
    rwa [getD_eq (by omega)] at this
  unfold insZ
  rw [List.append_assoc, List.pairwise_append]
  refine ⟨h.sublist (List.take_sublist _ _), ?_, fun a ha b hb => ?_⟩
  · rw [List.pairwise_append]
    refine ⟨by simp, h.sublist (List.drop_sublist _ _), fun a ha b hb => ?_⟩
    obtain rfl := List.mem_singleton.1 ha
    exact Int.le_of_lt (hhigh b hb)
  · have h1 := hlow a ha
    rcases List.mem_append.1 hb with hb | hb
    · obtain rfl := List.mem_singleton.1 hb
      exact h1
    · have := hhigh b hb
      omega
theorem foldl_ins (zs : List Int) : ∀ out : List Int, out.Pairwise (· ≤ ·) → (zs.foldl insZ out).Pairwise (· ≤ ·) ∧ (zs.foldl insZ out).Perm (out ++ zs) := by
  induction zs with
  | nil => intro out h; exact ⟨h, by simp⟩
  | cons z zs ih =>
    intro out h
    have h1 := ih (insZ out z) (insZ_srt z h)
    refine ⟨h1.1, h1.2.trans ?_⟩
    have h2 := (insZ_perm out z).append_right zs
    refine h2.trans ?_
    exact List.perm_middle.symm
theorem sortZ_srt (zs : List Int) : (sortZ zs).Pairwise (· ≤ ·) := (foldl_ins zs [] (by simp)).1
theorem sortZ_perm (zs : List Int) : (sortZ zs).Perm zs := by
  have h := (foldl_ins zs [] (by simp)).2
  rw [List.nil_append] at h
  exact h
theorem sortZ_len (zs : List Int) : (sortZ zs).length = zs.length := (sortZ_perm zs).length_eq
theorem sortZ_snoc (zs : List Int) (x : Int) : sortZ (zs ++ [x]) = insZ (sortZ zs) x := by
  unfold sortZ
  rw [List.foldl_append]
  rfl
theorem sortZ_take {zs : List Int} {k : Nat} (h : k < zs.length) : sortZ (zs.take (k + 1)) = insZ (sortZ (zs.take k)) (zs.getD k 0) := by
  rw [List.take_add_one, List.getElem?_eq_getElem h, getD_eq h]
  exact sortZ_snoc _ _
/-- What is in order and has the same numbers is the same. -/
theorem sortZ_uniq {zs l : List Int} (h : l.Pairwise (· ≤ ·)) (hp : l.Perm zs) : l = sortZ zs :=
  List.Perm.eq_of_pairwise (le := (· ≤ ·)) (fun a b _ _ h1 h2 => by omega) h (sortZ_srt zs) (hp.trans (sortZ_perm zs).symm)
/-- Those of the first k that are not as the one ahead. -/
def dedK (all : List Int) : Nat → List Int
  | 0 => []
  | k + 1 => if k = 0 ∨ all.getD k 0 ≠ all.getD (k - 1) 0 then dedK all k ++ [all.getD k 0] else dedK all k
def distZ (zs : List Int) : List Int := dedK (sortZ zs) (sortZ zs).length
theorem dedK_len (all : List Int) : ∀ k, (dedK all k).length ≤ k
  | 0 => Nat.le_refl _
  | k + 1 => by
    have := dedK_len all k
    unfold dedK
    split
    · rw [List.length_append, List.length_singleton]
      omega
    · omega
theorem distZ_len (zs : List Int) : (distZ zs).length ≤ zs.length := by
  have := dedK_len (sortZ zs) (sortZ zs).length
  rw [sortZ_len] at this
  unfold distZ
  rw [sortZ_len]
  exact this
theorem dedK_mem {all : List Int} (h : all.Pairwise (· ≤ ·)) : ∀ k, k ≤ all.length → (dedK all k).Pairwise (· < ·) ∧ (∀ x, x ∈ dedK all k ↔ x ∈ all.take k) ∧ (∀ x ∈ dedK all k, 0 < k ∧ x ≤ all.getD (k - 1) 0)
  | 0, _ => ⟨by simp [dedK], by simp [dedK], by simp [dedK]⟩
  | k + 1, hk => by
    obtain ⟨h1, h2, h3⟩ := dedK_mem h k (by omega)
    have et : all.take (k + 1) = all.take k ++ [all.getD k 0] := by rw [List.take_add_one, List.getElem?_eq_getElem (by omega), getD_eq (by omega)]; rfl
    unfold dedK
    by_cases hc : k = 0 ∨ all.getD k 0 ≠ all.getD (k - 1) 0
    · rw [if_pos hc]
      refine ⟨List.pairwise_append.2 ⟨h1, by simp, fun a ha b hb => ?_⟩, fun x => ?_, fun x hx => ⟨by omega, ?_⟩⟩
      · obtain rfl := List.mem_singleton.1 hb
        obtain ⟨hk0, hle⟩ := h3 a ha
        have := srt_le h (i := k - 1) (j := k) (by omega) (by omega)
        rcases hc with hc | hc
        · omega
        · omega
      · rw [et, List.mem_append, List.mem_append, h2 x]
      · show x ≤ all.getD k 0
        rcases List.mem_append.1 hx with hx | hx
        · obtain ⟨hk0, hle⟩ := h3 x hx
          have := srt_le h (i := k - 1) (j := k) (by omega) (by omega)
          omega
        · obtain rfl := List.mem_singleton.1 hx
          exact Int.le_refl _
    · rw [if_neg hc]
      have hk0 : ¬ k = 0 := fun e => hc (Or.inl e)
      have he : all.getD k 0 = all.getD (k - 1) 0 := by
        by_cases e : all.getD k 0 = all.getD (k - 1) 0
        · exact e
        · exact absurd (Or.inr e) hc
      refine ⟨h1, fun x => ?_, fun x hx => ⟨by omega, ?_⟩⟩
      · rw [et, List.mem_append, h2 x, List.mem_singleton]
        refine ⟨Or.inl, fun hx => ?_⟩
        rcases hx with hx | rfl
        · exact hx
        · rw [he, getD_eq (by omega)]
          exact List.mem_take_iff_getElem.2 ⟨k - 1, by omega, rfl⟩
      · show x ≤ all.getD k 0
        rw [he]
        exact (h3 x hx).2
theorem distZ_srt (zs : List Int) : (distZ zs).Pairwise (· < ·) := (dedK_mem (sortZ_srt zs) _ (Nat.le_refl _)).1
theorem distZ_mem (zs : List Int) (x : Int) : x ∈ distZ zs ↔ x ∈ zs := by
  rw [distZ, (dedK_mem (sortZ_srt zs) _ (Nat.le_refl _)).2.1, List.take_length]
  exact (sortZ_perm zs).mem_iff
/-- What rises and has the same members is the same. -/
theorem rise_uniq : ∀ {l m : List Int}, l.Pairwise (· < ·) → m.Pairwise (· < ·) → (∀ x, x ∈ l ↔ x ∈ m) → l = m
  | [], [], _, _, _ => rfl
  | [], b :: m, _, _, h => absurd ((h b).2 (by simp)) (by simp)
  | a :: l, [], _, _, h => absurd ((h a).1 (by simp)) (by simp)
  | a :: l, b :: m, h1, h2, h => by
    rw [List.pairwise_cons] at h1 h2
    have hab : a = b := by
      have e1 := (h a).1 (by simp)
      have e2 := (h b).2 (by simp)
      rcases List.mem_cons.1 e1 with e1 | e1
      · exact e1
      · rcases List.mem_cons.1 e2 with e2 | e2
        · exact e2.symm
        · have := h2.1 a e1
          have := h1.1 b e2
          omega
    subst hab
    congr 1
    refine rise_uniq h1.2 h2.2 fun x => ⟨fun hx => ?_, fun hx => ?_⟩
    · rcases List.mem_cons.1 ((h x).1 (by simp [hx])) with e | e
      · have := h1.1 x hx
        omega
      · exact e
    · rcases List.mem_cons.1 ((h x).2 (by simp [hx])) with e | e
      · have := h2.1 x hx
        omega
      · exact e
theorem distZ_uniq {zs l : List Int} (h : l.Pairwise (· < ·)) (hm : ∀ x, x ∈ l ↔ x ∈ zs) : l = distZ zs := rise_uniq h (distZ_srt zs) (fun x => (hm x).trans (distZ_mem zs x).symm)
/-- The cuts ahead of their order: those of the first j parts. -/
def rawZ (all : List Int) (b : Nat) : Nat → List Int
  | 0 => []
  | j + 1 => if 1 ≤ all.length * (j + 1) / b ∧ all.getD (all.length * (j + 1) / b - 1) 0 < all.getD (all.length - 1) 0 then rawZ all b j ++ [all.getD (all.length * (j + 1) / b - 1) 0] else rawZ all b j
def cutsZ (vs : List Int) (bins : Int) : List Int := if inZ bins 2 8 = true ∧ inZ (vs.length : Int) 1 40 = true then distZ (rawZ (sortZ vs) bins.toNat (bins.toNat - 1)) else []
theorem rawZ_len (all : List Int) (b : Nat) : ∀ j, (rawZ all b j).length ≤ j
  | 0 => Nat.le_refl _
  | j + 1 => by
    have := rawZ_len all b j
    unfold rawZ
    split
    · rw [List.length_append, List.length_singleton]
      omega
    · omega
theorem cutsZ_len (vs : List Int) (bins : Int) : (cutsZ vs bins).length ≤ 7 := by
  unfold cutsZ
  split
  · rename_i h
    have h1 := inZ_iff.1 h.1
    have h2 := distZ_len (rawZ (sortZ vs) bins.toNat (bins.toNat - 1))
    have h3 := rawZ_len (sortZ vs) bins.toNat (bins.toNat - 1)
    omega
  · simp
/-- The first k cuts are right. -/
def okCuts (zs : List Int) (k : Nat) : Bool := valB (zs.getD k 0) && (k == 0 || decide (zs.getD (k - 1) 0 < zs.getD k 0))
def cutsB (zs : List Int) : Bool := (List.range zs.length).all (okCuts zs) && decide (zs.length ≤ 7)
end Go.Proofs.Ytgknkjiifcnkpaa
namespace Go.Proofs.Ytgknkjiifcnkpaa
open Go.RowKit

/-- Whether the name at a place is right, and new. -/
def nmB (L : List (List UInt8)) (i : Nat) : Bool := nameB (L.getD i []) && !hasB (L.take i) (L.getD i [])
/-- What is wrong with the names from place i on: the code and the column. -/
def headG (L : List (List UInt8)) : Nat → Nat → Nat × Nat
  | 0, _ => (0, 0)
  | n + 1, i => if nameB (L.getD i []) = false then (5, i) else if hasB (L.take i) (L.getD i []) = true then (6, i) else headG L n (i + 1)
def headF (L : List (List UInt8)) : Nat × Nat := if inZ (L.length : Int) 2 5 = true then headG L L.length 0 else (7, 0)
theorem nmB_iff {L : List (List UInt8)} {i : Nat} : nmB L i = true ↔ nameB (L.getD i []) = true ∧ hasB (L.take i) (L.getD i []) = false := by
  simp [nmB]
theorem headG_ok {L : List (List UInt8)} : ∀ (n i : Nat), (∀ j, i ≤ j → j < i + n → nmB L j = true) → headG L n i = (0, 0)
  | 0, _, _ => rfl
  | n + 1, i, h => by
    have h1 := nmB_iff.1 (h i (Nat.le_refl _) (by omega))
    rw [headG, if_neg (by rw [h1.1]; decide), if_neg (by rw [h1.2]; decide)]
    exact headG_ok n (i + 1) (fun j h1 h2 => h j (by omega) (by omega))
theorem headG_all {L : List (List UInt8)} : ∀ (n i : Nat), (headG L n i).1 = 0 → ∀ j, i ≤ j → j < i + n → nmB L j = true
  | 0, i, _, j, h1, h2 => by omega
  | n + 1, i, h, j, h1, h2 => by
    rw [headG] at h
    by_cases ha : nameB (L.getD i []) = false
    · rw [if_pos ha] at h
      simp at h
    · rw [if_neg ha] at h
      by_cases hb : hasB (L.take i) (L.getD i []) = true
      · rw [if_pos hb] at h
        simp at h
      · rw [if_neg hb] at h
        by_cases e : j = i
        · subst e
          exact nmB_iff.2 ⟨by simpa using ha, by simpa using hb⟩
        · exact headG_all n (i + 1) h j (by omega) (by omega)
theorem headF_ok {L : List (List UInt8)} (h : (headF L).1 = 0) : 2 ≤ L.length ∧ L.length ≤ 5 ∧ ∀ j, j < L.length → nmB L j = true := by
  unfold headF at h
  by_cases hi : inZ (L.length : Int) 2 5 = true
  · rw [if_pos hi] at h
    have k := inZ_iff.1 hi
    exact ⟨by omega, by omega, fun j hj => headG_all _ 0 h j (by omega) (by omega)⟩
  · rw [if_neg hi] at h
    simp at h
theorem headG_bad1 {L : List (List UInt8)} {n j : Nat} {p : List UInt8} (hj : j < n) (hp : L[j]? = some p) (h : nameB p = false) : headG L (n - j) j = (5, j) := by
  obtain ⟨m, hm⟩ : ∃ m, n - j = m + 1 := ⟨n - j - 1, by omega⟩
  rw [hm, headG, getD_at hp, if_pos h]
theorem headG_bad2 {L : List (List UInt8)} {n j : Nat} {p : List UInt8} (hj : j < n) (hp : L[j]? = some p) (h : nameB p = true) (h2 : hasB (L.take j) p = true) : headG L (n - j) j = (6, j) := by
  obtain ⟨m, hm⟩ : ∃ m, n - j = m + 1 := ⟨n - j - 1, by omega⟩
  rw [hm, headG, getD_at hp, if_neg (by rw [h]; decide), if_pos h2]
theorem headG_next {L : List (List UInt8)} {n j : Nat} {p : List UInt8} (hj : j < n) (hp : L[j]? = some p) (h : nameB p = true) (h2 : hasB (L.take j) p = false) : headG L (n - j) j = headG L (n - (j + 1)) (j + 1) := by
  obtain ⟨m, hm⟩ : ∃ m, n - j = m + 1 := ⟨n - j - 1, by omega⟩
  have e : n - (j + 1) = m := by omega
  rw [hm, e, headG, getD_at hp, if_neg (by rw [h]; decide), if_neg (by rw [h2]; decide)]
end Go.Proofs.Ytgknkjiifcnkpaa
namespace Go.Proofs.Ytgknkjiifcnkpaa
open Go.RowKit

/-- A row of a table's text. -/
def rowTx (r : List Int) (y : Int) : List (List UInt8) := r.map fixT ++ [fixT y]
def rowsTx (T : Tab) (k : Nat) : List (List (List UInt8)) := (T.ns ++ [T.y]) :: (List.range k).map fun i => rowTx (T.rs.getD i []) (T.ys.getD i 0)
/-- The text of a table. -/
def tabT (T : Tab) : List UInt8 := if okT T = true then csvT (rowsTx T T.rs.length) else []
theorem rowsTx_succ (T : Tab) (k : Nat) : rowsTx T (k + 1) = rowsTx T k ++ [rowTx (T.rs.getD k []) (T.ys.getD k 0)] := by
  unfold rowsTx
  rw [List.range_succ, List.map_append, List.cons_append]
  rfl
theorem rowT_bound {b : Nat} : ∀ (r : List (List UInt8)), (∀ p ∈ r, p.length ≤ b) → (rowT r).length ≤ r.length * (2 * b + 3)
  | [], _ => by simp [rowT]
  | [f], h => by
    have h1 := csvF_len f
    have h2 := h f (by simp)
    simp only [rowT, List.length_cons, List.length_nil]
    omega
  | f :: g :: r, h => by
    have ih := rowT_bound (g :: r) (fun p hp => h p (by simp [hp]))
    have h1 := csvF_len f
    have h2 := h f (by simp)
    have e : (rowT (f :: g :: r)).length = (csvF f).length + (1 + (rowT (g :: r)).length) := by
      simp only [rowT, List.length_append, List.length_cons]
      omega
    have e2 : (f :: g :: r).length * (2 * b + 3) = (g :: r).length * (2 * b + 3) + (2 * b + 3) := by
      simp only [List.length_cons, Nat.add_mul, Nat.one_mul]
    rw [e, e2]
    omega
theorem csvT_bound {a b : Nat} : ∀ (L : List (List (List UInt8))), (∀ r ∈ L, r.length ≤ a ∧ ∀ p ∈ r, p.length ≤ b) → (csvT L).length ≤ L.length * (a * (2 * b + 3) + 1)
  | [], _ => by simp [csvT]
  | r :: L, h => by
    have ih := csvT_bound L (fun x hx => h x (by simp [hx]))
    have h1 := rowT_bound r (h r (by simp)).2
    have h2 : r.length * (2 * b + 3) ≤ a * (2 * b + 3) := Nat.mul_le_mul_right _ (h r (by simp)).1
    have e : (csvT (r :: L)).length = (rowT r).length + (1 + (csvT L).length) := by
      simp only [csvT, List.length_append, List.length_cons]
      omega
    have e2 : (r :: L).length * (a * (2 * b + 3) + 1) = L.length * (a * (2 * b + 3) + 1) + (a * (2 * b + 3) + 1) := by
      simp only [List.length_cons, Nat.add_mul, Nat.one_mul]
    rw [e, e2]
    omega
/-- What a right table keeps to. -/
theorem okT_head {T : Tab} (h : okT T = true) : (1 ≤ T.ns.length ∧ T.ns.length ≤ 4) ∧ nameB T.y = true ∧ (1 ≤ T.rs.length ∧ T.rs.length ≤ 40) ∧ T.ys.length = T.rs.length ∧ (∀ i, i < T.ns.length → nameB (T.ns.getD i []) = true ∧ hasB (T.ns.take i) (T.ns.getD i []) = false) ∧ hasB T.ns T.y = false ∧ (∀ i, i < T.rs.length → (T.rs.getD i []).length = T.ns.length ∧ valB (T.ys.getD i 0) = true ∧ (T.rs.getD i []).all valB = true) := by
  simp only [okT, headB, Bool.and_eq_true, inZ_iff, List.all_eq_true, List.mem_range, decide_eq_true_eq, Bool.not_eq_true'] at h
  obtain ⟨⟨⟨⟨⟨⟨h1, h2⟩, h3⟩, h4⟩, h5⟩, h6⟩, h7⟩ := h
  refine ⟨by omega, h2, by omega, h5, fun i hi => ?_, h3, fun i hi => ?_⟩
  · have k := h6 i hi
    simp only [nameAt, Bool.and_eq_true, Bool.not_eq_true'] at k
    exact k
  · have k := h7 i hi
    simp only [rowAt, Bool.and_eq_true, decide_eq_true_eq] at k
    exact ⟨k.1.1, k.1.2, k.2⟩
theorem nameB_len {l : List UInt8} (h : nameB l = true) : 1 ≤ l.length ∧ l.length ≤ 12 := by
  simp only [nameB, Bool.and_eq_true, inZ_iff] at h
  omega
theorem valB_iff {n : Int} : valB n = true ↔ -2147483647 ≤ n ∧ n ≤ 2147483647 := inZ_iff
theorem rowTx_len (r : List Int) (y : Int) : (rowTx r y).length = r.length + 1 := by simp [rowTx]
theorem rowTx_mem {r : List Int} {y : Int} : ∀ p ∈ rowTx r y, p.length ≤ 20 := by
  intro p hp
  rcases List.mem_append.1 hp with hp | hp
  · obtain ⟨z, _, rfl⟩ := List.mem_map.1 hp
    exact fixT_len z
  · obtain rfl := List.mem_singleton.1 hp
    exact fixT_len y
theorem names_mem {T : Tab} (h : okT T = true) : ∀ p ∈ T.ns ++ [T.y], p.length ≤ 12 := by
  have ho := okT_head h
  intro p hp
  rcases List.mem_append.1 hp with hp | hp
  · obtain ⟨j, hj⟩ := List.getElem?_of_mem hp
    have hjl := (List.getElem?_eq_some_iff.1 hj).1
    have k := (ho.2.2.2.2.1 j hjl).1
    rw [List.getD_eq_getElem?_getD, hj] at k
    exact (nameB_len k).2
  · obtain rfl := List.mem_singleton.1 hp
    exact (nameB_len ho.2.1).2
theorem rowsTx_all {T : Tab} (h : okT T = true) {k : Nat} (hk : k ≤ T.rs.length) : ∀ r ∈ rowsTx T k, r.length ≤ 5 ∧ ∀ p ∈ r, p.length ≤ 20 := by
  have ho := okT_head h
  intro r hr
  unfold rowsTx at hr
  rcases List.mem_cons.1 hr with rfl | hr
  · exact ⟨by simp; omega, fun p hp => by have := names_mem h p hp; omega⟩
  · obtain ⟨i, hi, rfl⟩ := List.mem_map.1 hr
    have hi' := List.mem_range.1 hi
    exact ⟨by rw [rowTx_len, (ho.2.2.2.2.2.2 i (by omega)).1]; omega, rowTx_mem⟩
theorem rowsTx_length (T : Tab) (k : Nat) : (rowsTx T k).length = k + 1 := by simp [rowsTx]
theorem tabT_len {T : Tab} (h : okT T = true) : (csvT (rowsTx T T.rs.length)).length ≤ 8856 := by
  have ho := okT_head h
  have hl := rowsTx_length T T.rs.length
  have hn4 : T.rs.length ≤ 40 := ho.2.2.1.2
  have hb := csvT_bound (a := 5) (b := 20) _ (rowsTx_all h (Nat.le_refl _))
  clear ho h
  generalize rowsTx T T.rs.length = L at hb hl ⊢
  generalize T.rs.length = n at hl hn4
  generalize (csvT L).length = m at hb ⊢
  rw [hl] at hb
  omega
end Go.Proofs.Ytgknkjiifcnkpaa
namespace Go.Proofs.Ytgknkjiifcnkpaa
open Go.RowKit

theorem cell_apP {w : World} {b base s n : Nat} {T T' : TypeId} {v : Value} {xs : List Value} {cs : Array Value} (hc : w.heap[b]? = some (.cells cs T' (0, 0))) (ho : w.ownsRow base T s v n xs) (hT : T ≠ T') : v.ownBlock ≠ some b := by
  intro e
  rcases ho.2 with ⟨rfl, _⟩ | ⟨g, cap, cur, rfl, _, hg, _⟩
  · cases e
  · simp only [Value.ownBlock, Option.some.injEq] at e
    subst e
    rw [hc] at hg
    injection hg with hg
    injection hg with _ hg
    exact hT hg.symm
/-- What is kept of a table that is being read: its box holds cs. -/
structure RtO (w2 wr : World) (ob : Nat) (cs : Array Value) (T : Tab) (vs : List Value) (u1 u2 u3 : Value) : Prop where
  bel : Below w2.heap.size w2 wr
  box : wr.heap[ob]? = some (.cells cs 34 (0, 0))
  own : TabOwn wr w2.heap.size T vs u1 u2 u3
  ge : w2.heap.size ≤ ob
theorem RtO.next {w2 wr w' : World} {ob : Nat} {cs : Array Value} {T : Tab} {vs : List Value} {u1 u2 u3 : Value} (h : RtO w2 wr ob cs T vs u1 u2 u3) (hB : Below wr.heap.size wr w') : RtO w2 w' ob cs T vs u1 u2 u3 :=
  ⟨bt h.bel hB, blk_next h.box hB, h.own.below hB, h.ge⟩
theorem RtO.set {w2 wr : World} {ob : Nat} {cs : Array Value} {T : Tab} {vs : List Value} {u1 u2 u3 : Value} (h : RtO w2 wr ob cs T vs u1 u2 u3) (i : Nat) (x : Value) : RtO w2 (wr.setCell ⟨ob, i, none⟩ x) ob (cs.setIfInBounds i x) T vs u1 u2 u3 :=
  ⟨h.bel.setCell h.ge _, heap_setCell_same _ _ _ _ _ _ h.box,
    ⟨ownsRow_setCell_other h.own.1 (own_ne_blk h.own.1 h.box (by decide)) _, ownsRow_setCell_other h.own.2.1 (own_ne_blk h.own.2.1 h.box (by decide)) _, h.own.2.2.1.setBox h.box (by decide) i x, ownsRow_setCell_other h.own.2.2.2.1 (own_ne_blk h.own.2.2.2.1 h.box (by decide)) _, h.own.2.2.2.2⟩, h.ge⟩
/-- A row is appended. -/
theorem RtO.pushR {w2 wr w' : World} {ob lo : Nat} {cs : Array Value} {T : Tab} {vs : List Value} {u1 u2 u3 u2' v : Value} {r : List Int} (h : RtO w2 wr ob cs T vs u1 u2 u3) (hv : wr.ownsRow w2.heap.size 3 1 v r.length (intCells r))
    (h1 : ∀ (j : Nat) x g, vs[j]? = some x → x.ownBlock = some g → g < lo) (h2 : ∀ g, v.ownBlock = some g → lo ≤ g) (h3 : ∀ g, u3.ownBlock = some g → g < lo)
    (hg : wr.grownBy w' u2.ownBlock) (ho' : w'.ownsRow w2.heap.size 24 1 u2' (T.rs.length + 1) (vs ++ [v])) : RtO w2 w' ob cs ⟨T.ns, T.y, T.rs ++ [r], T.ys⟩ (vs ++ [v]) u1 u2' u3 := by
  have hT : 3 ≠ 24 := by decide
  have hT2 : 9 ≠ 24 := by decide
  have hT3 : 24 ≠ 34 := by decide
  have hu : w'.ownsRow w2.heap.size 3 1 v (intCells r).length (intCells r) := by
    rw [intCells_len]
    exact owns_keep hv h.own.2.1 hT hg
  refine ⟨h.bel.grown hg h.bel.size (fun k hk => (h.own.2.1.lt k hk).1), ?_, ⟨owns_keep h.own.1 h.own.2.1 hT2 hg, ?_, ?_, owns_keep h.own.2.2.2.1 h.own.2.1 hT hg, ?_⟩, h.ge⟩
  · rw [hg.block _ (blk_lt h.box) (fun e => cell_apP h.box h.own.2.1 hT3 e.symm)]
    exact h.box
  · show w'.ownsRow w2.heap.size 24 1 u2' (T.rs ++ [r]).length (vs ++ [v])
    rw [List.length_append]
    exact ho'
  · show RowsOwn w' w2.heap.size 3 (vs ++ [v]) ((T.rs ++ [r]).map intCells)
    rw [List.map_append]
    exact (h.own.2.2.1.outer h.own.2.1 hT hg).snoc (lo := lo) hu h1 h2
  · intro j u g hu hb hb3
    have hlt := h3 g hb3
    rcases Nat.lt_trichotomy j vs.length with hj | hj | hj
    · rw [List.getElem?_append_left hj] at hu
      exact h.own.2.2.2.2 j u g hu hb hb3
    · subst hj
      rw [List.getElem?_append_right (Nat.le_refl _), Nat.sub_self] at hu
      obtain rfl : v = u := by simpa using hu
      have := h2 g hb
      omega
    · rw [List.getElem?_eq_none (by simp; omega)] at hu
      cases hu
/-- A target's number is appended. -/
theorem RtO.pushY {w2 wr w' : World} {ob : Nat} {cs : Array Value} {T : Tab} {vs : List Value} {u1 u2 u3 : Value} {g3 n3 c3 : Nat} {x : Int} (h : RtO w2 wr ob cs T vs u1 u2 u3) (hg : wr.grownBy w' u3.ownBlock)
    (ho' : w'.ownsRow w2.heap.size 3 1 (.slice (some ⟨g3, 0, none⟩) n3 c3) (T.ys.length + 1) (intCells T.ys ++ [.int .i64 x])) (hat : u3.ownBlock = some g3 ∨ wr.heap.size ≤ g3) : RtO w2 w' ob cs ⟨T.ns, T.y, T.rs, T.ys ++ [x]⟩ vs u1 u2 (.slice (some ⟨g3, 0, none⟩) n3 c3) := by
  have hT : 24 ≠ 3 := by decide
  have hT2 : 9 ≠ 3 := by decide
  have hT3 : 3 ≠ 34 := by decide
  refine ⟨h.bel.grown hg h.bel.size (fun k hk => (h.own.2.2.2.1.lt k hk).1), ?_, ⟨owns_keep h.own.1 h.own.2.2.2.1 hT2 hg, owns_keep h.own.2.1 h.own.2.2.2.1 hT hg, ?_, ?_, ?_⟩, h.ge⟩
  · rw [hg.block _ (blk_lt h.box) (fun e => cell_apP h.box h.own.2.2.2.1 hT3 e.symm)]
    exact h.box
  · exact h.own.2.2.1.kept hg (fun j u g hu hb e => h.own.2.2.2.2 j u g hu hb e)
  · exact int_row9 ho'
  · intro j u g hu hb e
    simp only [Value.ownBlock, Option.some.injEq] at e
    subst e
    rcases hat with hat | hat
    · exact h.own.2.2.2.2 j u _ hu hb hat
    · have := (h.own.2.2.1.lt hu hb).2
      omega
/-- The same beside a row that is being read. -/
structure RrS (w2 wr : World) (ob lo : Nat) (cs : Array Value) (T : Tab) (vs : List Value) (u1 u2 u3 vr : Value) (row : List Int) : Prop where
  st : RtO w2 wr ob cs T vs u1 u2 u3
  row : wr.ownsRow lo 3 1 vr row.length (intCells row)
  le : w2.heap.size ≤ lo
  hi : lo ≤ wr.heap.size
  l1 : ∀ (j : Nat) x g, vs[j]? = some x → x.ownBlock = some g → g < lo
  l3 : ∀ g, u3.ownBlock = some g → g < lo
theorem RrS.next {w2 wr w' : World} {ob lo : Nat} {cs : Array Value} {T : Tab} {vs : List Value} {u1 u2 u3 vr : Value} {row : List Int} (h : RrS w2 wr ob lo cs T vs u1 u2 u3 vr row) (hB : Below wr.heap.size wr w') : RrS w2 w' ob lo cs T vs u1 u2 u3 vr row :=
  ⟨h.st.next hB, owns_bl h.row hB, h.le, Nat.le_trans h.hi hB.size, h.l1, h.l3⟩
theorem RtO.start {w2 wr : World} {ob : Nat} {cs : Array Value} {T : Tab} {vs : List Value} {u1 u2 u3 : Value} (h : RtO w2 wr ob cs T vs u1 u2 u3) : RrS w2 (wr.alloc (.cells #[] 3)) ob wr.heap.size cs T vs u1 u2 u3 (.slice (some ⟨wr.heap.size, 0, none⟩) 0 0) [] :=
  ⟨h.next (bl_al _ _), World.ownsRow_made wr #[] 0 (Nat.le_refl _) (by unfold maxLen; omega) (by simp), h.bel.size, (bl_al wr _).size, fun j x g hx hb => (h.own.2.2.1.lt hx hb).2, fun g hb => (h.own.2.2.2.1.lt g hb).2⟩
theorem RrS.app {w2 wr w' : World} {ob lo : Nat} {cs : Array Value} {T : Tab} {vs : List Value} {u1 u2 u3 vr vr' : Value} {row : List Int} {x : Int} (h : RrS w2 wr ob lo cs T vs u1 u2 u3 vr row) (hg : wr.grownBy w' vr.ownBlock) (ho' : w'.ownsRow lo 3 1 vr' (row.length + 1) (intCells row ++ [.int .i64 x])) : RrS w2 w' ob lo cs T vs u1 u2 u3 vr' (row ++ [x]) := by
  have hT : 24 ≠ 3 := by decide
  have hT2 : 9 ≠ 3 := by decide
  have hT3 : 3 ≠ 34 := by decide
  have hs := h.st
  refine ⟨⟨hs.bel.grown hg hs.bel.size (fun k hk => Nat.le_trans h.le (h.row.lt k hk).1), ?_, ⟨owns_keep hs.own.1 h.row hT2 hg, owns_keep hs.own.2.1 h.row hT hg, hs.own.2.2.1.kept hg (fun j u g hu hb e => ?_), owns_far hs.own.2.2.2.1 hg (fun g e e3 => ?_), hs.own.2.2.2.2⟩, hs.ge⟩, int_row9 ho', h.le, Nat.le_trans h.hi hg.size, h.l1, h.l3⟩
  · rw [hg.block _ (blk_lt hs.box) (fun e => cell_apP hs.box h.row hT3 e.symm)]
    exact hs.box
  · have := h.l1 j u g hu hb
    have := (h.row.lt g e).1
    omega
  · have := h.l3 g e3
    have := (h.row.lt g e).1
    omega
/-- A block that holds no part of a table. -/
structure TabNe (p : Nat) (vs : List Value) (u1 u2 u3 : Value) : Prop where
  n1 : u1.ownBlock ≠ some p
  n2 : u2.ownBlock ≠ some p
  n3 : u3.ownBlock ≠ some p
  nv : ∀ (j : Nat) u, vs[j]? = some u → u.ownBlock ≠ some p
theorem TabOwn.ne {w : World} {base p : Nat} {T : Tab} {vs : List Value} {u1 u2 u3 : Value} {cs : Array Value} {T' : TypeId} (h : TabOwn w base T vs u1 u2 u3) (hb : w.heap[p]? = some (.cells cs T' (0, 0))) (e1 : 9 ≠ T') (e2 : 24 ≠ T') (e3 : 3 ≠ T') : TabNe p vs u1 u2 u3 := by
  refine ⟨own_ne_blk h.1 hb e1, own_ne_blk h.2.1 hb e2, own_ne_blk h.2.2.2.1 hb e3, fun j u hu => ?_⟩
  have hj := (List.getElem?_eq_some_iff.1 hu).1
  have hC : ∃ c, (T.rs.map intCells)[j]? = some c := ⟨_, List.getElem?_eq_getElem (by rw [← h.2.2.1.1]; exact hj)⟩
  obtain ⟨c, hc⟩ := hC
  exact own_ne_blk (h.2.2.1.2.1 j u c hu hc) hb e3
theorem TabOwn.setN {w : World} {base p : Nat} {T : Tab} {vs : List Value} {u1 u2 u3 : Value} (h : TabOwn w base T vs u1 u2 u3) (ne : TabNe p vs u1 u2 u3) (i : Nat) (x : Value) : TabOwn (w.setCell ⟨p, i, none⟩ x) base T vs u1 u2 u3 :=
  ⟨ownsRow_setCell_other h.1 ne.n1 _, ownsRow_setCell_other h.2.1 ne.n2 _, ⟨h.2.2.1.1, fun j u c hu hc => ownsRow_setCell_other (h.2.2.1.2.1 j u c hu hc) (ne.nv j u hu) _, h.2.2.1.2.2⟩, ownsRow_setCell_other h.2.2.2.1 ne.n3 _, h.2.2.2.2⟩
end Go.Proofs.Ytgknkjiifcnkpaa
namespace Go.Proofs.Ytgknkjiifcnkpaa
open Go.RowKit

/-- Rows of numbers that lie in A. -/
def OwnII (A : Nat → Prop) (w : World) (v : Value) (L : List (List Int)) : Prop :=
  ∃ vs : List Value, w.ownsRow 0 24 1 v L.length vs ∧ RowsOwn w 0 3 vs (L.map intCells) ∧ (∀ g, v.ownBlock = some g → A g) ∧ (∀ (j : Nat) u g, vs[j]? = some u → u.ownBlock = some g → A g)
theorem ownII_of {w : World} {B : Nat} {v : Value} {L : List (List Int)} (h : IIOwn w B v L) : OwnII (Iv B w.heap.size) w v L := by
  obtain ⟨vs, ho, hr⟩ := h
  exact ⟨vs, World.ownsRow.mono ho (Nat.zero_le _), hr.mono (Nat.zero_le _), fun g e => ho.lt g e, fun j u g hu e => hr.lt hu e⟩
theorem rows_blk {w w' : World} {base : Nat} {T : TypeId} {vs : List Value} {C : List (List Value)} (h : RowsOwn w base T vs C) (hb : ∀ (j : Nat) u g, vs[j]? = some u → u.ownBlock = some g → w'.heap[g]? = w.heap[g]?) : RowsOwn w' base T vs C :=
  ⟨h.1, fun j u c hu hc => own_blk (h.2.1 j u c hu hc) (fun g e => hb j u g hu e), h.2.2⟩
theorem OwnII.below {A : Nat → Prop} {w w' : World} {v : Value} {L : List (List Int)} (h : OwnII A w v L) (hB : Below w.heap.size w w') : OwnII A w' v L := by
  obtain ⟨vs, ho, hr, h1, h2⟩ := h
  exact ⟨vs, owns_bl ho hB, hr.below hB, h1, h2⟩
theorem OwnII.chg {A A' : Nat → Prop} {w w' : World} {v : Value} {L : List (List Int)} (h : OwnII A w v L) (hC : Chg A' w w') (hd : ∀ b, A b → ¬ A' b) : OwnII A w' v L := by
  obtain ⟨vs, ho, hr, h1, h2⟩ := h
  exact ⟨vs, own_blk ho (fun g e => hC.block g (ho.lt g e).2 (hd g (h1 g e))), rows_blk hr (fun j u g hu e => hC.block g (hr.lt hu e).2 (hd g (h2 j u g hu e))), h1, h2⟩
theorem OwnII.mono {A A' : Nat → Prop} {w : World} {v : Value} {L : List (List Int)} (h : OwnII A w v L) (hA : ∀ b, A b → A' b) : OwnII A' w v L := by
  obtain ⟨vs, ho, hr, h1, h2⟩ := h
  exact ⟨vs, ho, hr, fun g e => hA g (h1 g e), fun j u g hu e => hA g (h2 j u g hu e)⟩
theorem OwnII.ii {A : Nat → Prop} {w : World} {v : Value} {L : List (List Int)} (h : OwnII A w v L) : IIOwn w 0 v L := by
  obtain ⟨vs, ho, hr, _⟩ := h
  exact ⟨vs, ho, hr⟩
theorem OwnII.setBox {A : Nat → Prop} {w : World} {cb : Nat} {v : Value} {L : List (List Int)} {T' : TypeId} {cs : Array Value} (h : OwnII A w v L) (hb : w.heap[cb]? = some (.cells cs T' (0, 0))) (h1 : (24 : TypeId) ≠ T') (h2 : (3 : TypeId) ≠ T') (i : Nat) (x : Value) : OwnII A (w.setCell ⟨cb, i, none⟩ x) v L := by
  obtain ⟨vs, ho, hr, k1, k2⟩ := h
  exact ⟨vs, ownsRow_setCell_other ho (own_ne_blk ho hb h1) _, hr.setBox hb h2 i x, k1, k2⟩
theorem OwnII.lt {A : Nat → Prop} {w : World} {v : Value} {L : List (List Int)} (h : OwnII A w v L) : OwnII (fun b => A b ∧ b < w.heap.size) w v L := by
  obtain ⟨vs, ho, hr, h1, h2⟩ := h
  exact ⟨vs, ho, hr, fun g e => ⟨h1 g e, (ho.lt g e).2⟩, fun j u g hu e => ⟨h2 j u g hu e, (hr.lt hu e).2⟩⟩
def BdII (L : List (List Int)) : Prop := L.length ≤ 1048576 ∧ ∀ r ∈ L, r.length ≤ 140737488355328
theorem OwnII.row {A : Nat → Prop} {w : World} {v : Value} {L : List (List Int)} (h : OwnII A w v L) (hb : BdII L) : IIRow w v L := h.ii.row (by have := hb.1; omega) (fun r hr => by have := hb.2 r hr; omega)
def cntII (L : List (List Int)) : Nat := (L.map List.length).sum
def mkII (L : List (List Int)) (k : Nat) : List (List Int) := marksLI k (L.map List.length)
theorem marksLI_row : ∀ (ns : List Nat) (k : Nat) (m : Nat), (∀ n ∈ ns, n ≤ m) → ∀ r ∈ marksLI k ns, r.length ≤ m
  | [], _, _, _, r, h => by simp [marksLI] at h
  | n :: t, k, m, hn, r, h => by
    rw [marksLI] at h
    rcases List.mem_cons.1 h with rfl | h
    · rw [marksI_len]
      exact hn n (by simp)
    · exact marksLI_row t (k + n) m (fun x hx => hn x (by simp [hx])) r h
theorem mkII_len (L : List (List Int)) (k : Nat) : (mkII L k).length = L.length := by rw [mkII, marksLI_len, List.length_map]
theorem BdII.mk {L : List (List Int)} {k : Nat} (h : BdII L) : BdII (mkII L k) := by
  refine ⟨by rw [mkII_len]; exact h.1, marksLI_row _ _ _ fun n hn => ?_⟩
  obtain ⟨r, hr, rfl⟩ := List.mem_map.1 hn
  exact h.2 r hr
def FitII (L : List (List Int)) : Prop := L.length + szLI L ≤ 1048576
theorem FitII.bd {L : List (List Int)} (h : FitII L) : BdII L := by
  unfold FitII at h
  exact ⟨by omega, fun r hr => by have := szLI_mem hr; omega⟩
theorem toX_II (L : List (List Int)) (u : Value) (w : World) (h : IIRow w u L) (hf : FitII L) :
    Calls Try.prog 70 #[u] w fun e w' => (∃ v, e = .returned v ∧ OwnII (Iv w.heap.size w'.heap.size) w' v L) ∧ Below w.heap.size w w' := by
  unfold FitII at hf
  exact (toII w u L h (by omega) (fun r hr => by have := szLI_mem hr; omega)).mono fun _ _ ⟨v, he, ho, hB⟩ => ⟨⟨v, he, ownII_of ho⟩, hB⟩
theorem eqX_II (L : List (List Int)) (u v : Value) (w : World) (h1 : IIRow w u L) (h2 : IIRow w v L) :
    Calls Try.prog 71 #[u, v] w fun e w' => e = .returned (.bool true) ∧ Below w.heap.size w w' :=
  (eqII w u v L h1 h2).mono fun _ _ ⟨he, q, hq⟩ => ⟨he, hq ▸ below_drewN2 (Below.refl _ _) q⟩
theorem markX_II (A : Nat → Prop) (L : List (List Int)) (v : Value) (k : Nat) (w : World) (h : OwnII A w v L) (hl : k + cntII L ≤ 140737488355328) (hb : L.length ≤ 1048576) :
    Calls Try.prog 74 #[v, .int .i64 k] w fun e w' => e = .returned (.int .i64 ((k + cntII L : Nat) : Int)) ∧ OwnII A w' v (mkII L k) ∧ Chg A w w' := by
  obtain ⟨vs, ho, hr, h1, h2⟩ := h
  refine (markII w 0 v vs L k ho hr (fun a => Chg A w a) (fun j u a b hu hg hS => hS.trans (chg_of_grown hg (fun g e => h2 j u g hu e))) (Chg.refl _ _) (by omega) hl).mono fun e w' ⟨he, ⟨k1, k2⟩, hS⟩ => ⟨he, ⟨vs, ?_, k2, h1, h2⟩, hS⟩
  rw [mkII_len]
  exact k1
theorem heldX_II (L : List (List Int)) (v : Value) (k : Nat) (w : World) (h : IIRow w v (mkII L k)) (hl : k + cntII L ≤ 140737488355328) (hb : L.length ≤ 1048576) :
    Calls Try.prog 76 #[v, .int .i64 k] w fun e w' => e = .returned (.int .i64 ((k + cntII L : Nat) : Int)) ∧ Below w.heap.size w w' :=
  heldII w v (L.map List.length) k h (by rw [List.length_map]; omega) hl

/-- A grid that lies in A. -/
def OwnGr (A : Nat → Prop) (w : World) (v1 v2 : Value) (G : Grd) : Prop :=
  ∃ A1 A2 : Nat → Prop, (∀ b, A1 b → A b) ∧ (∀ b, A2 b → A b) ∧ (∀ b, A1 b → ¬ A2 b) ∧ OwnII A1 w v1 G.cs ∧ OwnII A2 w v2 G.bs
theorem OwnGr.below {A : Nat → Prop} {w w' : World} {v1 v2 : Value} {G : Grd} (h : OwnGr A w v1 v2 G) (hB : Below w.heap.size w w') : OwnGr A w' v1 v2 G := by
  obtain ⟨A1, A2, k1, k2, k3, o1, o2⟩ := h
  exact ⟨A1, A2, k1, k2, k3, o1.below hB, o2.below hB⟩
theorem OwnGr.chg {A A' : Nat → Prop} {w w' : World} {v1 v2 : Value} {G : Grd} (h : OwnGr A w v1 v2 G) (hC : Chg A' w w') (hd : ∀ b, A b → ¬ A' b) : OwnGr A w' v1 v2 G := by
  obtain ⟨A1, A2, k1, k2, k3, o1, o2⟩ := h
  exact ⟨A1, A2, k1, k2, k3, o1.chg hC (fun b hb => hd b (k1 b hb)), o2.chg hC (fun b hb => hd b (k2 b hb))⟩
def BdGr (G : Grd) : Prop := BdII G.cs ∧ BdII G.bs
theorem OwnGr.row {A : Nat → Prop} {w : World} {v1 v2 : Value} {G : Grd} (h : OwnGr A w v1 v2 G) (hb : BdGr G) : GrdRow w G v1 v2 := by
  obtain ⟨A1, A2, k1, k2, k3, o1, o2⟩ := h
  exact ⟨o1.row hb.1, o2.row hb.2⟩
def cntGr (G : Grd) : Nat := cntII G.cs + cntII G.bs
def mkGr (G : Grd) (k : Nat) : Grd := ⟨mkII G.cs k, mkII G.bs (k + cntII G.cs)⟩
theorem BdGr.mk {G : Grd} {k : Nat} (h : BdGr G) : BdGr (mkGr G k) := ⟨h.1.mk, h.2.mk⟩
def FitGr (G : Grd) : Prop := szGr G ≤ 1048576
theorem FitGr.parts {G : Grd} (h : FitGr G) : FitII G.cs ∧ FitII G.bs := by
  unfold FitGr szGr at h
  exact ⟨by unfold FitII; omega, by unfold FitII; omega⟩
theorem FitGr.bd {G : Grd} (h : FitGr G) : BdGr G := ⟨h.parts.1.bd, h.parts.2.bd⟩
theorem FitGr.cnt {G : Grd} (h : FitGr G) : cntGr G ≤ 1048576 := by
  unfold FitGr szGr at h
  have e1 : cntII G.cs = szLI G.cs := rfl
  have e2 : cntII G.bs = szLI G.bs := rfl
  unfold cntGr
  omega
theorem szok_Gr (G : Grd) (u1 u2 : Value) (w : World) (h : GrdRow w G u1 u2) (left : Nat) (hleft : left ≤ 1048576) (m : Nat) (hm : left = szGr G + m) :
    Calls Try.prog 38 #[.agg #[u1, u2], .int .i64 left] w fun e w' => e = .returned (.int .i64 (m : Int)) ∧ Below w.heap.size w w' := szGrid_ok G u1 u2 w h left hleft m hm
theorem szno_Gr (G : Grd) (u1 u2 : Value) (w : World) (h : GrdRow w G u1 u2) (left : Nat) (hleft : left ≤ 1048576) (hf : left < szGr G) :
    Calls Try.prog 38 #[.agg #[u1, u2], .int .i64 left] w fun e w' => e = .returned (.int .i64 (-1)) ∧ Below w.heap.size w w' := szGrid_no G u1 u2 w h left hleft hf
theorem eqX_Gr (G : Grd) (u1 u2 v1 v2 : Value) (w : World) (h : GrdRow w G u1 u2) (k : GrdRow w G v1 v2) :
    Calls Try.prog 33 #[.agg #[u1, u2], .agg #[v1, v2]] w fun e w' => e = .returned (.bool true) ∧ Below w.heap.size w w' := eqGr G u1 u2 v1 v2 w h k
set_option maxRecDepth 100000 in
theorem markX_Gr (A : Nat → Prop) (G : Grd) (u1 u2 : Value) (k : Nat) (w : World) (h : OwnGr A w u1 u2 G) (hl : k + cntGr G ≤ 140737488355328) (hb : BdGr G) :
    Calls Try.prog 36 #[.agg #[u1, u2], .int .i64 k] w fun e w' => e = .returned (.int .i64 ((k + cntGr G : Nat) : Int)) ∧ OwnGr A w' u1 u2 (mkGr G k) ∧ Chg A w w' := by
  obtain ⟨a1, c1, a2, c2, rfl, rfl⟩ := (h.row hb).form
  obtain ⟨A1, A2, k1, k2, k3, o1, o2⟩ := h
  unfold cntGr at hl ⊢
  have hA := bl_al w (.cells #[.slice a1 G.cs.length c1, .slice a2 G.bs.length c2] 38)
  have hx := alloc_blk w #[.slice a1 G.cs.length c1, .slice a2 G.bs.length c2] 38
  have p0 := cell_blk hx 0
  have p1 := cell_blk hx 1
  have lp := blk_lt hx
  obtain ⟨n1, e1⟩ : ∃ n, k + cntII G.cs = n := ⟨_, rfl⟩
  have E1 := Lib.hid e1
  have HB := Lib.hid hb
  have O1 := Lib.hid (o1.lt.below hA)
  have O2 := Lib.hid (o2.lt.below hA)
  have HX := Lib.hid hx
  have HA := Lib.hid hA
  have K := Lib.hid (And.intro k1 (And.intro k2 k3))
  have L1 : Hid (k + cntII G.cs ≤ 140737488355328) := Lib.hid (by omega)
  have L2 : Hid (n1 + cntII G.bs ≤ 140737488355328) := Lib.hid (by omega)
  have hsa := sz_alloc w (.cells #[.slice a1 G.cs.length c1, .slice a2 G.bs.length c2] 38)
  have HS := Lib.hid hsa
  clear hl o1 o2 hx hA k1 k2 k3 e1 hb hsa
  go_enter Try.func36, Try.ntmps36
  go_wp2_with fail
  refine (markX_II _ G.cs _ k _ O1.out L1.out HB.out.1.1).mono ?_
  rintro e w1 ⟨he, q1, hC1⟩
  rw [E1.out] at he
  subst he
  have hx1 := Chg.blk HX.out hC1 (fun x => Nat.lt_irrefl _ x.2)
  have Q1 := Lib.hid q1
  have Q2 := Lib.hid (O2.out.chg hC1 (fun b hb hb2 => K.out.2.2 b hb2.1 hb.1))
  have C1 := Lib.hid hC1
  clear p0 p1 lp q1 hC1
  have p1 := cell_blk hx1 1
  have lp := blk_lt hx1
  clear hx1
  go_wp2_with fail
  refine (markX_II _ G.bs _ n1 _ Q2.out L2.out HB.out.2.1).mono ?_
  rintro e w2 ⟨he, q2, hC2⟩
  have hfin : n1 + cntII G.bs = k + (cntII G.cs + cntII G.bs) := by have := E1.out; omega
  rw [hfin] at he
  subst he
  have HC2 := Lib.hid hC2
  have HQ2 := Lib.hid q2
  clear p1 lp q2 hC2 hfin
  go_wp2_with fail
  go_ret
  refine ⟨rfl, ⟨A1, A2, K.out.1, K.out.2.1, K.out.2.2, (Q1.out.chg HC2.out (fun b hb hb2 => K.out.2.2 b hb.1 hb2.1)).mono (fun b hb => hb.1), ?_⟩, ?_⟩
  · have := HQ2.out.mono (A' := A2) (fun b hb => hb.1)
    rw [← E1.out] at this
    exact this
  · exact (chg_of_below HA.out).trans ((C1.out.mono (fun b hb => K.out.1 b hb.1)).trans (HC2.out.mono (fun b hb => K.out.2.1 b hb.1)))
set_option maxRecDepth 100000 in
theorem heldX_Gr (G : Grd) (u1 u2 : Value) (k : Nat) (w : World) (h : GrdRow w (mkGr G k) u1 u2) (hl : k + cntGr G ≤ 140737488355328) (hb : BdGr G) :
    Calls Try.prog 37 #[.agg #[u1, u2], .int .i64 k] w fun e w' => e = .returned (.int .i64 ((k + cntGr G : Nat) : Int)) ∧ Below w.heap.size w w' := by
  obtain ⟨a1, m1, c1, rfl⟩ : ∃ a m c, u1 = .slice a m c := by
    obtain ⟨a, c, _, _, h1, _⟩ := h.form
    exact ⟨a, _, c, h1⟩
  obtain ⟨a2, m2, c2, rfl⟩ : ∃ a m c, u2 = .slice a m c := by
    obtain ⟨_, _, a, c, _, h1⟩ := h.form
    exact ⟨a, _, c, h1⟩
  unfold cntGr at hl ⊢
  have hA := bl_al w (.cells #[.slice a1 m1 c1, .slice a2 m2 c2] 38)
  have hx := alloc_blk w #[.slice a1 m1 c1, .slice a2 m2 c2] 38
  have p0 := cell_blk hx 0
  have p1 := cell_blk hx 1
  have lp := blk_lt hx
  obtain ⟨n1, q1⟩ : ∃ n, k + cntII G.cs = n := ⟨_, rfl⟩
  obtain ⟨n2, q2⟩ : ∃ n, n1 + cntII G.bs = n := ⟨_, rfl⟩
  have E1 := Lib.hid q1
  have E2 := Lib.hid q2
  have z1 : ¬ (n1 : Int) < 0 := by omega
  have z2 : ¬ (n2 : Int) < 0 := by omega
  have h1 := Lib.hid (h.1.below hA)
  have h2 : Hid (IIRow _ _ (mkII G.bs n1)) := Lib.hid (by
    have := h.2.below hA
    unfold mkGr at this
    rwa [q1] at this)
  have HX := Lib.hid hx
  have HA := Lib.hid hA
  have HB := Lib.hid hb
  have L1 : Hid (k + cntII G.cs ≤ 140737488355328) := Lib.hid (by omega)
  have L2 : Hid (n1 + cntII G.bs ≤ 140737488355328) := Lib.hid (by omega)
  clear hl hx hA h hb q1 q2
  go_enter Try.func37, Try.ntmps37
  go_wp2_with fail
  refine (heldX_II G.cs _ k _ h1.out L1.out HB.out.1.1).mono ?_
  rintro e w1 ⟨he, hB1⟩
  rw [E1.out] at he
  subst he
  have hx1 := blk_next HX.out hB1
  have H2 := Lib.hid (h2.out.below hB1)
  have B1 := Lib.hid (bt HA.out hB1)
  clear p0 p1 lp hB1 h1 h2
  have p1 := cell_blk hx1 1
  have lp := blk_lt hx1
  clear hx1
  go_wp2_with fail
  refine (heldX_II G.bs _ n1 _ H2.out L2.out HB.out.2.1).mono ?_
  rintro e w2 ⟨he, hB2⟩
  rw [E2.out] at he
  subst he
  have HB2 := Lib.hid (bt B1.out hB2)
  clear p1 lp hB2
  go_wp2_with fail
  go_ret
  refine ⟨?_, HB2.out⟩
  have f1 := E1.out
  have f2 := E2.out
  exact congrArg Ending.returned (congrArg (Value.int .i64) (by omega))
set_option maxRecDepth 100000 in
theorem toX_Gr (G : Grd) (u1 u2 : Value) (w : World) (h : GrdRow w G u1 u2) (hs : FitGr G) :
    Calls Try.prog 39 #[.agg #[u1, u2]] w fun e w' => (∃ v1 v2, e = .returned (.agg #[v1, v2]) ∧ OwnGr (Iv w.heap.size w'.heap.size) w' v1 v2 G) ∧ Below w.heap.size w w' := by
  obtain ⟨a1, c1, a2, c2, rfl, rfl⟩ := h.form
  have hz := szGr_le hs
  clear hs
  have hA := bt (bt (bl_al w (.cells #[.slice a1 G.cs.length c1, .slice a2 G.bs.length c2] 52)) (bl_al (w.alloc (.cells #[.slice a1 G.cs.length c1, .slice a2 G.bs.length c2] 52)) (.cells #[.slice none 0 0, .slice none 0 0] 38))) (bl_al ((w.alloc (.cells #[.slice a1 G.cs.length c1, .slice a2 G.bs.length c2] 52)).alloc (.cells #[.slice none 0 0, .slice none 0 0] 38)) (.cells #[.slice none 0 0, .slice none 0 0] 38))
  have hT0 : GbS (((w.alloc (.cells #[.slice a1 G.cs.length c1, .slice a2 G.bs.length c2] 52)).alloc (.cells #[.slice none 0 0, .slice none 0 0] 38)).alloc (.cells #[.slice none 0 0, .slice none 0 0] 38)) w.heap.size #[.slice a1 G.cs.length c1, .slice a2 G.bs.length c2] #[.slice none 0 0, .slice none 0 0] #[.slice none 0 0, .slice none 0 0] := by
    refine ⟨blk_al (blk_al (alloc_blk w _ _) _) _, ?_, ?_⟩
    · have := blk_al (alloc_blk (w.alloc (.cells #[.slice a1 G.cs.length c1, .slice a2 G.bs.length c2] 52)) #[.slice none 0 0, .slice none 0 0] 38) (.cells #[.slice none 0 0, .slice none 0 0] 38)
      simpa using this
    · have := alloc_blk ((w.alloc (.cells #[.slice a1 G.cs.length c1, .slice a2 G.bs.length c2] 52)).alloc (.cells #[.slice none 0 0, .slice none 0 0] 38)) #[.slice none 0 0, .slice none 0 0] 38
      simpa using this
  have h1 := h.1.below hA
  have HA := Lib.hid hA
  have HT0 := Lib.hid hT0
  have HH := Lib.hid h
  have hsz := hA.size
  clear hA h
  have p0 := cell_blk hT0.pb 0
  have pf0 := free_blk hT0.pb 0
  have p1 := cell_blk hT0.pb 1
  have pf1 := free_blk hT0.pb 1
  have q0 := cell_blk hT0.lb 0
  have qf0 := free_blk hT0.lb 0
  have q1 := cell_blk hT0.lb 1
  have qf1 := free_blk hT0.lb 1
  have r0 := cell_blk hT0.rb 0
  have rf0 := free_blk hT0.rb 0
  have r1 := cell_blk hT0.rb 1
  have rf1 := free_blk hT0.rb 1
  have lp := blk_lt hT0.pb
  have lq := blk_lt hT0.lb
  have lr := blk_lt hT0.rb
  clear hT0
  go_enter Try.func39, Try.ntmps39
  go_wp2_with fail
  refine (toII _ _ G.cs h1 hz.1.1 hz.1.2).mono ?_
  rintro e w1 ⟨v1, rfl, ho1, hB1⟩
  obtain ⟨b1, d1, rfl⟩ := ho1.form
  have hT1 := HT0.out.next hB1
  have hC1 := bt HA.out hB1
  have o1 := (ownII_of ho1).setBox hT1.lb (by decide) (by decide) 0 (.slice b1 G.cs.length d1)
  have hT2 := hT1.setL 0 (.slice b1 G.cs.length d1)
  have hC2 := hC1.setCell (p := ⟨w.heap.size + 1 + 1, 0, none⟩) (by simp; omega) (.slice b1 G.cs.length d1)
  have h2 := HH.out.2.below hC2
  clear p0 p1 q0 q1 r0 r1 pf0 pf1 qf0 qf1 rf0 rf1 lp lq lr h1
  have p0 := cell_blk hT1.pb 0
  have pf0 := free_blk hT1.pb 0
  have p1 := cell_blk hT1.pb 1
  have pf1 := free_blk hT1.pb 1
  have q0 := cell_blk hT1.lb 0
  have qf0 := free_blk hT1.lb 0
  have q1 := cell_blk hT1.lb 1
  have qf1 := free_blk hT1.lb 1
  have r0 := cell_blk hT1.rb 0
  have rf0 := free_blk hT1.rb 0
  have r1 := cell_blk hT1.rb 1
  have rf1 := free_blk hT1.rb 1
  have lp := blk_lt hT1.pb
  have lq := blk_lt hT1.lb
  have lr := blk_lt hT1.rb
  have HT2 := Lib.hid hT2
  have O1 := Lib.hid o1
  have HC2 := Lib.hid hC2
  have hsz2 := hC2.size
  clear hT1 hT2 o1 hC1 hC2 ho1 hB1
  go_wp2_with fail
  refine (toII _ _ G.bs h2 hz.2.1 hz.2.2).mono ?_
  rintro e w2 ⟨v2, rfl, ho2, hB2⟩
  obtain ⟨b2, d2, rfl⟩ := ho2.form
  have hT3 := HT2.out.next hB2
  have hC3 := bt HC2.out hB2
  have x1 := ((O1.out.below hB2).setBox hT3.lb (by decide) (by decide) 1 (.slice b2 G.bs.length d2))
  have x2 := ((ownII_of ho2).setBox hT3.lb (by decide) (by decide) 1 (.slice b2 G.bs.length d2))
  have hT4 := hT3.setL 1 (.slice b2 G.bs.length d2)
  have y1 := x1.setBox hT4.rb (by decide) (by decide) 0 (.slice b1 G.cs.length d1)
  have y2 := x2.setBox hT4.rb (by decide) (by decide) 0 (.slice b1 G.cs.length d1)
  have hT5 := hT4.setR 0 (.slice b1 G.cs.length d1)
  have z1 := y1.setBox hT5.rb (by decide) (by decide) 1 (.slice b2 G.bs.length d2)
  have z2 := y2.setBox hT5.rb (by decide) (by decide) 1 (.slice b2 G.bs.length d2)
  have hC6 := ((hC3.setCell (p := ⟨w.heap.size + 1 + 1, 1, none⟩) (by simp; omega) (.slice b2 G.bs.length d2)).setCell (p := ⟨w.heap.size + 1, 0, none⟩) (by simp) (.slice b1 G.cs.length d1)).setCell (p := ⟨w.heap.size + 1, 1, none⟩) (by simp) (.slice b2 G.bs.length d2)
  clear p0 p1 q0 q1 r0 r1 pf0 pf1 qf0 qf1 rf0 rf1 lp lq lr h2
  have p0 := cell_blk hT3.pb 0
  have pf0 := free_blk hT3.pb 0
  have p1 := cell_blk hT3.pb 1
  have pf1 := free_blk hT3.pb 1
  have q0 := cell_blk hT3.lb 0
  have qf0 := free_blk hT3.lb 0
  have q1 := cell_blk hT3.lb 1
  have qf1 := free_blk hT3.lb 1
  have r0 := cell_blk hT3.rb 0
  have rf0 := free_blk hT3.rb 0
  have r1 := cell_blk hT3.rb 1
  have rf1 := free_blk hT3.rb 1
  have lp := blk_lt hT3.pb
  have lq := blk_lt hT3.lb
  have lr := blk_lt hT3.rb
  have A1 : Hid (w.heap.size ≤ (((w.alloc (.cells #[.slice a1 G.cs.length c1, .slice a2 G.bs.length c2] 52)).alloc (.cells #[.slice none 0 0, .slice none 0 0] 38)).alloc (.cells #[.slice none 0 0, .slice none 0 0] 38)).heap.size ∧ w1.heap.size ≤ w2.heap.size ∧ w.heap.size ≤ w1.heap.size) := Lib.hid ⟨hsz, by have := hB2.size; simpa only [World.size_setCell] using this, by have := hsz2; simpa using this⟩
  have Z1 := Lib.hid z1
  have Z2 := Lib.hid z2
  have HC6 := Lib.hid hC6
  clear hT3 hT4 hT5 x1 x2 y1 y2 z1 z2 hC3 hC6 ho2 hB2
  go_wp2_with fail
  refine bodyPost_ret (v := .agg #[.slice b1 G.cs.length d1, .slice b2 G.bs.length d2]) ?_ rfl ⟨⟨_, _, rfl, _, _, ?_, ?_, ?_, Z1.out, Z2.out⟩, HC6.out⟩
  · rw [res_one rfl]
    go_simp
  · intro b hb
    have h1 := A1.out
    have h2 := hb.1
    have h3 := hb.2
    refine ⟨by omega, ?_⟩
    simp only [World.size_setCell]
    omega
  · intro b hb
    have h1 := A1.out
    have h2 := hb.1
    have h3 := hb.2
    simp only [World.size_setCell] at h2
    refine ⟨by omega, ?_⟩
    simp only [World.size_setCell]
    omega
  · intro b hb hb2
    have h2 := hb.2
    have h3 := hb2.1
    simp only [World.size_setCell] at h3
    omega
end Go.Proofs.Ytgknkjiifcnkpaa
namespace Go.Proofs.Ytgknkjiifcnkpaa
open Go.RowKit

/-- The cursor stands where others are written. -/
theorem Cur.grownT {W w w' : World} {p : Nat} {r : Option Nat} (h : Cur W w p) (hg : w.grownBy w' r) (hr : ∀ k, r = some k → W.heap.size ≤ k ∧ k ≠ p) : Cur W w' p := by
  have hlt := h.lt
  obtain ⟨hp, hB, v, n, i, x, hb, hi, h0, h1, hblk⟩ := h
  exact ⟨hp, hB.grown hg hB.size (fun k hk => (hr k hk).1), v, n, i, x, hb, hi, h0, h1, (hg.block p hlt (fun e => (hr p e.symm).2 rfl)).trans hblk⟩
theorem Cur.blkT {W w : World} {p : Nat} (h : Cur W w p) : ∃ cs, w.heap[p]? = some (.cells cs 80 (0, 0)) := by
  obtain ⟨_, _, v, n, i, x, _, _, _, _, hblk⟩ := h
  exact ⟨_, hblk⟩
theorem blk_far {w w' : World} {b p : Nat} {cs cs' : Array Value} {T T' : TypeId} (h : w.heap[b]? = some (.cells cs T (0, 0))) (hp : w.heap[p]? = some (.cells cs' T' (0, 0))) (hT : T ≠ T') (hg : w.grownBy w' (some p)) : w'.heap[b]? = some (.cells cs T (0, 0)) := by
  rw [hg.block b (blk_lt h) (fun e => ?_)]
  · exact h
  · obtain rfl := Option.some.inj e
    rw [h] at hp
    injection hp with hp
    injection hp with _ hp
    exact hT hp
/-- A draw leaves a table be. -/
theorem TabOwn.draw {W wr w' : World} {p base : Nat} {T : Tab} {vs : List Value} {u1 u2 u3 : Value} (h : TabOwn wr base T vs u1 u2 u3) (hc : Cur W wr p) (hg : wr.grownBy w' (some p)) : TabOwn w' base T vs u1 u2 u3 := by
  obtain ⟨cs, hb⟩ := hc.blkT
  have ne := h.ne hb (by decide) (by decide) (by decide)
  exact ⟨owns_far h.1 hg (fun g e => by obtain rfl := Option.some.inj e; exact ne.n1), owns_far h.2.1 hg (fun g e => by obtain rfl := Option.some.inj e; exact ne.n2), h.2.2.1.kept hg (fun j u g hu hb e => ne.nv j u hu (by rw [hb, e])), owns_far h.2.2.2.1 hg (fun g e => by obtain rfl := Option.some.inj e; exact ne.n3), h.2.2.2.2⟩
/-- A world cut off at so many blocks: a base for what is kept of tables. -/
def cutW (w : World) (B : Nat) : World := { w with heap := w.heap.extract 0 B }
theorem cut_size {w : World} {B : Nat} (h : B ≤ w.heap.size) : (cutW w B).heap.size = B := by
  simp [cutW, Nat.min_eq_left h]
theorem cut_below {w : World} {B : Nat} (h : B ≤ w.heap.size) : Below (cutW w B).heap.size (cutW w B) w := by
  rw [cut_size h]
  refine ⟨rfl, rfl, rfl, by rw [cut_size h]; exact h, fun i hi => ?_⟩
  simp [cutW, hi, h]
theorem grownBy_farT {a b c : World} {p : Nat} {r : Option Nat} (h : a.grownBy b (some p)) (k : b.grownBy c r) (hr : ∀ g, r = some g → a.heap.size ≤ g) : a.grownBy c (some p) :=
  ⟨k.os.trans h.os, k.tape.trans h.tape, k.output.trans h.output, Nat.le_trans h.size k.size, fun i hi hne => (k.block i (Nat.lt_of_lt_of_le hi h.size) (fun e => by have := hr i e.symm; omega)).trans (h.block i hi hne)⟩
/-- What is kept while a table is drawn: rb is the result's box. -/
structure DrT (W w0 wr : World) (p rb ob : Nat) (cs : Array Value) (T : Tab) (vs : List Value) (u1 u2 u3 : Value) : Prop where
  cur : Cur W wr p
  grown : w0.grownBy wr (some p)
  box : wr.heap[ob]? = some (.cells cs 34 (0, 0))
  own : TabOwn wr w0.heap.size T vs u1 u2 u3
  oge : w0.heap.size ≤ ob
  res : wr.heap[rb]? = some (.cells #[.slice none 0 0, .string ⟨#[]⟩, .slice none 0 0, .slice none 0 0] 34 (0, 0))
  rge : w0.heap.size ≤ rb
  ne : rb ≠ ob
  hW : W.heap.size ≤ w0.heap.size
/-- .. and the row that is drawn. -/
structure DrR (W w0 wr : World) (p rb ob lo : Nat) (cs : Array Value) (T : Tab) (vs : List Value) (u1 u2 u3 vr : Value) (row : List Int) : Prop where
  st : DrT W w0 wr p rb ob cs T vs u1 u2 u3
  row : wr.ownsRow lo 3 1 vr row.length (intCells row)
  le : w0.heap.size ≤ lo
  hi : lo ≤ wr.heap.size
  l1 : ∀ (j : Nat) x g, vs[j]? = some x → x.ownBlock = some g → g < lo
  l3 : ∀ g, u3.ownBlock = some g → g < lo
theorem DrR.cur {W w0 wr : World} {p rb ob lo : Nat} {cs : Array Value} {T : Tab} {vs : List Value} {u1 u2 u3 vr : Value} {row : List Int} (h : DrR W w0 wr p rb ob lo cs T vs u1 u2 u3 vr row) : Cur W wr p := h.st.cur
theorem DrT.rt {W w0 wr : World} {p rb ob : Nat} {cs : Array Value} {T : Tab} {vs : List Value} {u1 u2 u3 : Value} (h : DrT W w0 wr p rb ob cs T vs u1 u2 u3) : RtO (cutW wr w0.heap.size) wr ob cs T vs u1 u2 u3 :=
  ⟨cut_below h.grown.size, h.box, by rw [cut_size h.grown.size]; exact h.own, by rw [cut_size h.grown.size]; exact h.oge⟩
theorem DrR.rr {W w0 wr : World} {p rb ob lo : Nat} {cs : Array Value} {T : Tab} {vs : List Value} {u1 u2 u3 vr : Value} {row : List Int} (h : DrR W w0 wr p rb ob lo cs T vs u1 u2 u3 vr row) : RrS (cutW wr w0.heap.size) wr ob lo cs T vs u1 u2 u3 vr row :=
  ⟨h.st.rt, h.row, by rw [cut_size h.st.grown.size]; exact h.le, h.hi, h.l1, h.l3⟩
theorem DrT.draw {W w0 wr w' : World} {p rb ob : Nat} {cs : Array Value} {T : Tab} {vs : List Value} {u1 u2 u3 : Value} (h : DrT W w0 wr p rb ob cs T vs u1 u2 u3) (hc : Cur W w' p) (hg : wr.grownBy w' (some p)) : DrT W w0 w' p rb ob cs T vs u1 u2 u3 := by
  obtain ⟨cs', hb⟩ := h.cur.blkT
  exact ⟨hc, grownBy_trans h.grown hg, blk_far h.box hb (by decide) hg, h.own.draw h.cur hg, h.oge, blk_far h.res hb (by decide) hg, h.rge, h.ne, h.hW⟩
theorem DrR.draw {W w0 wr w' : World} {p rb ob lo : Nat} {cs : Array Value} {T : Tab} {vs : List Value} {u1 u2 u3 vr : Value} {row : List Int} (h : DrR W w0 wr p rb ob lo cs T vs u1 u2 u3 vr row) (hc : Cur W w' p) (hg : wr.grownBy w' (some p)) : DrR W w0 w' p rb ob lo cs T vs u1 u2 u3 vr row := by
  obtain ⟨cs', hb⟩ := h.cur.blkT
  have hT : 3 ≠ 80 := by decide
  exact ⟨h.st.draw hc hg, owns_far h.row hg (fun g e => by obtain rfl := Option.some.inj e; exact own_ne_blk h.row hb hT), h.le, Nat.le_trans h.hi hg.size, h.l1, h.l3⟩
theorem DrT.laid {W w0 wr : World} {p rb ob : Nat} {cs : Array Value} {T : Tab} {vs : List Value} {u1 u2 u3 : Value} (h : DrT W w0 wr p rb ob cs T vs u1 u2 u3) (o : Obj) : DrT W w0 (wr.alloc o) p rb ob cs T vs u1 u2 u3 := h.draw (h.cur.alloc o) (grow_al _ _ _)
theorem DrR.laid {W w0 wr : World} {p rb ob lo : Nat} {cs : Array Value} {T : Tab} {vs : List Value} {u1 u2 u3 vr : Value} {row : List Int} (h : DrR W w0 wr p rb ob lo cs T vs u1 u2 u3 vr row) (o : Obj) : DrR W w0 (wr.alloc o) p rb ob lo cs T vs u1 u2 u3 vr row := h.draw (h.cur.alloc o) (grow_al _ _ _)
theorem DrT.start {W w0 wr : World} {p rb ob : Nat} {cs : Array Value} {T : Tab} {vs : List Value} {u1 u2 u3 : Value} (h : DrT W w0 wr p rb ob cs T vs u1 u2 u3) : DrR W w0 (wr.alloc (.cells #[] 3)) p rb ob wr.heap.size cs T vs u1 u2 u3 (.slice (some ⟨wr.heap.size, 0, none⟩) 0 0) [] :=
  ⟨h.laid _, World.ownsRow_made wr #[] 0 (Nat.le_refl _) (by unfold maxLen; omega) (by simp), h.grown.size, (bl_al wr _).size, fun j x g hx hb => (h.own.2.2.1.lt hx hb).2, fun g hb => (h.own.2.2.2.1.lt g hb).2⟩
/-- A number is appended to the row. -/
theorem DrR.app {W w0 wr w' : World} {p rb ob lo : Nat} {cs : Array Value} {T : Tab} {vs : List Value} {u1 u2 u3 vr vr' : Value} {row : List Int} {x : Int} (h : DrR W w0 wr p rb ob lo cs T vs u1 u2 u3 vr row) (hg : wr.grownBy w' vr.ownBlock) (ho' : w'.ownsRow lo 3 1 vr' (row.length + 1) (intCells row ++ [.int .i64 x])) : DrR W w0 w' p rb ob lo cs T vs u1 u2 u3 vr' (row ++ [x]) := by
  obtain ⟨cs', hb⟩ := h.cur.blkT
  have hT : 3 ≠ 80 := by decide
  have hT2 : 3 ≠ 34 := by decide
  have hlo : ∀ k, vr.ownBlock = some k → w0.heap.size ≤ k := fun k hk => Nat.le_trans h.le (h.row.lt k hk).1
  have hr := h.rr.app hg ho'
  have ho := hr.st.own
  rw [cut_size h.st.grown.size] at ho
  refine ⟨⟨h.cur.grownT hg (fun k hk => ⟨Nat.le_trans h.st.hW (hlo k hk), fun e => own_ne_blk h.row hb hT (e ▸ hk)⟩), grownBy_farT h.st.grown hg hlo, hr.st.box, ho, h.st.oge, ?_, h.st.rge, h.st.ne, h.st.hW⟩, hr.row, h.le, hr.hi, h.l1, h.l3⟩
  rw [hg.block rb (blk_lt h.st.res) (fun e => own_ne_blk h.row h.st.res hT2 e.symm)]
  exact h.st.res
/-- The row is appended to the rows. -/
theorem DrR.push {W w0 wr w' : World} {p rb ob lo : Nat} {cs : Array Value} {T : Tab} {vs : List Value} {u1 u2 u3 vr u2' : Value} {row : List Int} (h : DrR W w0 wr p rb ob lo cs T vs u1 u2 u3 vr row) (hg : wr.grownBy w' u2.ownBlock) (ho' : w'.ownsRow w0.heap.size 24 1 u2' (T.rs.length + 1) (vs ++ [vr])) : DrT W w0 w' p rb ob cs ⟨T.ns, T.y, T.rs ++ [row], T.ys⟩ (vs ++ [vr]) u1 u2' u3 := by
  obtain ⟨cs', hb⟩ := h.cur.blkT
  have hT : 24 ≠ 80 := by decide
  have hT2 : 24 ≠ 34 := by decide
  have ho := h.st.own.2.1
  have hs := cut_size h.st.grown.size
  have hr := h.st.rt.pushR (lo := lo) (by rw [hs]; exact World.ownsRow.mono h.row h.le) h.l1 (fun g hg => (h.row.lt g hg).1) h.l3 hg (by rw [hs]; exact ho')
  have hown := hr.own
  rw [hs] at hown
  refine ⟨h.cur.grownT hg (fun k hk => ⟨Nat.le_trans h.st.hW (ho.lt k hk).1, fun e => own_ne_blk ho hb hT (e ▸ hk)⟩), grownBy_farT h.st.grown hg (fun k hk => (ho.lt k hk).1), hr.box, hown, h.st.oge, ?_, h.st.rge, h.st.ne, h.st.hW⟩
  rw [hg.block rb (blk_lt h.st.res) (fun e => own_ne_blk ho h.st.res hT2 e.symm)]
  exact h.st.res
/-- A target's number is appended. -/
theorem DrT.pushY {W w0 wr w' : World} {p rb ob : Nat} {cs : Array Value} {T : Tab} {vs : List Value} {u1 u2 u3 : Value} {g3 n3 c3 : Nat} {x : Int} (h : DrT W w0 wr p rb ob cs T vs u1 u2 u3) (hg : wr.grownBy w' u3.ownBlock)
    (ho' : w'.ownsRow w0.heap.size 3 1 (.slice (some ⟨g3, 0, none⟩) n3 c3) (T.ys.length + 1) (intCells T.ys ++ [.int .i64 x])) (hat : u3.ownBlock = some g3 ∨ wr.heap.size ≤ g3) : DrT W w0 w' p rb ob cs ⟨T.ns, T.y, T.rs, T.ys ++ [x]⟩ vs u1 u2 (.slice (some ⟨g3, 0, none⟩) n3 c3) := by
  obtain ⟨cs', hb⟩ := h.cur.blkT
  have hT : 3 ≠ 80 := by decide
  have hT2 : 3 ≠ 34 := by decide
  have ho := h.own.2.2.2.1
  have hs := cut_size h.grown.size
  have hr := h.rt.pushY hg (by rw [hs]; exact ho') hat
  have hown := hr.own
  rw [hs] at hown
  refine ⟨h.cur.grownT hg (fun k hk => ⟨Nat.le_trans h.hW (ho.lt k hk).1, fun e => own_ne_blk ho hb hT (e ▸ hk)⟩), grownBy_farT h.grown hg (fun k hk => (ho.lt k hk).1), hr.box, hown, h.oge, ?_, h.rge, h.ne, h.hW⟩
  rw [hg.block rb (blk_lt h.res) (fun e => own_ne_blk ho h.res hT2 e.symm)]
  exact h.res
theorem blk_neT {w : World} {a b : Nat} {cs cs' : Array Value} {T T' : TypeId} (h : w.heap[a]? = some (.cells cs T (0, 0))) (hb : w.heap[b]? = some (.cells cs' T' (0, 0))) (hT : T ≠ T') : a ≠ b := by
  intro e
  rw [e, hb] at h
  injection h with h
  injection h with _ h
  exact hT h.symm
/-- The box of the table is written. -/
theorem DrT.set {W w0 wr : World} {p rb ob : Nat} {cs : Array Value} {T : Tab} {vs : List Value} {u1 u2 u3 : Value} (h : DrT W w0 wr p rb ob cs T vs u1 u2 u3) (i : Nat) (x : Value) : DrT W w0 (wr.setCell ⟨ob, i, none⟩ x) p rb ob (cs.setIfInBounds i x) T vs u1 u2 u3 := by
  obtain ⟨cs', hb⟩ := h.cur.blkT
  have hne : ob ≠ p := blk_neT h.box hb (by decide)
  have hg : wr.grownBy (wr.setCell ⟨ob, i, none⟩ x) (some ob) := grownBy_set _ _ _ _
  have hs := cut_size h.grown.size
  have hr := h.rt.set i x
  have hown := hr.own
  rw [hs] at hown
  have hge : ∀ k, some ob = some k → w0.heap.size ≤ k := fun k hk => by
    obtain rfl := Option.some.inj hk
    exact h.oge
  refine ⟨h.cur.grownT hg (fun k hk => ⟨Nat.le_trans h.hW (hge k hk), fun e => hne ((Option.some.inj hk).trans e)⟩), grownBy_farT h.grown hg hge, hr.box, hown, h.oge, ?_, h.rge, h.ne, h.hW⟩
  rw [hg.block rb (blk_lt h.res) (fun e => h.ne (Option.some.inj e))]
  exact h.res
theorem Cur.setD {W w : World} {p q : Nat} (h : Cur W w p) (hq : W.heap.size ≤ q) (hn : q ≠ p) (i : Nat) (x : Value) : Cur W (w.setCell ⟨q, i, none⟩ x) p :=
  h.grownT (grownBy_set _ _ _ _) (fun k hk => by
    obtain rfl := Option.some.inj hk
    exact ⟨hq, hn⟩)
/-- The result's box is written. -/
theorem DrT.exit {W w0 wr : World} {p rb ob : Nat} {cs : Array Value} {T : Tab} {vs : List Value} {u1 u2 u3 : Value} (h : DrT W w0 wr p rb ob cs T vs u1 u2 u3) (x0 x1 x2 x3 : Value) :
    TabOwn ((((wr.setCell ⟨rb, 0, none⟩ x0).setCell ⟨rb, 1, none⟩ x1).setCell ⟨rb, 2, none⟩ x2).setCell ⟨rb, 3, none⟩ x3) w0.heap.size T vs u1 u2 u3 ∧ Cur W ((((wr.setCell ⟨rb, 0, none⟩ x0).setCell ⟨rb, 1, none⟩ x1).setCell ⟨rb, 2, none⟩ x2).setCell ⟨rb, 3, none⟩ x3) p ∧
      w0.grownBy ((((wr.setCell ⟨rb, 0, none⟩ x0).setCell ⟨rb, 1, none⟩ x1).setCell ⟨rb, 2, none⟩ x2).setCell ⟨rb, 3, none⟩ x3) (some p) := by
  have N0 := h.own.ne h.res (by decide) (by decide) (by decide)
  obtain ⟨cs', hb⟩ := h.cur.blkT
  have hn : rb ≠ p := blk_neT h.res hb (by decide)
  have hW := Nat.le_trans h.hW h.rge
  have hge : ∀ k, some rb = some k → w0.heap.size ≤ k := fun k hk => by
    obtain rfl := Option.some.inj hk
    exact h.rge
  exact ⟨(((h.own.setN N0 0 _).setN N0 1 _).setN N0 2 _).setN N0 3 _, (((h.cur.setD hW hn 0 _).setD hW hn 1 _).setD hW hn 2 _).setD hW hn 3 _, grownBy_farT h.grown (grownBy_trans (grownBy_trans (grownBy_trans (grownBy_set _ rb _ _) (grownBy_set _ rb _ _)) (grownBy_set _ rb _ _)) (grownBy_set _ rb _ _)) hge⟩
end Go.Proofs.Ytgknkjiifcnkpaa
namespace Go.Proofs.Ytgknkjiifcnkpaa
open Go.RowKit

/-- What is kept of a grid that is being made: its box holds cs. -/
structure GrS (w2 wr : World) (ob : Nat) (cs : Array Value) (G : Grd) (vs1 vs2 : List Value) (u1 u2 : Value) : Prop where
  bel : Below w2.heap.size w2 wr
  box : wr.heap[ob]? = some (.cells cs 38 (0, 0))
  o1 : wr.ownsRow w2.heap.size 24 1 u1 G.cs.length vs1
  r1 : RowsOwn wr w2.heap.size 3 vs1 (G.cs.map intCells)
  o2 : wr.ownsRow w2.heap.size 24 1 u2 G.bs.length vs2
  r2 : RowsOwn wr w2.heap.size 3 vs2 (G.bs.map intCells)
  ap : ∀ g, u1.ownBlock = some g → u2.ownBlock ≠ some g
  ge : w2.heap.size ≤ ob
theorem GrS.next {w2 wr w' : World} {ob : Nat} {cs : Array Value} {G : Grd} {vs1 vs2 : List Value} {u1 u2 : Value} (h : GrS w2 wr ob cs G vs1 vs2 u1 u2) (hB : Below wr.heap.size wr w') : GrS w2 w' ob cs G vs1 vs2 u1 u2 :=
  ⟨bt h.bel hB, blk_next h.box hB, owns_bl h.o1 hB, h.r1.below hB, owns_bl h.o2 hB, h.r2.below hB, h.ap, h.ge⟩
theorem GrS.set {w2 wr : World} {ob : Nat} {cs : Array Value} {G : Grd} {vs1 vs2 : List Value} {u1 u2 : Value} (h : GrS w2 wr ob cs G vs1 vs2 u1 u2) (i : Nat) (x : Value) : GrS w2 (wr.setCell ⟨ob, i, none⟩ x) ob (cs.setIfInBounds i x) G vs1 vs2 u1 u2 :=
  ⟨h.bel.setCell h.ge _, heap_setCell_same _ _ _ _ _ _ h.box, ownsRow_setCell_other h.o1 (own_ne_blk h.o1 h.box (by decide)) _, h.r1.setBox h.box (by decide) i x, ownsRow_setCell_other h.o2 (own_ne_blk h.o2 h.box (by decide)) _, h.r2.setBox h.box (by decide) i x, h.ap, h.ge⟩
theorem GrS.own {w2 wr : World} {ob : Nat} {cs : Array Value} {G : Grd} {vs1 vs2 : List Value} {u1 u2 : Value} (h : GrS w2 wr ob cs G vs1 vs2 u1 u2) : GrdOwn wr w2.heap.size G u1 u2 := ⟨⟨vs1, h.o1, h.r1⟩, ⟨vs2, h.o2, h.r2⟩⟩
/-- A row is put last among the cuts. -/
theorem GrS.pushC {w2 wr w' : World} {ob lo : Nat} {cs : Array Value} {G : Grd} {vs1 vs2 : List Value} {u1 u2 u' v : Value} {r : List Int} (h : GrS w2 wr ob cs G vs1 vs2 u1 u2) (hv : wr.ownsRow w2.heap.size 3 1 v r.length (intCells r))
    (h1 : ∀ (j : Nat) x g, vs1[j]? = some x → x.ownBlock = some g → g < lo) (h2 : ∀ g, v.ownBlock = some g → lo ≤ g)
    (hg : wr.grownBy w' u1.ownBlock) (ho' : w'.ownsRow w2.heap.size 24 1 u' (G.cs.length + 1) (vs1 ++ [v])) (hat : u'.ownBlock = u1.ownBlock ∨ ∀ g, u'.ownBlock = some g → wr.heap.size ≤ g) : GrS w2 w' ob cs ⟨G.cs ++ [r], G.bs⟩ (vs1 ++ [v]) vs2 u' u2 := by
  have hT : (3 : TypeId) ≠ 24 := by decide
  have hT3 : (24 : TypeId) ≠ 38 := by decide
  have hu : w'.ownsRow w2.heap.size 3 1 v (intCells r).length (intCells r) := by
    rw [intCells_len]
    exact owns_keep hv h.o1 hT hg
  have e1 : w'.ownsRow w2.heap.size 24 1 u' (G.cs ++ [r]).length (vs1 ++ [v]) := by
    rw [List.length_append]
    exact ho'
  have f1 : RowsOwn w' w2.heap.size 3 (vs1 ++ [v]) ((G.cs ++ [r]).map intCells) := by
    rw [List.map_append]
    exact (h.r1.outer h.o1 hT hg).snoc (lo := lo) hu h1 h2
  have e2 : w'.ownsRow w2.heap.size 24 1 u2 G.bs.length vs2 := by
    refine h.o2.kept hg ?_
    cases e : u2.ownBlock with
    | none => exact Or.inl rfl
    | some g => exact Or.inr (fun k => h.ap g k.symm e)
  have f2 := h.r2.outer h.o1 hT hg
  refine ⟨h.bel.grown hg h.bel.size (fun k hk => (h.o1.lt k hk).1), ?_, e1, f1, e2, f2, ?_, h.ge⟩
  · rw [hg.block _ (blk_lt h.box) (fun e => cell_apP h.box h.o1 hT3 e.symm)]
    exact h.box
  · intro g x1 x2
    rcases hat with hat | hat
    · exact h.ap g (hat ▸ x1) x2
    · have := hat g x1
      have := (h.o2.lt g x2).2
      omega
/-- A row is put last among the bins. -/
theorem GrS.pushB {w2 wr w' : World} {ob lo : Nat} {cs : Array Value} {G : Grd} {vs1 vs2 : List Value} {u1 u2 u' v : Value} {r : List Int} (h : GrS w2 wr ob cs G vs1 vs2 u1 u2) (hv : wr.ownsRow w2.heap.size 3 1 v r.length (intCells r))
    (h1 : ∀ (j : Nat) x g, vs2[j]? = some x → x.ownBlock = some g → g < lo) (h2 : ∀ g, v.ownBlock = some g → lo ≤ g)
    (hg : wr.grownBy w' u2.ownBlock) (ho' : w'.ownsRow w2.heap.size 24 1 u' (G.bs.length + 1) (vs2 ++ [v])) (hat : u'.ownBlock = u2.ownBlock ∨ ∀ g, u'.ownBlock = some g → wr.heap.size ≤ g) : GrS w2 w' ob cs ⟨G.cs, G.bs ++ [r]⟩ vs1 (vs2 ++ [v]) u1 u' := by
  have hT : (3 : TypeId) ≠ 24 := by decide
  have hT3 : (24 : TypeId) ≠ 38 := by decide
  have hu : w'.ownsRow w2.heap.size 3 1 v (intCells r).length (intCells r) := by
    rw [intCells_len]
    exact owns_keep hv h.o2 hT hg
  have e2 : w'.ownsRow w2.heap.size 24 1 u' (G.bs ++ [r]).length (vs2 ++ [v]) := by
    rw [List.length_append]
    exact ho'
  have f2 : RowsOwn w' w2.heap.size 3 (vs2 ++ [v]) ((G.bs ++ [r]).map intCells) := by
    rw [List.map_append]
    exact (h.r2.outer h.o2 hT hg).snoc (lo := lo) hu h1 h2
  have e1 : w'.ownsRow w2.heap.size 24 1 u1 G.cs.length vs1 := by
    refine h.o1.kept hg ?_
    cases e : u1.ownBlock with
    | none => exact Or.inl rfl
    | some g => exact Or.inr (fun k => h.ap g e k.symm)
  have f1 := h.r1.outer h.o2 hT hg
  refine ⟨h.bel.grown hg h.bel.size (fun k hk => (h.o2.lt k hk).1), ?_, e1, f1, e2, f2, ?_, h.ge⟩
  · rw [hg.block _ (blk_lt h.box) (fun e => cell_apP h.box h.o2 hT3 e.symm)]
    exact h.box
  · intro g x1 x2
    rcases hat with hat | hat
    · exact h.ap g x1 (hat ▸ x2)
    · have := hat g x2
      have := (h.o1.lt g x1).2
      omega
end Go.Proofs.Ytgknkjiifcnkpaa
namespace Go.Proofs.Ytgknkjiifcnkpaa
open Go.RowKit

theorem count_one {l : List Int} (h : l.Pairwise (· < ·)) {x : Int} (hx : x ∈ l) : l.count x = 1 := by
  have hn : l.Nodup := h.imp (fun {a b} hab => by omega)
  rw [hn.count, if_pos hx]
theorem sortZ_count (zs : List Int) (x : Int) : (sortZ zs).count x = zs.count x := (sortZ_perm zs).count_eq x
theorem distZ_count {zs : List Int} {x : Int} (hx : x ∈ zs) : (distZ zs).count x = 1 := count_one (distZ_srt zs) ((distZ_mem zs x).2 hx)
theorem lt_le {l : List Int} (h : l.Pairwise (· < ·)) : l.Pairwise (· ≤ ·) := h.imp (fun hab => Int.le_of_lt hab)
theorem rawZ_mem {A : List Int} {b : Nat} (hb : 0 < b) (hA : 0 < A.length) : ∀ j, j < b → ∀ x ∈ rawZ A b j, x ∈ A ∧ x < A.getD (A.length - 1) 0
  | 0, _, x, hx => by simp [rawZ] at hx
  | j + 1, hj, x, hx => by
    unfold rawZ at hx
    split at hx
    · rename_i h
      rcases List.mem_append.1 hx with hx | hx
      · exact rawZ_mem hb hA j (by omega) x hx
      · obtain rfl := List.mem_singleton.1 hx
        have hle : A.length * (j + 1) / b ≤ A.length := by
          refine Nat.div_le_of_le_mul ?_
          rw [Nat.mul_comm]
          exact Nat.mul_le_mul (by omega) (Nat.le_refl _)
        exact ⟨getD_mem (by omega), h.2⟩
    · exact rawZ_mem hb hA j (by omega) x hx
theorem cutsZ_mem {vs : List Int} {bins : Int} {x : Int} (h : x ∈ cutsZ vs bins) : x ∈ vs ∧ ∃ y ∈ vs, x < y := by
  unfold cutsZ at h
  split at h
  · rename_i hc
    have h1 := inZ_iff.1 hc.1
    have h2 := inZ_iff.1 hc.2
    have hl := sortZ_len vs
    have h3 := rawZ_mem (A := sortZ vs) (b := bins.toNat) (by omega) (by omega) (bins.toNat - 1) (by omega) x ((distZ_mem _ x).1 h)
    have hm := fun z => (sortZ_perm vs).mem_iff (a := z)
    exact ⟨(hm x).1 h3.1, _, (hm _).1 (getD_mem (by omega)), h3.2⟩
  · simp at h
theorem cutsZ_srt (vs : List Int) (bins : Int) : (cutsZ vs bins).Pairwise (· < ·) := by
  unfold cutsZ
  split
  · exact distZ_srt _
  · simp
theorem cutsZ_lt (vs : List Int) (bins : Int) : (cutsZ vs bins).length = 0 ∨ ((cutsZ vs bins).length : Int) < bins := by
  unfold cutsZ
  split
  · rename_i hc
    have h1 := inZ_iff.1 hc.1
    have h2 := distZ_len (rawZ (sortZ vs) bins.toNat (bins.toNat - 1))
    have h3 := rawZ_len (sortZ vs) bins.toNat (bins.toNat - 1)
    exact Or.inr (by omega)
  · exact Or.inl rfl
/-- How many are not above x. -/
def belZ (vs : List Int) (x : Int) (k : Nat) : Nat := (vs.take k).countP (fun y => decide (y ≤ x))
theorem belZ_succ {vs : List Int} {x y : Int} {k : Nat} (h : vs[k]? = some y) : belZ vs x (k + 1) = belZ vs x k + (if y ≤ x then 1 else 0) := by
  unfold belZ
  rw [List.take_add_one, h, List.countP_append]
  by_cases e : y ≤ x
  · rw [if_pos e]
    simp [e]
  · rw [if_neg e]
    simp [e]
theorem belZ_le (vs : List Int) (x : Int) (k : Nat) : belZ vs x k ≤ k := Nat.le_trans List.countP_le_length (by rw [List.length_take]; omega)
theorem belZ_cut {vs : List Int} {x : Int} (h : x ∈ vs ∧ ∃ y ∈ vs, x < y) : 0 < belZ vs x vs.length ∧ belZ vs x vs.length < vs.length := by
  unfold belZ
  rw [List.take_length]
  refine ⟨List.countP_pos_iff.2 ⟨x, h.1, by simp⟩, ?_⟩
  have h1 : vs.countP (fun y => decide (y ≤ x)) ≤ vs.length := List.countP_le_length
  have h2 : vs.countP (fun y => decide (y ≤ x)) ≠ vs.length := by
    intro e
    obtain ⟨y, hy, hxy⟩ := h.2
    have := List.countP_eq_length.1 e y hy
    simp only [decide_eq_true_eq] at this
    omega
  omega
end Go.Proofs.Ytgknkjiifcnkpaa
namespace Go.Proofs.Ytgknkjiifcnkpaa
open Go.RowKit

/-- How many cuts are less than v. -/
def binZ (cuts : List Int) (v : Int) : Nat := cuts.countP (fun c => decide (c < v))
def binK (cuts : List Int) (v : Int) (k : Nat) : Nat := (cuts.take k).countP (fun c => decide (c < v))
theorem binK_all {cuts : List Int} {k : Nat} (v : Int) (h : cuts.length = k) : binK cuts v k = binZ cuts v := by
  unfold binK binZ
  rw [List.take_of_length_le (by omega)]
theorem binK_le (cuts : List Int) (v : Int) (k : Nat) : binK cuts v k ≤ k := Nat.le_trans List.countP_le_length (by rw [List.length_take]; omega)
theorem binZ_le (cuts : List Int) (v : Int) : binZ cuts v ≤ cuts.length := List.countP_le_length
theorem binK_succ {cuts : List Int} {v c : Int} {k : Nat} (h : cuts[k]? = some c) : binK cuts v (k + 1) = binK cuts v k + (if c < v then 1 else 0) := by
  unfold binK
  rw [List.take_add_one, h, List.countP_append]
  by_cases e : c < v
  · rw [if_pos e]
    simp [e]
  · rw [if_neg e]
    simp [e]
/-- The bin says on which side of each cut a number is. -/
theorem binZ_side : ∀ {cuts : List Int}, cuts.Pairwise (· < ·) → ∀ (v : Int) (i : Nat) (c : Int), cuts[i]? = some c → (v ≤ c ↔ binZ cuts v ≤ i)
  | [], _, _, _, _, h => by simp at h
  | a :: l, hp, v, i, c, h => by
    rw [List.pairwise_cons] at hp
    have hz : ¬ a < v → l.countP (fun c => decide (c < v)) = 0 := fun hav => by
      rw [List.countP_eq_zero]
      intro b hb
      have := hp.1 b hb
      simp only [decide_eq_true_eq]
      omega
    have ih := binZ_side hp.2 v
    unfold binZ at ih ⊢
    rw [List.countP_cons]
    cases i with
    | zero =>
      obtain rfl : a = c := by simpa using h
      by_cases e : a < v
      · simp [e]
      · rw [hz e]
        simp [e]
        omega
    | succ i =>
      have h' : l[i]? = some c := by simpa using h
      have hac := hp.1 c (List.mem_of_getElem? h')
      by_cases e : a < v
      · have := ih i c h'
        simp only [e, decide_true, if_true]
        omega
      · rw [hz e]
        simp only [e, decide_false]
        constructor
        · intro _
          simp
        · intro _
          omega
theorem rawZ_has {A : List Int} {b : Nat} : ∀ j k, 1 ≤ k → k ≤ j → 1 ≤ A.length * k / b → A.getD (A.length * k / b - 1) 0 < A.getD (A.length - 1) 0 → A.getD (A.length * k / b - 1) 0 ∈ rawZ A b j
  | 0, k, h1, h2, _, _ => by omega
  | j + 1, k, h1, h2, h3, h4 => by
    unfold rawZ
    by_cases e : k = j + 1
    · subst e
      rw [if_pos ⟨h3, h4⟩]
      simp
    · have := rawZ_has (A := A) (b := b) j k h1 (by omega) h3 h4
      split
      · exact List.mem_append.2 (Or.inl this)
      · exact this
theorem part_at : ∀ n, n ≤ 8 → ∀ q, 1 ≤ q → q ≤ n - 1 → ∃ k, 1 ≤ k ∧ k ≤ 7 ∧ n * k / 8 = q := by
  intro n hn q h1 h2
  have key : ∀ n, n < 9 → ∀ q, q < 9 → 1 ≤ q → q ≤ n - 1 → ∃ k, k < 8 ∧ 1 ≤ k ∧ n * k / 8 = q := by decide
  obtain ⟨k, h3, h4, h5⟩ := key n (by omega) q (by omega) h1 h2
  exact ⟨k, h4, by omega, h5⟩
/-- With as many bins as numbers every number but the greatest is a cut. -/
theorem cutsZ_all {vs : List Int} (hn : vs.length ≤ 8) {x y : Int} (hx : x ∈ vs) (hy : y ∈ vs) (hxy : x < y) : x ∈ cutsZ vs 8 := by
  have hl := sortZ_len vs
  have hpos : 0 < vs.length := List.length_pos_of_mem hx
  rw [cutsZ, if_pos ⟨by decide, inZ_iff.2 ⟨by omega, by omega⟩⟩, distZ_mem]
  have hxs := (sortZ_perm vs).mem_iff.2 hx
  have hys := (sortZ_perm vs).mem_iff.2 hy
  obtain ⟨p, hp, rfl⟩ := List.mem_iff_getElem.1 hxs
  obtain ⟨q, hq, rfl⟩ := List.mem_iff_getElem.1 hys
  have hs := sortZ_srt vs
  have hmax := srt_le hs (i := q) (j := (sortZ vs).length - 1) (by omega) (by omega)
  rw [getD_eq hq] at hmax
  have hpq : p < (sortZ vs).length - 1 := by
    by_cases e : p < (sortZ vs).length - 1
    · exact e
    · have := srt_le hs (i := q) (j := p) (by omega) hp
      rw [getD_eq hq, getD_eq hp] at this
      omega
  obtain ⟨k, k1, k7, hk⟩ := part_at (sortZ vs).length (by omega) (p + 1) (by omega) (by omega)
  have := rawZ_has (A := sortZ vs) (b := 8) 7 k k1 k7 (by omega) (by rw [hk, Nat.add_sub_cancel, getD_eq hp]; omega)
  rw [hk, Nat.add_sub_cancel, getD_eq hp] at this
  exact this
theorem binZ_mono (cuts : List Int) {x y : Int} (h : x < y) (hx : x ∈ cuts) : binZ cuts x < binZ cuts y := by
  induction cuts with
  | nil => simp at hx
  | cons a l ih =>
    have hle : l.countP (fun c => decide (c < x)) ≤ l.countP (fun c => decide (c < y)) := List.countP_mono_left (fun c _ hc => by
      simp only [decide_eq_true_eq] at hc ⊢
      omega)
    unfold binZ at ih ⊢
    rw [List.countP_cons, List.countP_cons]
    rcases List.mem_cons.1 hx with rfl | hx
    · have h1 : ¬ x < x := by omega
      simp only [h1, h, decide_false, decide_true]
      simp
      omega
    · have := ih hx
      by_cases e1 : a < x
      · have e2 : a < y := by omega
        simp only [e1, e2, decide_true, if_true]
        omega
      · by_cases e2 : a < y
        · simp only [e1, e2, decide_true, decide_false, if_true]
          simp
          omega
        · simp only [e1, e2, decide_false]
          simpa using this
theorem binZ_all {vs : List Int} (hn : vs.length ≤ 8) {x y : Int} (hx : x ∈ vs) (hy : y ∈ vs) : binZ (cutsZ vs 8) x = binZ (cutsZ vs 8) y ↔ x = y := by
  refine ⟨fun h => ?_, fun h => by rw [h]⟩
  rcases Int.lt_trichotomy x y with e | e | e
  · have := binZ_mono (cutsZ vs 8) e (cutsZ_all hn hx hy e)
    omega
  · exact e
  · have := binZ_mono (cutsZ vs 8) e (cutsZ_all hn hy hx e)
    omega
end Go.Proofs.Ytgknkjiifcnkpaa
