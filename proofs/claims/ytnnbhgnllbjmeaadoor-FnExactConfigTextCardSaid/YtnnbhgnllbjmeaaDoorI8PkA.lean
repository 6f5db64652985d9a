/-
  Settings, the program's way: the map of the keys and their places, and what is left of it: plain mathematics.
  The keys of settings, the program's way: the map that is made anew at each use, and whether a word is one of the keys.
  Where settings keep a key's number, the program's way.
  What impl.Parts answers: a new row that holds the parts.
-/
import Derived.Test.YtnnbhgnllbjmeaaDoorCfgM
import Derived.Maps.OwnSet
import Derived.Sort.KeysCollected
import Derived.Test.YtnnbhgnllbjmeaaDoorCfgS
import Derived.Maps.RangeWalk
import Derived.Test.YtnnbhgnllbjmeaaDoorPartsV
import Derived.Test.YtnnbhgnllbjmeaaDoorShStr
namespace Go.Proofs.YtnnbhgnllbjmeaaDoor
open Go.RowKit

/-- The map of the keys with their places, as it is written key by key. -/
def keyPut (D : DataW Unit) (k : Nat) : DataW Unit := D.put (.string (wordL k)) (.lit (.int .i64 k))
def keyD : DataW Unit := keyPut (keyPut (keyPut (keyPut (keyPut (keyPut (keyPut (.map []) 0) 1) 2) 3) 4) 5) 6
def keyD6 : DataW Unit := keyD.del (.string (wordL 6))
theorem has_keyPut {D : DataW Unit} (h : Maps.IsMap D) (k : Nat) (x : List UInt8) : Maps.has (keyPut D k) (.string x) = (decide (wordL k = x) || Maps.has D (.string x)) := by
  unfold keyPut
  by_cases e : wordL k = x
  · subst e
    rw [Maps.has_put_same h (by trivial)]
    simp
  · rw [Maps.has_put_other (fun h => e (by simpa using h.symm))]
    simp [e]
theorem isMap_keyPut {D : DataW Unit} (h : Maps.IsMap D) (k : Nat) : Maps.IsMap (keyPut D k) := h.put _ _
theorem isMap_keyD : Maps.IsMap keyD := isMap_keyPut (isMap_keyPut (isMap_keyPut (isMap_keyPut (isMap_keyPut (isMap_keyPut (isMap_keyPut Maps.isMap_empty 0) 1) 2) 3) 4) 5) 6
theorem has_keyD (x : List UInt8) : Maps.has keyD (.string x) = (wordOf x).isSome := by
  have h0 : Maps.has (.map [] : DataW Unit) (.string x) = false := rfl
  have e : Maps.has keyD (.string x) = (decide (wordL 6 = x) || (decide (wordL 5 = x) || (decide (wordL 4 = x) || (decide (wordL 3 = x) || (decide (wordL 2 = x) || (decide (wordL 1 = x) || (decide (wordL 0 = x) || false))))))) := by
    unfold keyD
    rw [has_keyPut, has_keyPut, has_keyPut, has_keyPut, has_keyPut, has_keyPut, has_keyPut, h0] <;> repeat (first | exact Maps.isMap_empty | refine isMap_keyPut ?_ _)
  rw [e]
  cases hw : wordOf x with
  | some k =>
    obtain ⟨hk, rfl⟩ := wordOf_lt hw
    rcases (by omega : k = 0 ∨ k = 1 ∨ k = 2 ∨ k = 3 ∨ k = 4 ∨ k = 5 ∨ k = 6) with rfl | rfl | rfl | rfl | rfl | rfl | rfl <;> simp
  | none =>
    have hn : ∀ k, k < 7 → ¬ wordL k = x := by
      intro k hk he
      have := List.find?_eq_none.1 hw k (List.mem_range.2 hk)
      simp [he] at this
    simp [hn]
theorem has_word {k : Nat} (hk : k < 7) : Maps.has keyD (.string (wordL k)) = true := by rw [has_keyD, (wordL_ok k hk).2.1]; rfl
theorem wordL_inj {j k : Nat} (hj : j < 7) (hk : k < 7) (h : wordL j = wordL k) : j = k := by
  have h1 := (wordL_ok j hj).2.1
  rw [h, (wordL_ok k hk).2.1] at h1
  exact (Option.some.inj h1).symm

/-- Of the keys, those that no line has named yet. -/
def Unmet (D : DataW Unit) (met : List Nat) : Prop := ∀ k, k < 7 → Maps.has D (.string (wordL k)) = decide (k ∉ met)
theorem unmet_start : Unmet keyD [] := fun k hk => by rw [has_word hk]; simp
theorem Unmet.del {D : DataW Unit} {met : List Nat} (h : Unmet D met) {k : Nat} (hk : k < 7) : Unmet (D.del (.string (wordL k))) (k :: met) := by
  intro j hj
  by_cases e : j = k
  · subst e
    rw [Maps.has_del_same]
    simp
  · rw [Maps.has_del_other (fun h => e (wordL_inj hj hk (by simpa using h))), h j hj]
    simp [e]

/-- The keys of a text's lines, m of them: all, or all but the last. -/
def keyDm (m : Nat) : DataW Unit := if m = 7 then keyD else keyD6
theorem has_keyDm {m : Nat} (hm : m = 6 ∨ m = 7) (x : List UInt8) : Maps.has (keyDm m) (.string x) = true ↔ ∃ i : Fin m, wordL i = x := by
  have h7 : Maps.has keyD (.string x) = true ↔ ∃ i : Fin 7, wordL i = x := by
    rw [has_keyD]
    constructor
    · intro h
      obtain ⟨k, hk⟩ := Option.isSome_iff_exists.1 h
      obtain ⟨h1, h2⟩ := wordOf_lt hk
      exact ⟨⟨k, h1⟩, h2⟩
    · rintro ⟨i, rfl⟩
      rw [(wordL_ok i i.2).2.1]
      rfl
  rcases hm with rfl | rfl
  · show Maps.has keyD6 (.string x) = true ↔ _
    unfold keyD6
    by_cases e : x = wordL 6
    · subst e
      rw [Maps.has_del_same]
      constructor
      · intro h; cases h
      · rintro ⟨i, hi⟩
        have := wordL_inj (by omega) (by omega) hi
        omega
    · rw [Maps.has_del_other (fun h => e (by simpa using h)), h7]
      constructor
      · rintro ⟨i, hi⟩
        have : i.val ≠ 6 := fun h => e (by rw [← hi, h])
        exact ⟨⟨i.val, by omega⟩, hi⟩
      · rintro ⟨i, hi⟩
        exact ⟨⟨i.val, by omega⟩, hi⟩
  · exact h7
theorem size_keyDm {m : Nat} (hm : m = 6 ∨ m = 7) : Maps.size (keyDm m) = m := by rcases hm with rfl | rfl <;> rfl
theorem at_keyDm {m : Nat} (hm : m = 6 ∨ m = 7) (i : Fin m) (z : DataW Unit) : (keyDm m).atKey (.string (wordL i)) z = .lit (.int .i64 (i.val : Nat)) := by
  obtain ⟨i, hi⟩ := i
  rcases hm with rfl | rfl
  · rcases (by omega : i = 0 ∨ i = 1 ∨ i = 2 ∨ i = 3 ∨ i = 4 ∨ i = 5) with rfl | rfl | rfl | rfl | rfl | rfl <;> rfl
  · rcases (by omega : i = 0 ∨ i = 1 ∨ i = 2 ∨ i = 3 ∨ i = 4 ∨ i = 5 ∨ i = 6) with rfl | rfl | rfl | rfl | rfl | rfl | rfl <;> rfl

/-- Whatever order they were met in, the keys sort into that of the lines. -/
theorem lift_words {m : Nat} : ∀ (ss : List (List UInt8)), (∀ x ∈ ss, ∃ i : Fin m, wordL i = x) → ∃ d : List (Fin m), d.map (fun i : Fin m => wordL i.val) = ss
  | [], _ => ⟨[], rfl⟩
  | x :: r, h => by
    obtain ⟨i, hi⟩ := h x (by simp)
    obtain ⟨d, hd⟩ := lift_words r (fun y hy => h y (by simp [hy]))
    exact ⟨i :: d, by simp [hi, hd]⟩
def leF (m : Nat) (x y : Fin m) : Bool := decide (x.val ≤ y.val)
theorem sorted_keys {m : Nat} (hm : m = 6 ∨ m = 7) {left : Lit → Bool} {ss : List (List UInt8)} (h : Collected (keyDm m) left ss) (hl : ∀ kl, left kl = false) :
    ∃ d : List (Fin m), d.map (fun i : Fin m => wordL i.val) = ss ∧ d.mergeSort (leF m) = List.finRange m := by
  have hmem : ∀ x, x ∈ ss ↔ ∃ i : Fin m, wordL i = x := fun x => by rw [h.2 x, hl, has_keyDm hm x]; simp
  obtain ⟨d, hd⟩ := lift_words ss (fun x hx => (hmem x).1 hx)
  have hm7 : ∀ i : Fin m, i.val < 7 := fun i => by have := i.2; omega
  have hnd : d.Nodup := by
    have := h.1
    rw [← hd] at this
    exact (List.pairwise_map.1 this).imp (fun hne e => hne (by rw [e]))
  have hall : ∀ i : Fin m, i ∈ d := by
    intro i
    have := (hmem (wordL i)).2 ⟨i, rfl⟩
    rw [← hd] at this
    obtain ⟨j, hj, he⟩ := List.mem_map.1 this
    have : j = i := Fin.ext (wordL_inj (hm7 j) (hm7 i) he)
    rwa [← this]
  have hp : d.Perm (List.finRange m) := (List.perm_ext_iff_of_nodup hnd (by rcases hm with rfl | rfl <;> decide)).2 fun i => ⟨fun _ => List.mem_finRange i, fun _ => hall i⟩
  have tr : ∀ a b c : Fin m, leF m a b = true → leF m b c = true → leF m a c = true := fun a b c h1 h2 => by simp only [leF, decide_eq_true_eq] at *; omega
  have to : ∀ a b : Fin m, (leF m a b || leF m b a) = true := fun a b => by simp only [leF, Bool.or_eq_true, decide_eq_true_eq]; omega
  refine ⟨d, hd, List.Perm.eq_of_pairwise (le := fun a b => leF m a b = true) (fun a b _ _ h1 h2 => ?_) (List.pairwise_mergeSort tr to d) (by rcases hm with rfl | rfl <;> decide) ((List.mergeSort_perm d (leF m)).trans hp)⟩
  simp only [leF, decide_eq_true_eq] at h1 h2
  exact Fin.ext (by omega)
end Go.Proofs.YtnnbhgnllbjmeaaDoor

namespace Go.Proofs.YtnnbhgnllbjmeaaDoor
open Go.RowKit

theorem keyedS : Maps.Keyed Tryd.prog 9 := Maps.string_keyed Tryd.underlying9
theorem zeroI (w : World) : (zeroValue 3).run Tryd.prog w = .ok (.int .i64 0) w := by kernel_rfl
/-- Block b is a map of at most n keys that reads as D. -/
abbrev MapAt (w : World) (b n : Nat) (D : DataW Unit) : Prop := w.ownsMap Tryd.prog 9 (plainElem Tryd.prog 3) b n D
theorem keyLit {s : ByteArray} (h : s.size ≤ 9223372036854775807) : keyOf Tryd.prog 9 (.string s) = some (.string s.data.toList) :=
  Go.WideMaps.keyOf_string_mk Tryd.underlying9 (by unfold maxLen; exact h)
/-- The map while it is filled: the first block behind w. -/
def KpSt (w wr : World) (n : Nat) (D : DataW Unit) : Prop := MapAt wr w.heap.size n D ∧ Below w.heap.size w wr
theorem KpSt.start (w : World) : KpSt w (w.alloc (.map #[] 0)) 0 (.map []) := ⟨World.ownsMap_made _ _ _ _, below_al w _⟩
/-- One key is laid into a map that a literal fills. -/
theorem upKey (w0 w : World) (n k : Nat) (D : DataW Unit) (h : KpSt w0 w n D) (hn : n < 100) (hk : k < 7) :
    ∃ w', (Instr.mapUpdate 46 (.map (some w0.heap.size)) (.string ⟨(wordL k).toArray⟩) (.int .i64 (k : Nat))).run Tryd.prog w = .ok () w' ∧ KpSt w0 w' (n + 1) (keyPut D k) := by
  have hl := (wordL_ok k hk).2.2
  have hw : (Lit.int .i64 (k : Nat)).wf = true := WalkArith.wf_i64 (by omega)
  obtain ⟨w', hrun, r1, r2⟩ := h.1.update keyedS Tryd.underlying46 (by unfold maxLen; omega) (keyLit (s := ⟨(wordL k).toArray⟩) (by simp only [ByteArray.size, List.size_toArray]; omega)) (plainElem_int Tryd.underlying3 hw)
  exact ⟨w', hrun, r1, h.2.grown r2 h.2.size (fun j hj => by cases hj; exact Nat.le_refl _)⟩

set_option maxRecDepth 100000 in
set_option maxHeartbeats 1000000 in
theorem keyPlacesG (w : World) :
    Calls Tryd.prog 23 #[] w fun e w' => e = .returned (.map (some w.heap.size)) ∧ KpSt w w' 7 keyD := by
  have hmm := @run_makeMap Tryd.prog
  obtain ⟨w1, r1, h1⟩ := upKey w (w.alloc (.map #[] 0)) 0 0 _ (KpSt.start w) (by omega) (by omega)
  replace r1 : (Instr.mapUpdate 46 (.map (some w.heap.size)) (.string ⟨#[114, 111, 117, 110, 100, 115]⟩) (.int .i64 0)).run Tryd.prog (w.alloc (.map #[] 0)) = .ok () w1 := r1
  obtain ⟨w2, r2, h2⟩ := upKey w w1 1 1 _ h1 (by omega) (by omega)
  replace r2 : (Instr.mapUpdate 46 (.map (some w.heap.size)) (.string ⟨#[100, 101, 112, 116, 104]⟩) (.int .i64 1)).run Tryd.prog w1 = .ok () w2 := r2
  obtain ⟨w3, r3, h3⟩ := upKey w w2 2 2 _ h2 (by omega) (by omega)
  replace r3 : (Instr.mapUpdate 46 (.map (some w.heap.size)) (.string ⟨#[98, 105, 110, 115]⟩) (.int .i64 2)).run Tryd.prog w2 = .ok () w3 := r3
  obtain ⟨w4, r4, h4⟩ := upKey w w3 3 3 _ h3 (by omega) (by omega)
  replace r4 : (Instr.mapUpdate 46 (.map (some w.heap.size)) (.string ⟨#[108, 97, 109, 98, 100, 97]⟩) (.int .i64 3)).run Tryd.prog w3 = .ok () w4 := r4
  obtain ⟨w5, r5, h5⟩ := upKey w w4 4 4 _ h4 (by omega) (by omega)
  replace r5 : (Instr.mapUpdate 46 (.map (some w.heap.size)) (.string ⟨#[114, 111, 119, 115]⟩) (.int .i64 4)).run Tryd.prog w4 = .ok () w5 := r5
  obtain ⟨w6, r6, h6⟩ := upKey w w5 5 5 _ h5 (by omega) (by omega)
  replace r6 : (Instr.mapUpdate 46 (.map (some w.heap.size)) (.string ⟨#[114, 97, 116, 101]⟩) (.int .i64 5)).run Tryd.prog w5 = .ok () w6 := r6
  obtain ⟨w7, r7, h7⟩ := upKey w w6 6 6 _ h6 (by omega) (by omega)
  replace r7 : (Instr.mapUpdate 46 (.map (some w.heap.size)) (.string ⟨#[115, 105, 103, 110, 115]⟩) (.int .i64 6)).run Tryd.prog w6 = .ok () w7 := r7
  have H := Lib.hid h7
  clear h1 h2 h3 h4 h5 h6 h7
  go_enter Tryd.func23, Tryd.ntmps23
  go_wp2_with fail
  go_ret
  exact ⟨rfl, H.out⟩

set_option maxRecDepth 100000 in
set_option maxHeartbeats 1000000 in
theorem isKeyG (s : ByteArray) (hs : s.size ≤ 1048576) (w : World) :
    Calls Tryd.prog 56 #[.string s] w fun e w' => e = .returned (.bool (wordOf s.data.toList).isSome) ∧ Below w.heap.size w w' := by
  have hkey := keyLit (s := s) (by omega)
  have HH := Lib.hid (has_keyD s.data.toList)
  go_enter Tryd.func56, Tryd.ntmps56
  go_wp2_with fail
  refine (keyPlacesG w).mono ?_
  rintro e w1 ⟨rfl, h1⟩
  have hown := h1.1
  have HB := Lib.hid h1.2
  clear h1
  go_wp2_with (at_lookup; refine wpList_lookup_own_ok_int _ rfl _ _ 46 rfl 9 3 .i64 keyedS Tryd.underlying46 Tryd.underlying3 (zeroI _) w.heap.size 7 keyD rfl hown _ _ rfl hkey ?_; intro c hat hwc)
  go_ret
  exact ⟨congrArg (fun b => Ending.returned (.bool b)) HH.out, HB.out⟩
end Go.Proofs.YtnnbhgnllbjmeaaDoor

namespace Go.Proofs.YtnnbhgnllbjmeaaDoor
open Go.RowKit

set_option maxRecDepth 100000 in
theorem numberAt_0 (b : Nat) (w : World) :
    Calls Tryd.prog 50 #[.pointer (some ⟨b, 0, none⟩), .string ⟨#[114, 111, 117, 110, 100, 115]⟩] w fun e w' => e = .returned (.pointer (some ⟨b, 0, none⟩)) ∧ w = w' := by
  go_enter Tryd.func50, Tryd.ntmps50
  go_wp2_with fail
  go_ret
  exact ⟨rfl, rfl⟩
set_option maxRecDepth 100000 in
theorem numberAt_1 (b : Nat) (w : World) :
    Calls Tryd.prog 50 #[.pointer (some ⟨b, 0, none⟩), .string ⟨#[100, 101, 112, 116, 104]⟩] w fun e w' => e = .returned (.pointer (some ⟨b, 1, none⟩)) ∧ w = w' := by
  go_enter Tryd.func50, Tryd.ntmps50
  go_wp2_with fail
  go_ret
  exact ⟨rfl, rfl⟩
set_option maxRecDepth 100000 in
theorem numberAt_2 (b : Nat) (w : World) :
    Calls Tryd.prog 50 #[.pointer (some ⟨b, 0, none⟩), .string ⟨#[98, 105, 110, 115]⟩] w fun e w' => e = .returned (.pointer (some ⟨b, 2, none⟩)) ∧ w = w' := by
  go_enter Tryd.func50, Tryd.ntmps50
  go_wp2_with fail
  go_ret
  exact ⟨rfl, rfl⟩
set_option maxRecDepth 100000 in
theorem numberAt_3 (b : Nat) (w : World) :
    Calls Tryd.prog 50 #[.pointer (some ⟨b, 0, none⟩), .string ⟨#[108, 97, 109, 98, 100, 97]⟩] w fun e w' => e = .returned (.pointer (some ⟨b, 3, none⟩)) ∧ w = w' := by
  go_enter Tryd.func50, Tryd.ntmps50
  go_wp2_with fail
  go_ret
  exact ⟨rfl, rfl⟩
set_option maxRecDepth 100000 in
theorem numberAt_4 (b : Nat) (w : World) :
    Calls Tryd.prog 50 #[.pointer (some ⟨b, 0, none⟩), .string ⟨#[114, 111, 119, 115]⟩] w fun e w' => e = .returned (.pointer (some ⟨b, 4, none⟩)) ∧ w = w' := by
  go_enter Tryd.func50, Tryd.ntmps50
  go_wp2_with fail
  go_ret
  exact ⟨rfl, rfl⟩
theorem numberAtG (b k : Nat) (hk : k < 5) (w : World) :
    Calls Tryd.prog 50 #[.pointer (some ⟨b, 0, none⟩), .string ⟨(wordL k).toArray⟩] w fun e w' => e = .returned (.pointer (some ⟨b, k, none⟩)) ∧ w = w' := by
  rcases (by omega : k = 0 ∨ k = 1 ∨ k = 2 ∨ k = 3 ∨ k = 4) with rfl | rfl | rfl | rfl | rfl
  · exact numberAt_0 b w
  · exact numberAt_1 b w
  · exact numberAt_2 b w
  · exact numberAt_3 b w
  · exact numberAt_4 b w
end Go.Proofs.YtnnbhgnllbjmeaaDoor

namespace Go.Proofs.YtnnbhgnllbjmeaaDoor
open Go.RowKit

/-- The separator of one byte. -/
theorem sep_one (c : UInt8) : (⟨[UInt8.ofNat c.toNat].toArray⟩ : ByteArray).data.toList = [c] := by simp

/-- A row that is made whole. -/
theorem ownsRow_whole {w : World} {base : Nat} {T : TypeId} (xs : List Value) (n : Nat) (hn : n = xs.length) (hb : base ≤ w.heap.size) (hm : n ≤ maxLen) :
    (w.alloc (.cells xs.toArray T)).ownsRow base T 1 (.slice (some ⟨w.heap.size, 0, none⟩) n n) n xs :=
  ⟨by omega, Or.inr ⟨w.heap.size, n, xs.toArray, rfl, hb, heap_alloc_new w _, Nat.le_refl _, hm, by simp; omega, by subst hn; simp⟩⟩

set_option maxRecDepth 100000 in
theorem implParts (s : ByteArray) (c : UInt8) (m : Int) (w : World) (hsz : s.size ≤ 1048576) (hm : w.cell? ⟨0, 0, none⟩ = some (.int .i64 m)) :
    Calls Tryd.prog 34 #[.string s, .int .u8 (c.toNat : Int)] w fun e w' => ∃ v, e = .returned v ∧ w'.ownsRow w.heap.size 9 1 v (partsL c s.data.toList).length (strCells (partsL c s.data.toList)) ∧ Below w.heap.size w w' := by
  have kc := conv_one Tryd.underlying49 Tryd.underlying5 Tryd.underlying9 c.toNat (by have := c.toNat_lt; omega) (c.toNat : Int) rfl 1
  have hm1 : (w.alloc (.cells #[.int .u8 (c.toNat : Int)] 5)).cell? ⟨0, 0, none⟩ = some (.int .i64 m) := by
    rw [← hm]; exact ((Below.refl w.heap.size w).alloc (Nat.le_refl _) _).cell (World.block_lt_of_cell? w _ hm)
  go_enter Tryd.func34, Tryd.ntmps34
  go_wp2_with fail
  refine (Tryd.strings_Split s ⟨#[c]⟩ m _ (by omega) hm1 (Nat.le_refl 1)).mono ?_
  rintro e w1 ⟨rfl, rfl⟩
  go_wp2_with fail
  go_ret
  have hn := countB_parts s ⟨#[c]⟩ c rfl
  have hl := parts_len (c := c) s.data.toList
  have hln : s.data.toList.length = s.size := (Lib.size_eq s).symm
  refine ⟨_, rfl, ?_, ((Below.refl _ _).alloc (Nat.le_refl _) _).alloc (by simp) _⟩
  rw [splitB_cells s ⟨#[c]⟩ c rfl, hn]
  have h := ownsRow_whole (w := w.alloc (.cells #[.int .u8 (c.toNat : Int)] 5)) (base := w.heap.size) (T := 9) (strCells (partsL c s.data.toList)) _ (strCells_len _).symm (by simp) (by unfold maxLen; omega)
  have e : (w.alloc (.cells #[.int .u8 (c.toNat : Int)] 5)).heap.size = w.heap.size + 1 := by simp
  rw [e] at h
  exact h
end Go.Proofs.YtnnbhgnllbjmeaaDoor

