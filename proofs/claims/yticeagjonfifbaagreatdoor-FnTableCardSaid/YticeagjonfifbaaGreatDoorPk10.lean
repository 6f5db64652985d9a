/-
  What spec.Digits answers, at every integer: the walk.
  The program's way through a text of rows: plain mathematics.
  The laws' own helpers on lists of numbers: equal, their size, their copy, their marks.
-/
import Derived.Test.YticeagjonfifbaaGreatDoorPk1
import Derived.Lib.ReplaceLaws
import Derived.Lib.IndexLaws
import Derived.Lib.CountLaws
import Derived.Lib.IndexAny
import Derived.Laws.RangeAny
import Derived.Test.YticeagjonfifbaaGreatDoorPk9
import Derived.Deep.QuietTactic
import Derived.BigQuiet
import Derived.RegionTactic
namespace Go.Proofs.YticeagjonfifbaaGreatDoor
open Go.RowKit

theorem ret_str {a b : List UInt8} (h : a = b) : Ending.returned (.string ⟨a.toArray⟩) = .returned (.string ⟨b.toArray⟩) := by rw [h]
theorem ret_add {a b : ByteArray} {c : List UInt8} (h : a ++ b = ⟨c.toArray⟩) : Ending.returned (.string (a ++ b)) = .returned (.string ⟨c.toArray⟩) := by rw [h]
theorem digInv_done {u v : Nat} {l : List UInt8} (h : DigInv u v l) (hv : v = 0) : l = Lib.decDigits u := by
  rcases h with ⟨_, _, h⟩ | ⟨h, _⟩
  · exact h
  · exact absurd hv h

set_option maxRecDepth 100000 in
set_option maxHeartbeats 400000 in
theorem specDigits_pos (u : Nat) (hu : u ≠ 0) (hb : u ≤ 9223372036854775807) (w : World) :
    Calls Tryz.prog 81 #[.int .i64 u] w fun e w' => e = .returned (.string ⟨(Lib.decDigits u).toArray⟩) ∧ Below w.heap.size w w' := by
  have hz : ((u : Int) == 0) = false := by simpa using hu
  go_enter Tryz.func81, Tryz.ntmps81
  go_wp2
  go_loopw [0, 4, 5] (fun n o d wr => ∃ (v : Nat) (l : List UInt8), v ≤ u ∧ n = .int .i64 v ∧ o = .string ⟨l.toArray⟩ ∧ DigInv u v l ∧ Below w.heap.size w wr) (fun n _ _ _ => (intOf n).toNat)
  case atStart => exact ⟨u, [], Nat.le_refl _, rfl, rfl, digInv_start hu, Below.refl _ _⟩
  case round =>
    obtain ⟨v, l, hv, rfl, rfl, hI, hB⟩ := hrel
    have hlen := digInv_len hI
    have hdec := decDigits_len (u := u) (by omega)
    by_cases h0 : v = 0
    · have hz0 : ((v : Int) != 0) = false := by simp [h0]
      have hlu : ¬ ((u : Int) < 0) := by omega
      have H0 := Lib.hid h0
      clear h0
      go_wp2
      go_ret
      exact ⟨ret_str (digInv_done hI H0.out), hB⟩
    · have hI2 := digInv_step hI h0
      have kc := conv_one Tryz.underlying22 Tryz.underlying5 Tryz.underlying9 (48 + v % 10) (by omega) (48 + (v : Int) % 10) (by omega) 1
      have hsum : 1 + l.length ≤ 9223372036854775807 := by omega
      go_wp2
      go_roundw
      case rel => exact ⟨v / 10, _, by omega, by go_num, rfl, by simpa using hI2, hB.alloc hB.size _⟩
      case measure => simp [intOf]; omega

set_option maxRecDepth 100000 in
set_option maxHeartbeats 400000 in
theorem specDigits_neg (u : Nat) (hu : u ≠ 0) (hb : u ≤ 9223372036854775808) (w : World) :
    Calls Tryz.prog 81 #[.int .i64 (-(u : Int))] w fun e w' => e = .returned (.string ⟨(45 :: Lib.decDigits u).toArray⟩) ∧ Below w.heap.size w w' := by
  have hz : ((-(u : Int)) == 0) = false := by simpa using hu
  go_enter Tryz.func81, Tryz.ntmps81
  go_wp2
  go_loopw [0, 4, 5] (fun n o d wr => ∃ (v : Nat) (l : List UInt8), v ≤ u ∧ n = .int .i64 (-(v : Int)) ∧ o = .string ⟨l.toArray⟩ ∧ DigInv u v l ∧ Below w.heap.size w wr) (fun n _ _ _ => (- intOf n).toNat)
  case atStart => exact ⟨u, [], Nat.le_refl _, rfl, rfl, digInv_start hu, Below.refl _ _⟩
  case round =>
    obtain ⟨v, l, hv, rfl, rfl, hI, hB⟩ := hrel
    have hlen := digInv_len hI
    have hdec := decDigits_len (u := u) hb
    by_cases h0 : v = 0
    · have hz0 : ((-(v : Int)) != 0) = false := by simp [h0]
      have hlu : (-(u : Int) < 0) := by omega
      have H0 := Lib.hid h0
      clear h0
      have hsum : 1 + l.length ≤ 9223372036854775807 := by omega
      go_wp2
      go_ret
      exact ⟨ret_add (by rw [digInv_done hI H0.out]; rfl), hB⟩
    · have hI2 := digInv_step hI h0
      have hsum : 1 + l.length ≤ 9223372036854775807 := by omega
      by_cases hd : 0 < v % 10
      · have kc := conv_one Tryz.underlying22 Tryz.underlying5 Tryz.underlying9 (48 + v % 10) (by omega) (48 + (v : Int) % 10) (by omega) 1
        go_wp2
        go_roundw
        case rel => exact ⟨v / 10, _, by omega, by go_num, rfl, by simpa using hI2, hB.alloc hB.size _⟩
        case measure => simp [intOf]; omega
      · have kc := conv_one Tryz.underlying22 Tryz.underlying5 Tryz.underlying9 (48 + v % 10) (by omega) (48 + -((v : Int) % 10)) (by omega) 1
        go_wp2
        go_roundw
        case rel => exact ⟨v / 10, _, by omega, by go_num, rfl, by simpa using hI2, hB.alloc hB.size _⟩
        case measure => simp [intOf]; omega
end Go.Proofs.YticeagjonfifbaaGreatDoor
namespace Go.Proofs.YticeagjonfifbaaGreatDoor
open Go

/-- All instances are replaced: one of them. -/
theorem replAll_hit {s old new : List UInt8} {i : Nat} (ho : old ≠ []) (hne : old ≠ new) (h : Lib.index s old = i) : Lib.replaceAll s old new = s.take i ++ new ++ Lib.replaceAll (s.drop (i + old.length)) old new := by
  have hb : (old == new) = false := by simpa using hne
  have hc := Lib.count_hit ho h
  unfold Lib.replaceAll Lib.replace Lib.replaceNum
  rw [hb]
  simp only [Bool.false_eq_true, if_false]
  rw [if_pos (Or.inl (by decide)), if_pos (Or.inl (by decide)), hc, Nat.add_comm 1, Lib.replaceK_hit _ _ _ _ _ h]
theorem replAll_none {s old new : List UInt8} (h : Lib.index s old = -1) : Lib.replaceAll s old new = s := by
  unfold Lib.replaceAll Lib.replace Lib.replaceNum
  split
  · rfl
  · rw [if_pos (Or.inl (by decide)), Lib.count_miss h, Lib.replaceK]
theorem idx_pre (t r : List UInt8) : ∀ p : List UInt8, 34 ∉ p → Lib.index (p ++ ((34 :: t) ++ r)) (34 :: t) = p.length
  | [], _ => by
    show Lib.index (34 :: (t ++ r)) (34 :: t) = 0
    unfold Lib.index
    exact if_pos (List.isPrefixOf_iff_prefix.2 ⟨r, rfl⟩)
  | c :: p, h => by
    have hc : c ≠ 34 := by rintro rfl; simp at h
    have ih := idx_pre t r p (by intro e; apply h; simp [e])
    show Lib.index (c :: (p ++ ((34 :: t) ++ r))) (34 :: t) = _
    unfold Lib.index
    rw [ih, if_neg, if_neg]
    · simp
    · intro e
      have := beq_iff_eq.1 e
      omega
    · intro e
      obtain ⟨u, hu⟩ := List.isPrefixOf_iff_prefix.1 e
      rw [List.cons_append] at hu
      injection hu with hu _
      exact hc hu.symm
theorem idx_no (t : List UInt8) : ∀ p : List UInt8, 34 ∉ p → Lib.index p (34 :: t) = -1
  | [], _ => rfl
  | c :: p, h => by
    have hc : c ≠ 34 := by rintro rfl; simp at h
    have ih := idx_no t p (by intro e; apply h; simp [e])
    unfold Lib.index
    rw [ih, if_neg]
    · rfl
    intro e
    obtain ⟨u, hu⟩ := List.isPrefixOf_iff_prefix.1 e
    rw [List.cons_append] at hu
    injection hu with hu _
    exact hc hu.symm
theorem dblL_no : ∀ f : List UInt8, 34 ∉ f → dblL f = f
  | [], _ => rfl
  | c :: p, h => by
    have hc : c ≠ 34 := by rintro rfl; simp at h
    rw [dblL, if_neg hc, dblL_no p (by intro e; apply h; simp [e])]
/-- Quotes are doubled by replacing. -/
theorem rep_dbl : ∀ (n : Nat) (f : List UInt8), f.length ≤ n → Lib.replaceAll f [34] [34, 34] = dblL f := by
  intro n
  induction n with
  | zero =>
    intro f h
    obtain rfl : f = [] := List.length_eq_zero_iff.1 (by omega)
    exact replAll_none rfl
  | succ n ih =>
    intro f h
    by_cases hm : 34 ∈ f
    · obtain ⟨p, g, rfl, hp⟩ := List.eq_append_cons_of_mem hm
      have hi : Lib.index (p ++ 34 :: g) [34] = p.length := idx_pre [] g p hp
      rw [replAll_hit (by simp) (by decide) hi]
      have e1 : (p ++ 34 :: g).take p.length = p := by simp
      have e2 : (p ++ 34 :: g).drop (p.length + [(34 : UInt8)].length) = g := by simp
      rw [e1, e2, ih g (by simp at h; omega), dblL_append, dblL_no p hp]
      show _ = p ++ dblL (34 :: g)
      rw [dblL, if_pos rfl]
      simp
    · rw [replAll_none (idx_no [] f hm), dblL_no f hm]
/-- Doubled quotes are undone by replacing. -/
theorem rep_undbl : ∀ (n : Nat) (f : List UInt8), f.length ≤ n → Lib.replaceAll (dblL f) [34, 34] [34] = f := by
  intro n
  induction n with
  | zero =>
    intro f h
    obtain rfl : f = [] := List.length_eq_zero_iff.1 (by omega)
    exact replAll_none rfl
  | succ n ih =>
    intro f h
    by_cases hm : 34 ∈ f
    · obtain ⟨p, g, rfl, hp⟩ := List.eq_append_cons_of_mem hm
      have e0 : dblL (p ++ 34 :: g) = p ++ 34 :: 34 :: dblL g := by rw [dblL_append, dblL_no p hp, dblL, if_pos rfl]
      have hi : Lib.index (p ++ 34 :: 34 :: dblL g) [34, 34] = p.length := idx_pre [34] (dblL g) p hp
      rw [e0, replAll_hit (by simp) (by decide) hi]
      have e1 : (p ++ 34 :: 34 :: dblL g).take p.length = p := by simp
      have e2 : (p ++ 34 :: 34 :: dblL g).drop (p.length + [(34 : UInt8), 34].length) = dblL g := by simp
      rw [e1, e2, ih g (by simp at h; omega)]
      simp
    · rw [dblL_no f hm, replAll_none (idx_no [34] f hm)]
theorem any_sp : ∀ l : List UInt8, Lib.containsAny l [44, 34, 10, 13] = l.any spB := by
  intro l
  induction l with
  | nil => rfl
  | cons c t ih =>
    have hs : [(44 : UInt8), 34, 10, 13].contains c = spB c := by
      rw [spB, Bool.eq_iff_iff]
      simp [Bool.or_assoc]
    unfold Lib.containsAny at ih ⊢
    have hg := Lib.indexAny_ge [44, 34, 10, 13] t
    rw [Lib.indexAny, hs, List.any_cons]
    cases hc : spB c
    · rw [if_neg (by simp), Bool.false_or, ← ih]
      by_cases h : Lib.indexAny t [44, 34, 10, 13] = -1
      · rw [h]; rfl
      · rw [if_neg (by simpa using h)]
        have h0 : 0 ≤ Lib.indexAny t [44, 34, 10, 13] := by omega
        rw [decide_eq_true h0, decide_eq_true (by omega)]
    · simp
/-- A FIELD'S TEXT, THE PROGRAM'S WAY. -/
theorem csvF_prog (l : List UInt8) : csvF l = if Lib.containsAny l [44, 34, 10, 13] = true then 34 :: (Lib.replaceAll l [34] [34, 34] ++ [34]) else l := by
  rw [any_sp, rep_dbl _ l (Nat.le_refl _)]
  rfl

theorem suf_one (a : List UInt8) (d c : UInt8) : Lib.hasSuffix (a ++ [d]) [c] = decide (c = d) := by
  unfold Lib.hasSuffix
  rw [Bool.eq_iff_iff, List.isSuffixOf_iff_suffix, decide_eq_true_eq]
  constructor
  · rintro ⟨t, ht⟩
    have := List.append_inj_right' ht rfl
    injection this
  · rintro rfl
    exact List.suffix_append _ _
theorem trs_same (a : List UInt8) (c : UInt8) : Lib.trimSuffix (a ++ [c]) [c] = a := by
  rw [Lib.trimSuffix, suf_one]
  simp
theorem trs_ne (a : List UInt8) {d c : UInt8} (h : d ≠ c) : Lib.trimSuffix (a ++ [d]) [c] = a ++ [d] := by
  rw [Lib.trimSuffix, suf_one, if_neg]
  simpa using fun e => h e.symm
theorem pre_one (a : List UInt8) (d c : UInt8) : Lib.hasPrefix (d :: a) [c] = decide (c = d) := by
  unfold Lib.hasPrefix
  rw [Bool.eq_iff_iff, List.isPrefixOf_iff_prefix, decide_eq_true_eq]
  constructor
  · rintro ⟨t, ht⟩
    rw [List.cons_append] at ht
    injection ht
  · rintro rfl
    exact ⟨a, rfl⟩

/-- What a field's text stands for, the program's way. -/
def fv7 (t : List UInt8) : List UInt8 :=
  if Lib.hasPrefix (Lib.trimSuffix t [13]) [34] = true then Lib.replaceAll (Lib.trimSuffix (Lib.trimPrefix (Lib.trimSuffix t [13]) [34]) [34]) [34, 34] [34] else Lib.trimSuffix t [13]
theorem fv7_core {t f : List UInt8} (h : Lib.trimSuffix t [13] = 34 :: (dblL f ++ [34])) : fv7 t = f := by
  rw [fv7, h, if_pos (by rw [pre_one]; rfl), Lib.trimPrefix, if_pos (by rw [pre_one]; rfl)]
  show Lib.replaceAll (Lib.trimSuffix (dblL f ++ [34]) [34]) [34, 34] [34] = f
  rw [trs_same, rep_undbl _ f (Nat.le_refl _)]
theorem fv7_q (f : List UInt8) : fv7 (34 :: (dblL f ++ [34])) = f := fv7_core (by
  have := trs_ne (34 :: dblL f) (d := 34) (c := 13) (by decide)
  simpa using this)
theorem fv7_qr (f : List UInt8) : fv7 (34 :: (dblL f ++ [34]) ++ [13]) = f := fv7_core (trs_same _ _)
theorem fv7_nil : fv7 [] = [] := rfl
theorem fv7_nilr : fv7 [13] = [] := rfl
theorem sp_ne {c : UInt8} (h : spB c = false) : c ≠ 44 ∧ c ≠ 34 ∧ c ≠ 10 ∧ c ≠ 13 := by
  simp only [spB, Bool.or_eq_false_iff, beq_eq_false_iff_ne] at h
  exact ⟨h.1.1.1, h.1.1.2, h.1.2, h.2⟩
theorem fv7_p {p : List UInt8} (h : p.any spB = false) : fv7 p = p := by
  rcases List.eq_nil_or_concat p with rfl | ⟨a, d, rfl⟩
  · rfl
  · rw [List.concat_eq_append] at h ⊢
    rw [List.any_append, Bool.or_eq_false_iff] at h
    have hd := sp_ne (c := d) (by simpa using h.2)
    have e : Lib.trimSuffix (a ++ [d]) [13] = a ++ [d] := trs_ne a hd.2.2.2
    rw [fv7, e, if_neg]
    cases a with
    | nil => rw [List.nil_append, pre_one]; simpa using fun e => hd.2.1 e.symm
    | cons x y =>
      have hx := sp_ne (c := x) (by simp only [List.any_cons, Bool.or_eq_false_iff] at h; exact h.1.1)
      rw [List.cons_append, pre_one]
      simpa using fun e => hx.2.1 e.symm
theorem fv7_pr {p : List UInt8} (h : p.any spB = false) : fv7 (p ++ [13]) = p := by
  have e : Lib.trimSuffix (p ++ [13]) [13] = p := trs_same p 13
  rw [fv7, e, if_neg]
  cases p with
  | nil => decide
  | cons x y =>
    have hx := sp_ne (c := x) (by simp only [List.any_cons, Bool.or_eq_false_iff] at h; exact h.1)
    rw [pre_one]
    simpa using fun e => hx.2.1 e.symm

/-- The state behind a byte. -/
def st7 (q : Nat) (c : UInt8) : Nat :=
  if q = 3 then (if c = 34 then 4 else 3)
  else if q = 5 ∧ c ≠ 10 then 6
  else if c = 10 then 0
  else if c = 13 then 5
  else if c = 44 then 1
  else if c = 34 then (if q = 2 then 6 else 3)
  else if q = 4 then 6
  else 2
/-- What the program's reading comes to, from a state on. -/
def mach : List UInt8 → Nat → List UInt8 → List (List UInt8) → List (List (List UInt8)) → List (List (List UInt8)) ⊕ (Nat × Nat)
  | [], q, cur, row, rows => if q = 3 ∨ q = 5 then .inr (rows.length, row.length) else if q = 0 then .inl rows else .inl (rows ++ [row ++ [fv7 cur]])
  | c :: t, q, cur, row, rows =>
    if st7 q c = 1 then mach t 1 [] (row ++ [fv7 cur]) rows
    else if st7 q c = 0 then mach t 0 [] [] (rows ++ [row ++ [fv7 cur]])
    else if st7 q c = 6 then .inr (rows.length, row.length)
    else mach t (st7 q c) (cur ++ [c]) row rows
/-- Behind a field. -/
def beh (f : List UInt8) (row : List (List UInt8)) (rows : List (List (List UInt8))) : List UInt8 → List (List (List UInt8)) ⊕ (Nat × Nat)
  | [] => .inl (rows ++ [row ++ [f]])
  | c :: t =>
    if c = 44 then mach t 1 [] (row ++ [f]) rows
    else if c = 10 then mach t 0 [] [] (rows ++ [row ++ [f]])
    else if c = 13 ∧ t.head? = some 10 then mach t.tail 0 [] [] (rows ++ [row ++ [f]])
    else .inr (rows.length, row.length)
theorem mach_beh {q : Nat} {cur f l : List UInt8} (row : List (List UInt8)) (rows : List (List (List UInt8))) (hq : q = 0 ∨ q = 1 ∨ q = 2 ∨ q = 4) (h1 : fv7 cur = f) (h2 : fv7 (cur ++ [13]) = f)
    (hl : (l = [] ∧ q ≠ 0) ∨ ∃ c t, l = c :: t ∧ (c = 44 ∨ c = 10 ∨ c = 13 ∨ (q = 4 ∧ c ≠ 34))) : mach l q cur row rows = beh f row rows l := by
  rcases hl with ⟨rfl, h0⟩ | ⟨c, t, rfl, hc⟩
  · rw [mach, beh, if_neg (by omega), if_neg h0, h1]
  · have hq3 : q ≠ 3 := by omega
    have hq5 : q ≠ 5 := by omega
    rw [mach, beh]
    by_cases c44 : c = 44
    · subst c44
      have e : st7 q 44 = 1 := by simp [st7, hq3, hq5]
      rw [e, if_pos rfl, if_pos rfl, h1]
    rw [if_neg c44]
    by_cases c10 : c = 10
    · subst c10
      have e : st7 q 10 = 0 := by simp [st7, hq3]
      rw [e, if_neg (by decide), if_pos rfl, if_pos rfl, h1]
    rw [if_neg c10]
    by_cases c13 : c = 13
    · subst c13
      have e : st7 q 13 = 5 := by simp [st7, hq3, hq5]
      rw [e, if_neg (by decide), if_neg (by decide), if_neg (by decide)]
      cases t with
      | nil => rw [mach, if_pos (Or.inr rfl), if_neg (by simp)]
      | cons d u =>
        rw [mach]
        by_cases d10 : d = 10
        · subst d10
          have e : st7 5 10 = 0 := by decide
          rw [e, if_neg (by decide), if_pos rfl, if_pos ⟨rfl, rfl⟩, h2]
          rfl
        · have e : st7 5 d = 6 := by simp [st7, d10]
          rw [e, if_neg (by decide), if_neg (by decide), if_pos rfl, if_neg (show ¬ ((13 : UInt8) = 13 ∧ (d :: u).head? = some 10) by simp [d10])]
    · rw [if_neg (show ¬ (c = 13 ∧ t.head? = some 10) by simp [c13])]
      have h4 : q = 4 ∧ c ≠ 34 := by
        rcases hc with h | h | h | h
        · exact absurd h c44
        · exact absurd h c10
        · exact absurd h c13
        · exact h
      obtain ⟨rfl, c34⟩ := h4
      have e : st7 4 c = 6 := by simp [st7, c10, c13, c44, c34]
      rw [e, if_neg (by decide), if_neg (by decide), if_pos rfl]
theorem mach_u (row : List (List UInt8)) (rows : List (List (List UInt8))) : ∀ (l p : List UInt8), p.any spB = false → mach l 2 p row rows = match rdU l with
    | none => .inr (rows.length, row.length)
    | some (f, r) => beh (p ++ f) row rows r
  | [], p, h => by
    rw [mach_beh row rows (by omega) (fv7_p h) (fv7_pr h) (Or.inl ⟨rfl, by decide⟩)]
    simp [rdU]
  | c :: t, p, h => by
    rw [rdU]
    by_cases hc : c = 44 ∨ c = 10 ∨ c = 13
    · rw [mach_beh row rows (by omega) (fv7_p h) (fv7_pr h) (Or.inr ⟨c, t, rfl, by rcases hc with e | e | e <;> simp [e]⟩), if_pos hc]
      simp
    · rw [if_neg hc]
      by_cases c34 : c = 34
      · subst c34
        rw [if_pos rfl, mach]
        have e : st7 2 34 = 6 := by decide
        rw [e, if_neg (by decide), if_neg (by decide), if_pos rfl]
      · rw [if_neg c34, mach]
        have hc' : c ≠ 44 ∧ c ≠ 10 ∧ c ≠ 13 := ⟨fun e => hc (by simp [e]), fun e => hc (by simp [e]), fun e => hc (by simp [e])⟩
        have e : st7 2 c = 2 := by simp [st7, hc'.1, hc'.2.1, hc'.2.2, c34]
        have hs : spB c = false := by simp [spB, hc'.1, hc'.2.1, hc'.2.2, c34]
        rw [e, if_neg (by decide), if_neg (by decide), if_neg (by decide), mach_u row rows t (p ++ [c]) (by rw [List.any_append, h]; simp [hs])]
        cases rdU t with
        | none => rfl
        | some x =>
          show beh (p ++ [c] ++ x.1) row rows x.2 = beh (p ++ (c :: x.1)) row rows x.2
          rw [List.append_assoc]
          rfl
theorem mach_q (row : List (List UInt8)) (rows : List (List (List UInt8))) : ∀ (n : Nat) (l f0 : List UInt8), l.length ≤ n → mach l 3 (34 :: dblL f0) row rows = match rdQ l with
    | none => .inr (rows.length, row.length)
    | some (f, r) => beh (f0 ++ f) row rows r := by
  intro n
  induction n with
  | zero =>
    intro l f0 h
    obtain rfl : l = [] := List.length_eq_zero_iff.1 (by omega)
    rw [mach, if_pos (Or.inl rfl)]
    rfl
  | succ n ih =>
    intro l f0 h
    cases l with
    | nil =>
      rw [mach, if_pos (Or.inl rfl)]
      rfl
    | cons c t =>
      simp only [List.length_cons] at h
      by_cases c34 : c = 34
      · subst c34
        have e : st7 3 34 = 4 := by decide
        rw [mach, e, if_neg (by decide), if_neg (by decide), if_neg (by decide)]
        by_cases hh : t.head? = some 34
        · cases t with
          | nil => cases hh
          | cons d u =>
            obtain rfl : d = 34 := by simpa using hh
            have e : st7 4 34 = 3 := by decide
            have e2 : 34 :: dblL f0 ++ [34] ++ [34] = 34 :: dblL (f0 ++ [34]) := by
              rw [dblL_append]
              simp [dblL]
            rw [mach, e, if_neg (by decide), if_neg (by decide), if_neg (by decide), e2, ih u (f0 ++ [34]) (by simp at h; omega), rdQ_two]
            cases rdQ u with
            | none => rfl
            | some x =>
              show beh (f0 ++ [34] ++ x.1) row rows x.2 = beh (f0 ++ (34 :: x.1)) row rows x.2
              rw [List.append_assoc]
              rfl
        · rw [rdQ_end hh]
          show _ = beh (f0 ++ []) row rows t
          rw [List.append_nil]
          refine mach_beh row rows (by omega) (fv7_q f0) (fv7_qr f0) ?_
          cases t with
          | nil => exact Or.inl ⟨rfl, by decide⟩
          | cons d u => exact Or.inr ⟨d, u, rfl, Or.inr (Or.inr (Or.inr ⟨rfl, fun e => hh (by rw [e]; rfl)⟩))⟩
      · have e : st7 3 c = 3 := by simp [st7, c34]
        have e2 : 34 :: dblL f0 ++ [c] = 34 :: dblL (f0 ++ [c]) := by
          rw [dblL_append]
          simp [dblL, c34]
        rw [mach, e, if_neg (by decide), if_neg (by decide), if_neg (by decide), e2, ih t (f0 ++ [c]) (by omega), rdQ_plain c34]
        cases rdQ t with
        | none => rfl
        | some x =>
          show beh (f0 ++ [c] ++ x.1) row rows x.2 = beh (f0 ++ (c :: x.1)) row rows x.2
          rw [List.append_assoc]
          rfl
/-- From a field's start on. -/
theorem mach_f {q : Nat} (hq : q = 0 ∨ q = 1) (row : List (List UInt8)) (rows : List (List (List UInt8))) (l : List UInt8) (hl : l = [] → q = 1) : mach l q [] row rows = match rdF l with
    | none => .inr (rows.length, row.length)
    | some (f, r) => beh f row rows r := by
  cases l with
  | nil =>
    obtain rfl := hl rfl
    rfl
  | cons c t =>
    have hq3 : q ≠ 3 := by omega
    have hq5 : q ≠ 5 := by omega
    have hq4 : q ≠ 4 := by omega
    have hq2 : q ≠ 2 := by omega
    rw [rdF]
    by_cases c34 : c = 34
    · subst c34
      have e : st7 q 34 = 3 := by simp [st7, hq3, hq5, hq2]
      rw [if_pos rfl, mach, e, if_neg (by decide), if_neg (by decide), if_neg (by decide)]
      exact mach_q row rows _ t [] (Nat.le_refl _)
    · rw [if_neg c34, rdU]
      by_cases hc : c = 44 ∨ c = 10 ∨ c = 13
      · rw [if_pos hc]
        exact mach_beh row rows (by omega) fv7_nil fv7_nilr (Or.inr ⟨c, t, rfl, by rcases hc with e | e | e <;> simp [e]⟩)
      · have hc' : c ≠ 44 ∧ c ≠ 10 ∧ c ≠ 13 := ⟨fun e => hc (by simp [e]), fun e => hc (by simp [e]), fun e => hc (by simp [e])⟩
        have e : st7 q c = 2 := by simp [st7, hc'.1, hc'.2.1, hc'.2.2, c34, hq3, hq5, hq4]
        have hs : spB c = false := by simp [spB, hc'.1, hc'.2.1, hc'.2.2, c34]
        rw [if_neg hc, if_neg c34, mach, e, if_neg (by decide), if_neg (by decide), if_neg (by decide), mach_u row rows t _ (by simp [hs])]
        cases rdU t with
        | none => rfl
        | some x => rfl
/-- What a row's reading leads to. -/
def contR (m : Nat) (rows : List (List (List UInt8))) : (List (List UInt8) × List UInt8) ⊕ Nat → List (List (List UInt8)) ⊕ (Nat × Nat)
  | .inr j => .inr (rows.length, j)
  | .inl (row, r) => rdAll m r (rows ++ [row])
theorem mach_all : ∀ (n : Nat) (l : List UInt8), l.length ≤ n →
    (∀ (row : List (List UInt8)) (rows : List (List (List UInt8))) (k m : Nat), l.length < k → l.length < m → mach l 1 [] row rows = contR m rows (rdRow k l row)) ∧
    (∀ (rows : List (List (List UInt8))) (m : Nat), l.length < m → mach l 0 [] [] rows = rdAll m l rows) := by
  intro n
  induction n with
  | zero =>
    intro l h
    obtain rfl : l = [] := List.length_eq_zero_iff.1 (by omega)
    refine ⟨fun row rows k m hk hm => ?_, fun rows m hm => ?_⟩
    · obtain ⟨k, rfl⟩ : ∃ j, k = j + 1 := ⟨k - 1, by simp at hk; omega⟩
      obtain ⟨m, rfl⟩ : ∃ j, m = j + 1 := ⟨m - 1, by simp at hm; omega⟩
      rfl
    · obtain ⟨m, rfl⟩ : ∃ j, m = j + 1 := ⟨m - 1, by simp at hm; omega⟩
      rfl
  | succ n ih =>
    intro l h
    have B : ∀ (q : Nat) (row : List (List UInt8)) (rows : List (List (List UInt8))) (k m : Nat), q = 0 ∨ q = 1 → (l = [] → q = 1) → l.length < k + 1 → l.length < m + 1 → mach l q [] row rows = contR m rows (rdRow (k + 1) l row) := by
      intro q row rows k m hq hl hk hm
      rw [mach_f hq row rows l hl, rdRow]
      cases hf : rdF l with
      | none => rfl
      | some x =>
        obtain ⟨f, r⟩ := x
        have hlen := rdF_len hf
        cases r with
        | nil =>
          show Sum.inl (rows ++ [row ++ [f]]) = rdAll m [] (rows ++ [row ++ [f]])
          cases m <;> rfl
        | cons c t =>
          simp only [List.length_cons] at hlen
          have iht := ih t (by omega)
          show beh f row rows (c :: t) = contR m rows (if c = 44 then rdRow k t (row ++ [f]) else if c = 10 then .inl (row ++ [f], t) else if c = 13 ∧ t.head? = some 10 then .inl (row ++ [f], t.tail) else .inr row.length)
          rw [beh]
          by_cases c44 : c = 44
          · rw [if_pos c44, if_pos c44]
            exact iht.1 (row ++ [f]) rows k m (by omega) (by omega)
          rw [if_neg c44, if_neg c44]
          by_cases c10 : c = 10
          · rw [if_pos c10, if_pos c10]
            exact iht.2 (rows ++ [row ++ [f]]) m (by omega)
          rw [if_neg c10, if_neg c10]
          by_cases c13 : c = 13 ∧ t.head? = some 10
          · rw [if_pos c13, if_pos c13]
            have ihu := ih t.tail (by rw [List.length_tail]; omega)
            exact ihu.2 (rows ++ [row ++ [f]]) m (by rw [List.length_tail]; omega)
          · rw [if_neg c13, if_neg c13]
            rfl
    refine ⟨fun row rows k m hk hm => ?_, fun rows m hm => ?_⟩
    · obtain ⟨k, rfl⟩ : ∃ j, k = j + 1 := ⟨k - 1, by omega⟩
      exact B 1 row rows k m (Or.inr rfl) (fun _ => rfl) hk (by omega)
    · obtain ⟨m, rfl⟩ : ∃ j, m = j + 1 := ⟨m - 1, by omega⟩
      cases l with
      | nil => rfl
      | cons c t =>
        rw [B 0 [] rows (t.length + 1) m (Or.inl rfl) (by simp) (by simp) (by omega), rdAll]
        cases rdRow (t.length + 1 + 1) (c :: t) [] with
        | inr j => rfl
        | inl x => rfl
/-- THE PROGRAM'S READING IS THE REFERENCE'S. -/
theorem mach_rd (l : List UInt8) : mach l 0 [] [] [] = rdCsv l := (mach_all l.length l (Nat.le_refl _)).2 [] (l.length + 1) (Nat.lt_succ_self _)

/-! The bytes of a rune. -/
/-- The state behind a rune. -/
def st7R (q r : Int) : Int :=
  if q = 3 then (if r = 34 then 4 else 3)
  else if q = 5 ∧ r ≠ 10 then 6
  else if r = 10 then 0
  else if r = 13 then 5
  else if r = 44 then 1
  else if r = 34 then (if q = 2 then 6 else 3)
  else if q = 4 then 6
  else 2
theorem st7R_byte (q : Nat) (c : UInt8) : st7R (q : Int) (c.toNat : Int) = (st7 q c : Int) := by
  have h : ∀ k : Nat, k < 256 → (((c.toNat : Int) = (k : Int)) ↔ c = UInt8.ofNat k) := by
    intro k hk
    constructor
    · intro e
      have e' : c.toNat = k := by omega
      rw [← e', UInt8.ofNat_toNat]
    · rintro rfl
      simp [UInt8.toNat_ofNat']
      omega
  have h34 : (c.toNat : Int) = 34 ↔ c = 34 := h 34 (by decide)
  have h10 : (c.toNat : Int) = 10 ↔ c = 10 := h 10 (by decide)
  have h13 : (c.toNat : Int) = 13 ↔ c = 13 := h 13 (by decide)
  have h44 : (c.toNat : Int) = 44 ↔ c = 44 := h 44 (by decide)
  unfold st7R st7
  have q3 : ((q : Int) = 3) ↔ q = 3 := by omega
  have q5 : ((q : Int) = 5) ↔ q = 5 := by omega
  have q2 : ((q : Int) = 2) ↔ q = 2 := by omega
  have q4 : ((q : Int) = 4) ↔ q = 4 := by omega
  simp only [q3, q5, q2, q4, h34, h10, h13, h44, ne_eq]
  repeat' split
  all_goals first | rfl | (exfalso; simp_all)
theorem st7_high (q : Nat) {c d : UInt8} (hc : 128 ≤ c.toNat) (hd : 128 ≤ d.toNat) : st7 q c = st7 q d := by
  have f : ∀ (x : UInt8), 128 ≤ x.toNat → x ≠ 34 ∧ x ≠ 10 ∧ x ≠ 13 ∧ x ≠ 44 := by
    intro x hx
    refine ⟨?_, ?_, ?_, ?_⟩ <;> (rintro rfl; revert hx; decide)
  have a := f c hc
  have b := f d hd
  simp [st7, a, b]
theorem st7R_high (q : Nat) {r : Int} {c : UInt8} (hr : 128 ≤ r) (hc : 128 ≤ c.toNat) : st7R (q : Int) r = (st7 q c : Int) := by
  have a : c ≠ 34 ∧ c ≠ 10 ∧ c ≠ 13 ∧ c ≠ 44 := by
    refine ⟨?_, ?_, ?_, ?_⟩ <;> (rintro rfl; revert hc; decide)
  have b : r ≠ 34 ∧ r ≠ 10 ∧ r ≠ 13 ∧ r ≠ 44 := ⟨by omega, by omega, by omega, by omega⟩
  unfold st7R st7
  have q3 : ((q : Int) = 3) ↔ q = 3 := by omega
  have q5 : ((q : Int) = 5) ↔ q = 5 := by omega
  have q4 : ((q : Int) = 4) ↔ q = 4 := by omega
  simp only [q3, q5, q4, a, b, ne_eq, not_false_eq_true, and_true, if_false]
  repeat' split
  all_goals rfl
/-- Bytes of a rune of more than one. -/
theorem mach_high : ∀ (h l : List UInt8) (q : Nat) (cur : List UInt8) (row : List (List UInt8)) (rows : List (List (List UInt8))), (∀ x ∈ h, 128 ≤ x.toNat) → q = 2 ∨ q = 3 → mach (h ++ l) q cur row rows = mach l q (cur ++ h) row rows
  | [], l, q, cur, row, rows, _, _ => by simp
  | c :: t, l, q, cur, row, rows, hh, hq => by
    have hc := hh c (by simp)
    have a : c ≠ 34 ∧ c ≠ 10 ∧ c ≠ 13 ∧ c ≠ 44 := by
      refine ⟨?_, ?_, ?_, ?_⟩ <;> (rintro rfl; revert hc; decide)
    have e : st7 q c = q := by
      rcases hq with rfl | rfl <;> simp [st7, a]
    rw [List.cons_append, mach, e, if_neg (by omega), if_neg (by omega), if_neg (by omega), mach_high t l q (cur ++ [c]) row rows (fun x hx => hh x (by simp [hx])) hq]
    simp
theorem decode_conts (s : ByteArray) (i : Nat) (j : Nat) (h1 : 1 ≤ j) (h2 : j < (Utf8.decode s i).2) : i + j < s.size ∧ 128 ≤ (s.get! (i + j)).toNat := by
  have key : ∀ n : Nat, (Utf8.decode s i).2 = n → (n = 1 ∨ (n = 2 ∧ i + 1 < s.size ∧ 128 ≤ (s.get! (i + 1)).toNat) ∨ (n = 3 ∧ i + 2 < s.size ∧ 128 ≤ (s.get! (i + 1)).toNat ∧ 128 ≤ (s.get! (i + 2)).toNat) ∨ (n = 4 ∧ i + 3 < s.size ∧ 128 ≤ (s.get! (i + 1)).toNat ∧ 128 ≤ (s.get! (i + 2)).toNat ∧ 128 ≤ (s.get! (i + 3)).toNat)) := by
    intro n hn
    simp only [Utf8.decode] at hn
    revert hn
    repeat' split
    all_goals intro hn
    all_goals simp only [Bool.and_eq_true, decide_eq_true_eq, beq_iff_eq] at *
    all_goals omega
  rcases key _ rfl with h | ⟨h, a, b⟩ | ⟨h, a, b, c⟩ | ⟨h, a, b, c, d⟩
  · omega
  · obtain rfl : j = 1 := by omega
    exact ⟨a, b⟩
  · obtain rfl | rfl : j = 1 ∨ j = 2 := by omega
    · exact ⟨by omega, b⟩
    · exact ⟨a, c⟩
  · obtain rfl | rfl | rfl : j = 1 ∨ j = 2 ∨ j = 3 := by omega
    · exact ⟨by omega, b⟩
    · exact ⟨by omega, c⟩
    · exact ⟨a, d⟩
end Go.Proofs.YticeagjonfifbaaGreatDoor
namespace Go.Proofs.YticeagjonfifbaaGreatDoor
open Go.RowKit

theorem infoInt : (Tryz.prog.info? 3).map (fun i => (i.zero, i.size, i.bytes)) = some (some (.int .i64 0), 1, 8) := by kernel_rfl

def intCells (zs : List Int) : List Value := zs.map fun z => Value.int .i64 z
theorem intCells_len (a : List Int) : (intCells a).length = a.length := List.length_map _
theorem intCells_at {zs : List Int} {j : Nat} {z : Int} (h : zs[j]? = some z) : (intCells zs)[j]? = some (.int .i64 z) := by
  unfold intCells
  rw [List.getElem?_map, h]
  rfl

/-- v reads as the numbers zs in w. -/
def IntRow (w : World) (v : Value) (zs : List Int) : Prop :=
  (zs = [] ∧ ∃ a c, v = .slice a 0 c) ∨ ∃ b off c, v = .slice (some ⟨b, off, none⟩) zs.length c ∧ zs.length ≤ 9223372036854775807 ∧ zs.length ≤ c ∧ (∀ (j : Nat) z, zs[j]? = some z → w.cell? ⟨b, off + j, none⟩ = some (.int .i64 z))

theorem intRow_of_owns {w : World} {base : Nat} {T : TypeId} {v : Value} {zs : List Int} (h : w.ownsRow base T 1 v zs.length (intCells zs)) (hl : zs.length ≤ 9223372036854775807) : IntRow w v zs := by
  rcases h.2 with ⟨rfl, h0⟩ | ⟨g, cap, cur, rfl, _, _, hnc, _, _, _⟩
  · exact Or.inl ⟨List.eq_nil_of_length_eq_zero h0, _, _, rfl⟩
  · refine Or.inr ⟨g, 0, cap, rfl, hl, hnc, fun j p hj => ?_⟩
    have hjl := (List.getElem?_eq_some_iff.1 hj).1
    rw [Nat.zero_add, h.cellAt j (by omega), intCells_at hj]
theorem IntRow.below {w w' : World} {v : Value} {zs : List Int} (h : IntRow w v zs) (hB : Below w.heap.size w w') : IntRow w' v zs := by
  rcases h with ⟨rfl, a, c, rfl⟩ | ⟨b, off, c, rfl, hl, hcap, hc⟩
  · exact Or.inl ⟨rfl, a, c, rfl⟩
  · refine Or.inr ⟨b, off, c, rfl, hl, hcap, fun j p hp => ?_⟩
    exact (hB.cell (p := ⟨b, off + j, none⟩) (World.block_lt_of_cell? w _ (hc j p hp))).trans (hc j p hp)
theorem intRow_form {w : World} {v : Value} {zs : List Int} (h : IntRow w v zs) : ∃ a c, v = .slice a zs.length c ∧ zs.length ≤ 9223372036854775807 ∧ (∀ (q : Nat) z, zs[q]? = some z → ∃ b off, a = some ⟨b, off, none⟩ ∧ w.cell? ⟨b, off + q, none⟩ = some (.int .i64 z)) := by
  rcases h with ⟨rfl, a, c, rfl⟩ | ⟨b, off, c, rfl, hl, _, hc⟩
  · exact ⟨a, c, rfl, by simp, by simp⟩
  · exact ⟨_, c, rfl, hl, fun q p hp => ⟨b, off, rfl, hc q p hp⟩⟩

set_option maxRecDepth 100000 in
theorem eqI_zero (w : World) (a b : Option Addr) (c d : Nat) :
    Calls Tryz.prog 64 #[.slice a 0 c, .slice b 0 d] w fun e w' => e = .returned (.bool true) ∧ w = w' := by
  go_enter Tryz.func64, Tryz.ntmps64
  go_wp2_with fail
  go_loop [5] (fun i => i = .int .i64 0) (fun _ => 0)
  case atStart => rfl
  case round =>
    subst hrel
    go_wp2_with fail
    go_ret
    exact ⟨rfl, rfl⟩

set_option maxRecDepth 100000 in
set_option maxHeartbeats 1000000 in
theorem eqI_some (w : World) (b1 o1 c1 b2 o2 c2 : Nat) (zs : List Int) (hl : zs.length ≤ 9223372036854775807)
    (h1 : ∀ (j : Nat) z, zs[j]? = some z → w.cell? ⟨b1, o1 + j, none⟩ = some (.int .i64 z)) (h2 : ∀ (j : Nat) z, zs[j]? = some z → w.cell? ⟨b2, o2 + j, none⟩ = some (.int .i64 z)) :
    Calls Tryz.prog 64 #[.slice (some ⟨b1, o1, none⟩) zs.length c1, .slice (some ⟨b2, o2, none⟩) zs.length c2] w fun e w' => e = .returned (.bool true) ∧ ∃ k, w' = w.drewN k := by
  have H1 := Lib.hid h1
  have H2 := Lib.hid h2
  clear h1 h2
  have HN : Hid (∃ n : Nat, zs.length = n) := ⟨_, rfl⟩
  obtain ⟨n, hn⟩ := HN.out
  rw [hn] at hl ⊢
  have HE := Lib.hid hn
  clear hn HN
  go_enter Tryz.func64, Tryz.ntmps64
  go_wp2_with fail
  go_loopw [4, 5] (fun _ i wr => ∃ (k q : Nat), k ≤ n ∧ i = .int .i64 k ∧ wr = w.drewN q) (fun _ i _ => n - (intOf i).toNat)
  case atStart => exact ⟨0, 0, Nat.zero_le _, rfl, rfl⟩
  case round =>
    obtain ⟨k, q, hk, rfl, rfl⟩ := hrel
    by_cases hlt : k < n
    · have hk1 : (k : Int) < n := by omega
      have hk0 : (0 : Int) ≤ k := by omega
      obtain ⟨p, hp⟩ : ∃ p, zs[k]? = some p := ⟨_, List.getElem?_eq_getElem (by rw [HE.out]; exact hlt)⟩
      have hc1 := H1.out k p hp
      have hc2 := H2.out k p hp
      have HP := Lib.hid hp
      clear hp
      go_wp2_with fail
      go_quiet (fail)
      go_wp2_with fail
      go_roundw
      case rel => exact ⟨k + 1, _, by omega, by go_num, rfl⟩
      case measure => simp [intOf]; omega
    · have hk1 : ¬ (k : Int) < n := by omega
      go_wp2_with fail
      go_ret
      exact ⟨rfl, q, rfl⟩

/-- TWO LISTS OF NUMBERS THAT READ ALIKE ARE EQUAL. -/
theorem eqI (w : World) (v1 v2 : Value) (zs : List Int) (h1 : IntRow w v1 zs) (h2 : IntRow w v2 zs) :
    Calls Tryz.prog 64 #[v1, v2] w fun e w' => e = .returned (.bool true) ∧ ∃ k, w' = w.drewN k := by
  rcases h1 with ⟨rfl, a, c, rfl⟩ | ⟨b1, o1, c1, rfl, hl, _, h1⟩
  · rcases h2 with ⟨_, b, d, rfl⟩ | ⟨b2, o2, c2, rfl, _, _, _⟩
    · exact (eqI_zero w a b c d).mono fun e w' ⟨he, hw⟩ => ⟨he, 0, hw ▸ rfl⟩
    · exact (eqI_zero w a _ c c2).mono fun e w' ⟨he, hw⟩ => ⟨he, 0, hw ▸ rfl⟩
  · rcases h2 with ⟨rfl, b, d, rfl⟩ | ⟨b2, o2, c2, rfl, _, _, h2⟩
    · exact (eqI_zero w _ b c1 d).mono fun e w' ⟨he, hw⟩ => ⟨he, 0, hw ▸ rfl⟩
    · exact eqI_some w b1 o1 c1 b2 o2 c2 zs hl h1 h2

theorem ret_intI {a b : Int} (h : a = b) : Ending.returned (.int .i64 a) = .returned (.int .i64 b) := by rw [h]

set_option maxRecDepth 100000 in
theorem szI_not (w : World) (a : Option Addr) (n c left : Nat) (hleft : left ≤ 1048576) (hn : n ≤ 9223372036854775807) (h : left < n) :
    Calls Tryz.prog 58 #[.slice a n c, .int .i64 left] w fun e w' => e = .returned (.int .i64 (-1)) ∧ w = w' := by
  have h0 : (left : Int) - n < 0 := by omega
  go_enter Tryz.func58, Tryz.ntmps58
  go_wp2_with fail
  go_ret
  exact ⟨rfl, rfl⟩
set_option maxRecDepth 100000 in
theorem szI_fits (w : World) (a : Option Addr) (n c left : Nat) (hleft : left ≤ 1048576) (h : n ≤ left) :
    Calls Tryz.prog 58 #[.slice a n c, .int .i64 left] w fun e w' => e = .returned (.int .i64 ((left - n : Nat) : Int)) ∧ w = w' := by
  have h0 : ¬ (left : Int) - n < 0 := by omega
  go_enter Tryz.func58, Tryz.ntmps58
  go_wp2_with fail
  go_ret
  exact ⟨ret_intI (by omega), rfl⟩

/-- The first j cells of a row are the numbers zs. -/
def FilledI (w : World) (base : Nat) (v : Value) (n : Nat) (zs : List Int) (j : Nat) : Prop := ∃ xs : List Value, w.ownsRow base 3 1 v n xs ∧ ∀ i p, i < j → zs[i]? = some p → xs[i]? = some (.int .i64 p)
theorem FilledI.cell {w : World} {base g cap : Nat} {n j : Nat} {zs : List Int} (h : FilledI w base (.slice (some ⟨g, 0, none⟩) n cap) n zs j) {i : Nat} (hi : i < n) : (∃ x, w.cell? ⟨g, i, none⟩ = some x) ∧ w.frozen? ⟨g, i, none⟩ = false := by
  obtain ⟨xs, ho, hx⟩ := h
  have hxl := ho.1
  refine ⟨⟨xs[i]'(by omega), ?_⟩, ho.frozenAt i⟩
  rw [ho.cellAt i (by omega), List.getElem?_eq_getElem (by omega)]
theorem FilledI.store {w : World} {base g cap : Nat} {n j : Nat} {zs : List Int} {p : Int} (h : FilledI w base (.slice (some ⟨g, 0, none⟩) n cap) n zs j) (hj : j < n) (hp : zs[j]? = some p) :
    FilledI (w.setCell ⟨g, j, none⟩ (.int .i64 p)) base (.slice (some ⟨g, 0, none⟩) n cap) n zs (j + 1) ∧ w.grownBy (w.setCell ⟨g, j, none⟩ (.int .i64 p)) (some g) := by
  obtain ⟨xs, ho, hx⟩ := h
  have hs := ho.stored j (.int .i64 p)
  have hxl := ho.1
  refine ⟨⟨_, hs.1, fun i q hi hq => ?_⟩, hs.2⟩
  rw [List.getElem?_set]
  by_cases e : j = i
  · subst e
    rw [hp] at hq
    obtain rfl := Option.some.inj hq
    rw [if_pos rfl, if_pos (by omega)]
  · rw [if_neg e]
    exact hx i q (by omega) hq
theorem FilledI.done {w : World} {base : Nat} {v : Value} {zs : List Int} (h : FilledI w base v zs.length zs zs.length) : w.ownsRow base 3 1 v zs.length (intCells zs) := by
  obtain ⟨xs, ho, hx⟩ := h
  have e : xs = intCells zs := by
    refine List.ext_getElem? fun i => ?_
    have hxl := ho.1
    by_cases hi : i < zs.length
    · rw [hx i zs[i] hi (List.getElem?_eq_getElem hi), intCells_at (List.getElem?_eq_getElem hi)]
    · rw [List.getElem?_eq_none (by omega), List.getElem?_eq_none (by rw [intCells_len]; omega)]
  rw [e] at ho
  exact ho

set_option maxRecDepth 100000 in
set_option maxHeartbeats 1000000 in
theorem toI_some (w : World) (b off c : Nat) (zs : List Int) (hl : zs.length ≤ 1048576)
    (hc : ∀ (j : Nat) p, zs[j]? = some p → w.cell? ⟨b, off + j, none⟩ = some (.int .i64 p)) :
    Calls Tryz.prog 61 #[.slice (some ⟨b, off, none⟩) zs.length c] w fun e w' => ∃ v, e = .returned v ∧ w'.ownsRow w.heap.size 3 1 v zs.length (intCells zs) ∧ Below w.heap.size w w' := by
  obtain ⟨i0, hi, hz0, hz1, hz2⟩ := info_parts infoInt
  have HC := Lib.hid hc
  clear hc
  have HF : Hid (∀ (w' : World) (v : Value) (n : Nat), zs.length = n → FilledI w' w.heap.size v n zs n → w'.ownsRow w.heap.size 3 1 v n (intCells zs)) := fun w' v n hn h => by
    subst hn; exact h.done
  obtain ⟨n, hn⟩ : ∃ n : Nat, zs.length = n := ⟨_, rfl⟩
  rw [hn] at hl ⊢
  have HE := Lib.hid hn
  clear hn
  go_enter Tryz.func61, Tryz.ntmps61
  go_wp2_with (at_make; refine wpList_make_full _ rfl _ _ 26 rfl w.heap.size 3 i0 (.int .i64 0) 1 Tryz.underlying26 hi hz0 hz1 .i64 .i64 _ _ n rfl rfl rfl rfl ?c1 ?c2 ?c3 ?_)
  case c1 => rw [hz2]; omega
  case c2 => unfold maxLen; omega
  case c3 => exact Nat.le_refl _
  intro w1 hown hg1
  have hB1 : Below w.heap.size w w1 := (Below.refl w.heap.size w).grown hg1 (Nat.le_refl _) (fun k hk => by cases hk)
  have hF1 : FilledI w1 w.heap.size (.slice (some ⟨w.heap.size, 0, none⟩) n n) n zs 0 := ⟨_, hown, fun i p hi => by omega⟩
  clear hown hg1
  go_wp2_with fail
  go_loopw [4] (fun i wr => ∃ (j : Nat), j ≤ n ∧ i = .int .i64 j ∧ FilledI wr w.heap.size (.slice (some ⟨w.heap.size, 0, none⟩) n n) n zs j ∧ Below w.heap.size w wr) (fun i _ => n - (intOf i).toNat)
  case atStart => exact ⟨0, Nat.zero_le _, rfl, hF1, hB1⟩
  case round =>
    obtain ⟨j, hj, rfl, hF, hB⟩ := hrel
    by_cases hlt : j < n
    · have hj1 : (j : Int) < n := by omega
      have hj0 : (0 : Int) ≤ j := by omega
      obtain ⟨p, hp⟩ : ∃ p, zs[j]? = some p := ⟨_, List.getElem?_eq_getElem (by rw [HE.out]; exact hlt)⟩
      have hcj0 := HC.out j p hp
      have hcj := (hB.cell (p := ⟨b, off + j, none⟩) (World.block_lt_of_cell? w _ hcj0)).trans hcj0
      obtain ⟨⟨x, hcx⟩, hfx⟩ := hF.cell hlt
      have HS := Lib.hid (hF.store hlt hp).1
      have HB := Lib.hid (hB.setCell (p := ⟨w.heap.size, j, none⟩) (Nat.le_refl _) (.int .i64 p))
      clear hF hp hcj0 hB hF1 hB1
      go_wp2_with fail
      go_roundw
      case rel => exact ⟨j + 1, by omega, by go_num, HS.out, HB.out⟩
      case measure => simp [intOf]; omega
    · obtain rfl : j = n := by omega
      have hj1 : ¬ (j : Int) < j := by omega
      go_wp2_with fail
      go_ret
      exact ⟨_, rfl, HF.out _ _ _ HE.out hF, hB⟩
set_option maxRecDepth 100000 in
theorem toI_zero (w : World) (a : Option Addr) (c : Nat) :
    Calls Tryz.prog 61 #[.slice a 0 c] w fun e w' => ∃ v, e = .returned v ∧ w'.ownsRow w.heap.size 3 1 v 0 [] ∧ Below w.heap.size w w' := by
  obtain ⟨i0, hi, hz0, hz1, hz2⟩ := info_parts infoInt
  go_enter Tryz.func61, Tryz.ntmps61
  go_wp2_with (at_make; refine wpList_make_full _ rfl _ _ 26 rfl w.heap.size 3 i0 (.int .i64 0) 1 Tryz.underlying26 hi hz0 hz1 .i64 .i64 _ _ 0 rfl rfl rfl rfl ?c1 ?c2 ?c3 ?_)
  case c1 => omega
  case c2 => unfold maxLen; omega
  case c3 => exact Nat.le_refl _
  intro w1 hown hg1
  have hB1 : Below w.heap.size w w1 := (Below.refl w.heap.size w).grown hg1 (Nat.le_refl _) (fun k hk => by cases hk)
  have hown0 : w1.ownsRow w.heap.size 3 1 (.slice (some ⟨w.heap.size, 0, none⟩) 0 0) 0 [] := by simpa [madeCells] using hown
  clear hg1 hown
  go_wp2_with fail
  go_loop [4] (fun i => i = .int .i64 0) (fun _ => 0)
  case atStart => rfl
  case round =>
    subst hrel
    go_wp2_with fail
    go_ret
    exact ⟨_, rfl, hown0, hB1⟩
/-- THE COPY OF A LIST OF NUMBERS. -/
theorem toI (w : World) (v : Value) (zs : List Int) (h : IntRow w v zs) (hl : zs.length ≤ 1048576) :
    Calls Tryz.prog 61 #[v] w fun e w' => ∃ v, e = .returned v ∧ w'.ownsRow w.heap.size 3 1 v zs.length (intCells zs) ∧ Below w.heap.size w w' := by
  rcases h with ⟨rfl, a, c, rfl⟩ | ⟨b, off, c, rfl, _, _, hc⟩
  · exact toI_zero w a c
  · exact toI_some w b off c zs hl hc

/-- The marks of numbers from k on, j of them. -/
def marksI (k j : Nat) : List Int := (List.range j).map fun i => ((k + i : Nat) : Int)
theorem marksI_len (k j : Nat) : (marksI k j).length = j := by simp [marksI]
theorem marksI_at {k j i : Nat} (h : i < j) : (marksI k j)[i]? = some ((k + i : Nat) : Int) := by simp [marksI, h]
theorem FilledI.below {w w' : World} {base n j : Nat} {v : Value} {zs : List Int} (h : FilledI w base v n zs j) (hB : Below w.heap.size w w') : FilledI w' base v n zs j := by
  obtain ⟨xs, ho, hx⟩ := h
  exact ⟨xs, ho.kept (row := none) ⟨hB.os, hB.tape, hB.output, hB.size, fun k hk _ => hB.block k hk⟩ (by cases hv : v.ownBlock <;> simp), hx⟩

set_option maxRecDepth 100000 in
set_option maxHeartbeats 1000000 in
theorem markI_some (w : World) (base g n cap k : Nat) (xs : List Value) (hown : w.ownsRow base 3 1 (.slice (some ⟨g, 0, none⟩) n cap) n xs) (hl : n ≤ 140737488355328) (hkl : k ≤ 140737488355328) :
    Calls Tryz.prog 67 #[.slice (some ⟨g, 0, none⟩) n cap, .int .i64 k] w fun e w' => e = .returned (.int .i64 ((k : Int) + n)) ∧ FilledI w' base (.slice (some ⟨g, 0, none⟩) n cap) n (marksI k n) n ∧ w.grownBy w' (some g) := by
  go_enter Tryz.func67, Tryz.ntmps67
  go_wp2_with fail
  go_loopw [1, 5] (fun q i wr => ∃ (j : Nat), j ≤ n ∧ i = .int .i64 j ∧ q = .int .i64 ((k : Int) + j) ∧ FilledI wr base (.slice (some ⟨g, 0, none⟩) n cap) n (marksI k n) j ∧ w.grownBy wr (some g)) (fun _ i _ => n - (intOf i).toNat)
  case atStart => exact ⟨0, Nat.zero_le _, rfl, by simp, ⟨xs, hown, fun i p hi => by omega⟩, grownBy_refl _ _⟩
  case round =>
    obtain ⟨j, hj, rfl, rfl, hF, hg⟩ := hrel
    by_cases hlt : j < n
    · have hj1 : (j : Int) < n := by omega
      have hj0 : (0 : Int) ≤ j := by omega
      obtain ⟨⟨x, hcx⟩, hfx⟩ := hF.cell hlt
      have hS := hF.store hlt (marksI_at hlt)
      rw [show ((k + j : Nat) : Int) = (k : Int) + j by omega] at hS
      have HS := Lib.hid hS.1
      have HG := Lib.hid (grownBy_trans hg hS.2)
      clear hS hF hg
      go_wp2_with fail
      go_roundw
      case rel => exact ⟨j + 1, by omega, by go_num, by go_num, HS.out, HG.out⟩
      case measure => simp [intOf]; omega
    · obtain rfl : j = n := by omega
      have hj1 : ¬ (j : Int) < j := by omega
      go_wp2_with fail
      go_ret
      exact ⟨rfl, hF, hg⟩
set_option maxRecDepth 100000 in
theorem markI_nil (w : World) (c k : Nat) :
    Calls Tryz.prog 67 #[.slice none 0 c, .int .i64 k] w fun e w' => e = .returned (.int .i64 k) ∧ w = w' := by
  go_enter Tryz.func67, Tryz.ntmps67
  go_wp2_with fail
  go_loop [1, 5] (fun q i => q = .int .i64 k ∧ i = .int .i64 0) (fun _ _ => 0)
  case atStart => exact ⟨rfl, rfl⟩
  case round =>
    obtain ⟨rfl, rfl⟩ := hrel
    go_wp2_with fail
    go_ret
    exact ⟨rfl, rfl⟩
/-- MARKING NUMBERS OF THE CALL's OWN. -/
theorem markI (w : World) (base n k : Nat) (v : Value) (xs : List Value) (hown : w.ownsRow base 3 1 v n xs) (hl : n ≤ 140737488355328) (hkl : k ≤ 140737488355328) :
    Calls Tryz.prog 67 #[v, .int .i64 k] w fun e w' => e = .returned (.int .i64 ((k : Int) + n)) ∧ w'.ownsRow base 3 1 v n (intCells (marksI k n)) ∧ w.grownBy w' v.ownBlock := by
  have hdone : ∀ (w' : World) (v : Value), FilledI w' base v n (marksI k n) n → w'.ownsRow base 3 1 v n (intCells (marksI k n)) := fun w' v h => by
    have hn := marksI_len k n
    have h2 : FilledI w' base v (marksI k n).length (marksI k n) (marksI k n).length := by rw [hn]; exact h
    have h3 := h2.done
    rw [hn] at h3
    exact h3
  rcases hown.2 with ⟨rfl, rfl⟩ | ⟨g, cap, cur, rfl, _⟩
  · exact (markI_nil w 0 k).mono fun e w' ⟨he, hw⟩ => ⟨by rw [he]; simp, hw ▸ by simpa [marksI, intCells] using World.ownsRow_nil w base 3 1, hw ▸ grownBy_refl _ _⟩
  · exact (markI_some w base g n cap k xs hown hl hkl).mono fun e w' ⟨he, hF, hg⟩ => ⟨he, hdone w' _ hF, hg⟩

set_option maxRecDepth 100000 in
set_option maxHeartbeats 1000000 in
theorem heldI_some (w : World) (b off c n k : Nat) (hl : n ≤ 140737488355328) (hkl : k ≤ 140737488355328)
    (hc : ∀ j, j < n → w.cell? ⟨b, off + j, none⟩ = some (.int .i64 ((k : Int) + j))) :
    Calls Tryz.prog 70 #[.slice (some ⟨b, off, none⟩) n c, .int .i64 k] w fun e w' => e = .returned (.int .i64 ((k : Int) + n)) ∧ ∃ q, w' = w.drewN q := by
  have HC := Lib.hid hc
  clear hc
  go_enter Tryz.func70, Tryz.ntmps70
  go_wp2_with fail
  go_loopw [1, 4, 5] (fun q _ i wr => ∃ (j z : Nat), j ≤ n ∧ i = .int .i64 j ∧ q = .int .i64 ((k : Int) + j) ∧ wr = w.drewN z) (fun _ _ i _ => n - (intOf i).toNat)
  case atStart => exact ⟨0, 0, Nat.zero_le _, rfl, by simp, rfl⟩
  case round =>
    obtain ⟨j, z, hj, rfl, rfl, rfl⟩ := hrel
    by_cases hlt : j < n
    · have hj1 : (j : Int) < n := by omega
      have hj0 : (0 : Int) ≤ j := by omega
      have hcj := HC.out j hlt
      go_wp2_with fail
      go_roundw
      case rel => exact ⟨j + 1, _, by omega, by go_num, by go_num, rfl⟩
      case measure => simp [intOf]; omega
    · obtain rfl : j = n := by omega
      have hj1 : ¬ (j : Int) < j := by omega
      go_wp2_with fail
      go_ret
      exact ⟨rfl, z, rfl⟩
set_option maxRecDepth 100000 in
theorem heldI_zero (w : World) (a : Option Addr) (c k : Nat) :
    Calls Tryz.prog 70 #[.slice a 0 c, .int .i64 k] w fun e w' => e = .returned (.int .i64 k) ∧ w = w' := by
  go_enter Tryz.func70, Tryz.ntmps70
  go_wp2_with fail
  go_loop [1, 4, 5] (fun q _ i => q = .int .i64 k ∧ i = .int .i64 0) (fun _ _ _ => 0)
  case atStart => exact ⟨rfl, rfl⟩
  case round =>
    obtain ⟨rfl, rfl⟩ := hrel
    go_wp2_with fail
    go_ret
    exact ⟨rfl, rfl⟩
/-- THE MARKS OF NUMBERS ARE HELD. -/
theorem heldI (w : World) (v : Value) (n k : Nat) (h : IntRow w v (marksI k n)) (hkl : k ≤ 140737488355328) (hnl : n ≤ 140737488355328) :
    Calls Tryz.prog 70 #[v, .int .i64 k] w fun e w' => e = .returned (.int .i64 ((k : Int) + n)) ∧ ∃ q, w' = w.drewN q := by
  have hn := marksI_len k n
  rcases h with ⟨h0, a, c, rfl⟩ | ⟨b, off, c, rfl, hl, _, hc⟩
  · rw [h0] at hn
    have hn0 : n = 0 := by simpa using hn.symm
    subst hn0
    exact (heldI_zero w a c k).mono fun e w' ⟨he, hw⟩ => ⟨by rw [he]; simp, 0, hw ▸ rfl⟩
  · rw [hn] at hl ⊢
    exact heldI_some w b off c n k hnl hkl (fun j hj => by
      rw [hc j _ (marksI_at hj)]
      congr 2)
end Go.Proofs.YticeagjonfifbaaGreatDoor
