/-
  The program's way through a text of rows: plain mathematics.
-/
import Derived.Test.YticeagjonfifbaaGreatDoorPk1
import Derived.Lib.ReplaceLaws
import Derived.Lib.IndexLaws
import Derived.Lib.CountLaws
import Derived.Lib.IndexAny
import Derived.Laws.RangeAny
namespace Go.Proofs.YticeagjonfifbaaGreatDoor
open Go

/-- All instances are replaced: one of them. -/
theorem replAll_hit {s old new : List UInt8} {i : Nat} (ho : old ≠ []) (hne : old ≠ new) (h : Lib.index s old = i) : Lib.replaceAll s old new = s.take i ++ new ++ Lib.replaceAll (s.drop (i + old.length)) old new := by
  have hb : (old == new) = false := by simpa using hne
  have hc := Lib.count_hit ho h
  unfold Lib.replaceAll Lib.replace Lib.replaceNum
  rw [hb]
  simp only [Bool.false_eq_true, if_false]
  rw [if_pos (Or.inl (by decide)), if_pos (Or.inl (by decide)), hc, Nat.add_comm 1, Lib.replaceK_hit _ _ _ _ _ h]
theorem replAll_none {s old new : List UInt8} (h : Lib.index s old = -1) : Lib.replaceAll s old new = s := by
  unfold Lib.replaceAll Lib.replace Lib.replaceNum
  split
  · rfl
  · rw [if_pos (Or.inl (by decide)), Lib.count_miss h, Lib.replaceK]
theorem idx_pre (t r : List UInt8) : ∀ p : List UInt8, 34 ∉ p → Lib.index (p ++ ((34 :: t) ++ r)) (34 :: t) = p.length
  | [], _ => by
    show Lib.index (34 :: (t ++ r)) (34 :: t) = 0
    unfold Lib.index
    exact if_pos (List.isPrefixOf_iff_prefix.2 ⟨r, rfl⟩)
  | c :: p, h => by
    have hc : c ≠ 34 := by rintro rfl; simp at h
    have ih := idx_pre t r p (by intro e; apply h; simp [e])
    show Lib.index (c :: (p ++ ((34 :: t) ++ r))) (34 :: t) = _
    unfold Lib.index
    rw [ih, if_neg, if_neg]
    · simp
    · intro e
      have := beq_iff_eq.1 e
      omega
    · intro e
      obtain ⟨u, hu⟩ := List.isPrefixOf_iff_prefix.1 e
      rw [List.cons_append] at hu
      injection hu with hu _
      exact hc hu.symm
theorem idx_no (t : List UInt8) : ∀ p : List UInt8, 34 ∉ p → Lib.index p (34 :: t) = -1
  | [], _ => rfl
  | c :: p, h => by
    have hc : c ≠ 34 := by rintro rfl; simp at h
    have ih := idx_no t p (by intro e; apply h; simp [e])
    unfold Lib.index
    rw [ih, if_neg]
    · rfl
    intro e
    obtain ⟨u, hu⟩ := List.isPrefixOf_iff_prefix.1 e
    rw [List.cons_append] at hu
    injection hu with hu _
    exact hc hu.symm
theorem dblL_no : ∀ f : List UInt8, 34 ∉ f → dblL f = f
  | [], _ => rfl
  | c :: p, h => by
    have hc : c ≠ 34 := by rintro rfl; simp at h
    rw [dblL, if_neg hc, dblL_no p (by intro e; apply h; simp [e])]
/-- Quotes are doubled by replacing. -/
theorem rep_dbl : ∀ (n : Nat) (f : List UInt8), f.length ≤ n → Lib.replaceAll f [34] [34, 34] = dblL f := by
  intro n
  induction n with
  | zero =>
    intro f h
    obtain rfl : f = [] := List.length_eq_zero_iff.1 (by omega)
    exact replAll_none rfl
  | succ n ih =>
    intro f h
    by_cases hm : 34 ∈ f
    · obtain ⟨p, g, rfl, hp⟩ := List.eq_append_cons_of_mem hm
      have hi : Lib.index (p ++ 34 :: g) [34] = p.length := idx_pre [] g p hp
      rw [replAll_hit (by simp) (by decide) hi]
      have e1 : (p ++ 34 :: g).take p.length = p := by simp
      have e2 : (p ++ 34 :: g).drop (p.length + [(34 : UInt8)].length) = g := by simp
      rw [e1, e2, ih g (by simp at h; omega), dblL_append, dblL_no p hp]
      show _ = p ++ dblL (34 :: g)
      rw [dblL, if_pos rfl]
      simp
    · rw [replAll_none (idx_no [] f hm), dblL_no f hm]
/-- Doubled quotes are undone by replacing. -/
theorem rep_undbl : ∀ (n : Nat) (f : List UInt8), f.length ≤ n → Lib.replaceAll (dblL f) [34, 34] [34] = f := by
  intro n
  induction n with
  | zero =>
    intro f h
    obtain rfl : f = [] := List.length_eq_zero_iff.1 (by omega)
    exact replAll_none rfl
  | succ n ih =>
    intro f h
    by_cases hm : 34 ∈ f
    · obtain ⟨p, g, rfl, hp⟩ := List.eq_append_cons_of_mem hm
      have e0 : dblL (p ++ 34 :: g) = p ++ 34 :: 34 :: dblL g := by rw [dblL_append, dblL_no p hp, dblL, if_pos rfl]
      have hi : Lib.index (p ++ 34 :: 34 :: dblL g) [34, 34] = p.length := idx_pre [34] (dblL g) p hp
      rw [e0, replAll_hit (by simp) (by decide) hi]
      have e1 : (p ++ 34 :: 34 :: dblL g).take p.length = p := by simp
      have e2 : (p ++ 34 :: 34 :: dblL g).drop (p.length + [(34 : UInt8), 34].length) = dblL g := by simp
      rw [e1, e2, ih g (by simp at h; omega)]
      simp
    · rw [dblL_no f hm, replAll_none (idx_no [34] f hm)]
theorem any_sp : ∀ l : List UInt8, Lib.containsAny l [44, 34, 10, 13] = l.any spB := by
  intro l
  induction l with
  | nil => rfl
  | cons c t ih =>
    have hs : [(44 : UInt8), 34, 10, 13].contains c = spB c := by
      rw [spB, Bool.eq_iff_iff]
      simp [Bool.or_assoc]
    unfold Lib.containsAny at ih ⊢
    have hg := Lib.indexAny_ge [44, 34, 10, 13] t
    rw [Lib.indexAny, hs, List.any_cons]
    cases hc : spB c
    · rw [if_neg (by simp), Bool.false_or, ← ih]
      by_cases h : Lib.indexAny t [44, 34, 10, 13] = -1
      · rw [h]; rfl
      · rw [if_neg (by simpa using h)]
        have h0 : 0 ≤ Lib.indexAny t [44, 34, 10, 13] := by omega
        rw [decide_eq_true h0, decide_eq_true (by omega)]
    · simp
/-- A FIELD'S TEXT, THE PROGRAM'S WAY. -/
theorem csvF_prog (l : List UInt8) : csvF l = if Lib.containsAny l [44, 34, 10, 13] = true then 34 :: (Lib.replaceAll l [34] [34, 34] ++ [34]) else l := by
  rw [any_sp, rep_dbl _ l (Nat.le_refl _)]
  rfl

theorem suf_one (a : List UInt8) (d c : UInt8) : Lib.hasSuffix (a ++ [d]) [c] = decide (c = d) := by
  unfold Lib.hasSuffix
  rw [Bool.eq_iff_iff, List.isSuffixOf_iff_suffix, decide_eq_true_eq]
  constructor
  · rintro ⟨t, ht⟩
    have := List.append_inj_right' ht rfl
    injection this
  · rintro rfl
    exact List.suffix_append _ _
theorem trs_same (a : List UInt8) (c : UInt8) : Lib.trimSuffix (a ++ [c]) [c] = a := by
  rw [Lib.trimSuffix, suf_one]
  simp
theorem trs_ne (a : List UInt8) {d c : UInt8} (h : d ≠ c) : Lib.trimSuffix (a ++ [d]) [c] = a ++ [d] := by
  rw [Lib.trimSuffix, suf_one, if_neg]
  simpa using fun e => h e.symm
theorem pre_one (a : List UInt8) (d c : UInt8) : Lib.hasPrefix (d :: a) [c] = decide (c = d) := by
  unfold Lib.hasPrefix
  rw [Bool.eq_iff_iff, List.isPrefixOf_iff_prefix, decide_eq_true_eq]
  constructor
  · rintro ⟨t, ht⟩
    rw [List.cons_append] at ht
    injection ht
  · rintro rfl
    exact ⟨a, rfl⟩

/-- What a field's text stands for, the program's way. -/
def fv7 (t : List UInt8) : List UInt8 :=
  if Lib.hasPrefix (Lib.trimSuffix t [13]) [34] = true then Lib.replaceAll (Lib.trimSuffix (Lib.trimPrefix (Lib.trimSuffix t [13]) [34]) [34]) [34, 34] [34] else Lib.trimSuffix t [13]
theorem fv7_core {t f : List UInt8} (h : Lib.trimSuffix t [13] = 34 :: (dblL f ++ [34])) : fv7 t = f := by
  rw [fv7, h, if_pos (by rw [pre_one]; rfl), Lib.trimPrefix, if_pos (by rw [pre_one]; rfl)]
  show Lib.replaceAll (Lib.trimSuffix (dblL f ++ [34]) [34]) [34, 34] [34] = f
  rw [trs_same, rep_undbl _ f (Nat.le_refl _)]
theorem fv7_q (f : List UInt8) : fv7 (34 :: (dblL f ++ [34])) = f := fv7_core (by
  have := trs_ne (34 :: dblL f) (d := 34) (c := 13) (by decide)
  simpa using this)
theorem fv7_qr (f : List UInt8) : fv7 (34 :: (dblL f ++ [34]) ++ [13]) = f := fv7_core (trs_same _ _)
theorem fv7_nil : fv7 [] = [] := rfl
theorem fv7_nilr : fv7 [13] = [] := rfl
theorem sp_ne {c : UInt8} (h : spB c = false) : c ≠ 44 ∧ c ≠ 34 ∧ c ≠ 10 ∧ c ≠ 13 := by
  simp only [spB, Bool.or_eq_false_iff, beq_eq_false_iff_ne] at h
  exact ⟨h.1.1.1, h.1.1.2, h.1.2, h.2⟩
theorem fv7_p {p : List UInt8} (h : p.any spB = false) : fv7 p = p := by
  rcases List.eq_nil_or_concat p with rfl | ⟨a, d, rfl⟩
  · rfl
  · rw [List.concat_eq_append] at h ⊢
    rw [List.any_append, Bool.or_eq_false_iff] at h
    have hd := sp_ne (c := d) (by simpa using h.2)
    have e : Lib.trimSuffix (a ++ [d]) [13] = a ++ [d] := trs_ne a hd.2.2.2
    rw [fv7, e, if_neg]
    cases a with
    | nil => rw [List.nil_append, pre_one]; simpa using fun e => hd.2.1 e.symm
    | cons x y =>
      have hx := sp_ne (c := x) (by simp only [List.any_cons, Bool.or_eq_false_iff] at h; exact h.1.1)
      rw [List.cons_append, pre_one]
      simpa using fun e => hx.2.1 e.symm
theorem fv7_pr {p : List UInt8} (h : p.any spB = false) : fv7 (p ++ [13]) = p := by
  have e : Lib.trimSuffix (p ++ [13]) [13] = p := trs_same p 13
  rw [fv7, e, if_neg]
  cases p with
  | nil => decide
  | cons x y =>
    have hx := sp_ne (c := x) (by simp only [List.any_cons, Bool.or_eq_false_iff] at h; exact h.1)
    rw [pre_one]
    simpa using fun e => hx.2.1 e.symm

/-- The state behind a byte. -/
def st7 (q : Nat) (c : UInt8) : Nat :=
  if q = 3 then (if c = 34 then 4 else 3)
  else if q = 5 ∧ c ≠ 10 then 6
  else if c = 10 then 0
  else if c = 13 then 5
  else if c = 44 then 1
  else if c = 34 then (if q = 2 then 6 else 3)
  else if q = 4 then 6
  else 2
/-- What the program's reading comes to, from a state on. -/
def mach : List UInt8 → Nat → List UInt8 → List (List UInt8) → List (List (List UInt8)) → List (List (List UInt8)) ⊕ (Nat × Nat)
  | [], q, cur, row, rows => if q = 3 ∨ q = 5 then .inr (rows.length, row.length) else if q = 0 then .inl rows else .inl (rows ++ [row ++ [fv7 cur]])
  | c :: t, q, cur, row, rows =>
    if st7 q c = 1 then mach t 1 [] (row ++ [fv7 cur]) rows
    else if st7 q c = 0 then mach t 0 [] [] (rows ++ [row ++ [fv7 cur]])
    else if st7 q c = 6 then .inr (rows.length, row.length)
    else mach t (st7 q c) (cur ++ [c]) row rows
/-- Behind a field. -/
def beh (f : List UInt8) (row : List (List UInt8)) (rows : List (List (List UInt8))) : List UInt8 → List (List (List UInt8)) ⊕ (Nat × Nat)
  | [] => .inl (rows ++ [row ++ [f]])
  | c :: t =>
    if c = 44 then mach t 1 [] (row ++ [f]) rows
    else if c = 10 then mach t 0 [] [] (rows ++ [row ++ [f]])
    else if c = 13 ∧ t.head? = some 10 then mach t.tail 0 [] [] (rows ++ [row ++ [f]])
    else .inr (rows.length, row.length)
theorem mach_beh {q : Nat} {cur f l : List UInt8} (row : List (List UInt8)) (rows : List (List (List UInt8))) (hq : q = 0 ∨ q = 1 ∨ q = 2 ∨ q = 4) (h1 : fv7 cur = f) (h2 : fv7 (cur ++ [13]) = f)
    (hl : (l = [] ∧ q ≠ 0) ∨ ∃ c t, l = c :: t ∧ (c = 44 ∨ c = 10 ∨ c = 13 ∨ (q = 4 ∧ c ≠ 34))) : mach l q cur row rows = beh f row rows l := by
  rcases hl with ⟨rfl, h0⟩ | ⟨c, t, rfl, hc⟩
  · rw [mach, beh, if_neg (by omega), if_neg h0, h1]
  · have hq3 : q ≠ 3 := by omega
    have hq5 : q ≠ 5 := by omega
    rw [mach, beh]
    by_cases c44 : c = 44
    · subst c44
      have e : st7 q 44 = 1 := by simp [st7, hq3, hq5]
      rw [e, if_pos rfl, if_pos rfl, h1]
    rw [if_neg c44]
    by_cases c10 : c = 10
    · subst c10
      have e : st7 q 10 = 0 := by simp [st7, hq3]
      rw [e, if_neg (by decide), if_pos rfl, if_pos rfl, h1]
    rw [if_neg c10]
    by_cases c13 : c = 13
    · subst c13
      have e : st7 q 13 = 5 := by simp [st7, hq3, hq5]
      rw [e, if_neg (by decide), if_neg (by decide), if_neg (by decide)]
      cases t with
      | nil => rw [mach, if_pos (Or.inr rfl), if_neg (by simp)]
      | cons d u =>
        rw [mach]
        by_cases d10 : d = 10
        · subst d10
          have e : st7 5 10 = 0 := by decide
          rw [e, if_neg (by decide), if_pos rfl, if_pos ⟨rfl, rfl⟩, h2]
          rfl
        · have e : st7 5 d = 6 := by simp [st7, d10]
          rw [e, if_neg (by decide), if_neg (by decide), if_pos rfl, if_neg (show ¬ ((13 : UInt8) = 13 ∧ (d :: u).head? = some 10) by simp [d10])]
    · rw [if_neg (show ¬ (c = 13 ∧ t.head? = some 10) by simp [c13])]
      have h4 : q = 4 ∧ c ≠ 34 := by
        rcases hc with h | h | h | h
        · exact absurd h c44
        · exact absurd h c10
        · exact absurd h c13
        · exact h
      obtain ⟨rfl, c34⟩ := h4
      have e : st7 4 c = 6 := by simp [st7, c10, c13, c44, c34]
      rw [e, if_neg (by decide), if_neg (by decide), if_pos rfl]
theorem mach_u (row : List (List UInt8)) (rows : List (List (List UInt8))) : ∀ (l p : List UInt8), p.any spB = false → mach l 2 p row rows = match rdU l with
    | none => .inr (rows.length, row.length)
    | some (f, r) => beh (p ++ f) row rows r
  | [], p, h => by
    rw [mach_beh row rows (by omega) (fv7_p h) (fv7_pr h) (Or.inl ⟨rfl, by decide⟩)]
    simp [rdU]
  | c :: t, p, h => by
    rw [rdU]
    by_cases hc : c = 44 ∨ c = 10 ∨ c = 13
    · rw [mach_beh row rows (by omega) (fv7_p h) (fv7_pr h) (Or.inr ⟨c, t, rfl, by rcases hc with e | e | e <;> simp [e]⟩), if_pos hc]
      simp
    · rw [if_neg hc]
      by_cases c34 : c = 34
      · subst c34
        rw [if_pos rfl, mach]
        have e : st7 2 34 = 6 := by decide
        rw [e, if_neg (by decide), if_neg (by decide), if_pos rfl]
      · rw [if_neg c34, mach]
        have hc' : c ≠ 44 ∧ c ≠ 10 ∧ c ≠ 13 := ⟨fun e => hc (by simp [e]), fun e => hc (by simp [e]), fun e => hc (by simp [e])⟩
        have e : st7 2 c = 2 := by simp [st7, hc'.1, hc'.2.1, hc'.2.2, c34]
        have hs : spB c = false := by simp [spB, hc'.1, hc'.2.1, hc'.2.2, c34]
        rw [e, if_neg (by decide), if_neg (by decide), if_neg (by decide), mach_u row rows t (p ++ [c]) (by rw [List.any_append, h]; simp [hs])]
        cases rdU t with
        | none => rfl
        | some x =>
          show beh (p ++ [c] ++ x.1) row rows x.2 = beh (p ++ (c :: x.1)) row rows x.2
          rw [List.append_assoc]
          rfl
theorem mach_q (row : List (List UInt8)) (rows : List (List (List UInt8))) : ∀ (n : Nat) (l f0 : List UInt8), l.length ≤ n → mach l 3 (34 :: dblL f0) row rows = match rdQ l with
    | none => .inr (rows.length, row.length)
    | some (f, r) => beh (f0 ++ f) row rows r := by
  intro n
  induction n with
  | zero =>
    intro l f0 h
    obtain rfl : l = [] := List.length_eq_zero_iff.1 (by omega)
    rw [mach, if_pos (Or.inl rfl)]
    rfl
  | succ n ih =>
    intro l f0 h
    cases l with
    | nil =>
      rw [mach, if_pos (Or.inl rfl)]
      rfl
    | cons c t =>
      simp only [List.length_cons] at h
      by_cases c34 : c = 34
      · subst c34
        have e : st7 3 34 = 4 := by decide
        rw [mach, e, if_neg (by decide), if_neg (by decide), if_neg (by decide)]
        by_cases hh : t.head? = some 34
        · cases t with
          | nil => cases hh
          | cons d u =>
            obtain rfl : d = 34 := by simpa using hh
            have e : st7 4 34 = 3 := by decide
            have e2 : 34 :: dblL f0 ++ [34] ++ [34] = 34 :: dblL (f0 ++ [34]) := by
              rw [dblL_append]
              simp [dblL]
            rw [mach, e, if_neg (by decide), if_neg (by decide), if_neg (by decide), e2, ih u (f0 ++ [34]) (by simp at h; omega), rdQ_two]
            cases rdQ u with
            | none => rfl
            | some x =>
              show beh (f0 ++ [34] ++ x.1) row rows x.2 = beh (f0 ++ (34 :: x.1)) row rows x.2
              rw [List.append_assoc]
              rfl
        · rw [rdQ_end hh]
          show _ = beh (f0 ++ []) row rows t
          rw [List.append_nil]
          refine mach_beh row rows (by omega) (fv7_q f0) (fv7_qr f0) ?_
          cases t with
          | nil => exact Or.inl ⟨rfl, by decide⟩
          | cons d u => exact Or.inr ⟨d, u, rfl, Or.inr (Or.inr (Or.inr ⟨rfl, fun e => hh (by rw [e]; rfl)⟩))⟩
      · have e : st7 3 c = 3 := by simp [st7, c34]
        have e2 : 34 :: dblL f0 ++ [c] = 34 :: dblL (f0 ++ [c]) := by
          rw [dblL_append]
          simp [dblL, c34]
        rw [mach, e, if_neg (by decide), if_neg (by decide), if_neg (by decide), e2, ih t (f0 ++ [c]) (by omega), rdQ_plain c34]
        cases rdQ t with
        | none => rfl
        | some x =>
          show beh (f0 ++ [c] ++ x.1) row rows x.2 = beh (f0 ++ (c :: x.1)) row rows x.2
          rw [List.append_assoc]
          rfl
/-- From a field's start on. -/
theorem mach_f {q : Nat} (hq : q = 0 ∨ q = 1) (row : List (List UInt8)) (rows : List (List (List UInt8))) (l : List UInt8) (hl : l = [] → q = 1) : mach l q [] row rows = match rdF l with
    | none => .inr (rows.length, row.length)
    | some (f, r) => beh f row rows r := by
  cases l with
  | nil =>
    obtain rfl := hl rfl
    rfl
  | cons c t =>
    have hq3 : q ≠ 3 := by omega
    have hq5 : q ≠ 5 := by omega
    have hq4 : q ≠ 4 := by omega
    have hq2 : q ≠ 2 := by omega
    rw [rdF]
    by_cases c34 : c = 34
    · subst c34
      have e : st7 q 34 = 3 := by simp [st7, hq3, hq5, hq2]
      rw [if_pos rfl, mach, e, if_neg (by decide), if_neg (by decide), if_neg (by decide)]
      exact mach_q row rows _ t [] (Nat.le_refl _)
    · rw [if_neg c34, rdU]
      by_cases hc : c = 44 ∨ c = 10 ∨ c = 13
      · rw [if_pos hc]
        exact mach_beh row rows (by omega) fv7_nil fv7_nilr (Or.inr ⟨c, t, rfl, by rcases hc with e | e | e <;> simp [e]⟩)
      · have hc' : c ≠ 44 ∧ c ≠ 10 ∧ c ≠ 13 := ⟨fun e => hc (by simp [e]), fun e => hc (by simp [e]), fun e => hc (by simp [e])⟩
        have e : st7 q c = 2 := by simp [st7, hc'.1, hc'.2.1, hc'.2.2, c34, hq3, hq5, hq4]
        have hs : spB c = false := by simp [spB, hc'.1, hc'.2.1, hc'.2.2, c34]
        rw [if_neg hc, if_neg c34, mach, e, if_neg (by decide), if_neg (by decide), if_neg (by decide), mach_u row rows t _ (by simp [hs])]
        cases rdU t with
        | none => rfl
        | some x => rfl
/-- What a row's reading leads to. -/
def contR (m : Nat) (rows : List (List (List UInt8))) : (List (List UInt8) × List UInt8) ⊕ Nat → List (List (List UInt8)) ⊕ (Nat × Nat)
  | .inr j => .inr (rows.length, j)
  | .inl (row, r) => rdAll m r (rows ++ [row])
theorem mach_all : ∀ (n : Nat) (l : List UInt8), l.length ≤ n →
    (∀ (row : List (List UInt8)) (rows : List (List (List UInt8))) (k m : Nat), l.length < k → l.length < m → mach l 1 [] row rows = contR m rows (rdRow k l row)) ∧
    (∀ (rows : List (List (List UInt8))) (m : Nat), l.length < m → mach l 0 [] [] rows = rdAll m l rows) := by
  intro n
  induction n with
  | zero =>
    intro l h
    obtain rfl : l = [] := List.length_eq_zero_iff.1 (by omega)
    refine ⟨fun row rows k m hk hm => ?_, fun rows m hm => ?_⟩
    · obtain ⟨k, rfl⟩ : ∃ j, k = j + 1 := ⟨k - 1, by simp at hk; omega⟩
      obtain ⟨m, rfl⟩ : ∃ j, m = j + 1 := ⟨m - 1, by simp at hm; omega⟩
      rfl
    · obtain ⟨m, rfl⟩ : ∃ j, m = j + 1 := ⟨m - 1, by simp at hm; omega⟩
      rfl
  | succ n ih =>
    intro l h
    have B : ∀ (q : Nat) (row : List (List UInt8)) (rows : List (List (List UInt8))) (k m : Nat), q = 0 ∨ q = 1 → (l = [] → q = 1) → l.length < k + 1 → l.length < m + 1 → mach l q [] row rows = contR m rows (rdRow (k + 1) l row) := by
      intro q row rows k m hq hl hk hm
      rw [mach_f hq row rows l hl, rdRow]
      cases hf : rdF l with
      | none => rfl
      | some x =>
        obtain ⟨f, r⟩ := x
        have hlen := rdF_len hf
        cases r with
        | nil =>
          show Sum.inl (rows ++ [row ++ [f]]) = rdAll m [] (rows ++ [row ++ [f]])
          cases m <;> rfl
        | cons c t =>
          simp only [List.length_cons] at hlen
          have iht := ih t (by omega)
          show beh f row rows (c :: t) = contR m rows (if c = 44 then rdRow k t (row ++ [f]) else if c = 10 then .inl (row ++ [f], t) else if c = 13 ∧ t.head? = some 10 then .inl (row ++ [f], t.tail) else .inr row.length)
          rw [beh]
          by_cases c44 : c = 44
          · rw [if_pos c44, if_pos c44]
            exact iht.1 (row ++ [f]) rows k m (by omega) (by omega)
          rw [if_neg c44, if_neg c44]
          by_cases c10 : c = 10
          · rw [if_pos c10, if_pos c10]
            exact iht.2 (rows ++ [row ++ [f]]) m (by omega)
          rw [if_neg c10, if_neg c10]
          by_cases c13 : c = 13 ∧ t.head? = some 10
          · rw [if_pos c13, if_pos c13]
            have ihu := ih t.tail (by rw [List.length_tail]; omega)
            exact ihu.2 (rows ++ [row ++ [f]]) m (by rw [List.length_tail]; omega)
          · rw [if_neg c13, if_neg c13]
            rfl
    refine ⟨fun row rows k m hk hm => ?_, fun rows m hm => ?_⟩
    · obtain ⟨k, rfl⟩ : ∃ j, k = j + 1 := ⟨k - 1, by omega⟩
      exact B 1 row rows k m (Or.inr rfl) (fun _ => rfl) hk (by omega)
    · obtain ⟨m, rfl⟩ : ∃ j, m = j + 1 := ⟨m - 1, by omega⟩
      cases l with
      | nil => rfl
      | cons c t =>
        rw [B 0 [] rows (t.length + 1) m (Or.inl rfl) (by simp) (by simp) (by omega), rdAll]
        cases rdRow (t.length + 1 + 1) (c :: t) [] with
        | inr j => rfl
        | inl x => rfl
/-- THE PROGRAM'S READING IS THE REFERENCE'S. -/
theorem mach_rd (l : List UInt8) : mach l 0 [] [] [] = rdCsv l := (mach_all l.length l (Nat.le_refl _)).2 [] (l.length + 1) (Nat.lt_succ_self _)

/-! The bytes of a rune. -/
/-- The state behind a rune. -/
def st7R (q r : Int) : Int :=
  if q = 3 then (if r = 34 then 4 else 3)
  else if q = 5 ∧ r ≠ 10 then 6
  else if r = 10 then 0
  else if r = 13 then 5
  else if r = 44 then 1
  else if r = 34 then (if q = 2 then 6 else 3)
  else if q = 4 then 6
  else 2
theorem st7R_byte (q : Nat) (c : UInt8) : st7R (q : Int) (c.toNat : Int) = (st7 q c : Int) := by
  have h : ∀ k : Nat, k < 256 → (((c.toNat : Int) = (k : Int)) ↔ c = UInt8.ofNat k) := by
    intro k hk
    constructor
    · intro e
      have e' : c.toNat = k := by omega
      rw [← e', UInt8.ofNat_toNat]
    · rintro rfl
      simp [UInt8.toNat_ofNat']
      omega
  have h34 : (c.toNat : Int) = 34 ↔ c = 34 := h 34 (by decide)
  have h10 : (c.toNat : Int) = 10 ↔ c = 10 := h 10 (by decide)
  have h13 : (c.toNat : Int) = 13 ↔ c = 13 := h 13 (by decide)
  have h44 : (c.toNat : Int) = 44 ↔ c = 44 := h 44 (by decide)
  unfold st7R st7
  have q3 : ((q : Int) = 3) ↔ q = 3 := by omega
  have q5 : ((q : Int) = 5) ↔ q = 5 := by omega
  have q2 : ((q : Int) = 2) ↔ q = 2 := by omega
  have q4 : ((q : Int) = 4) ↔ q = 4 := by omega
  simp only [q3, q5, q2, q4, h34, h10, h13, h44, ne_eq]
  repeat' split
  all_goals first | rfl | (exfalso; simp_all)
theorem st7_high (q : Nat) {c d : UInt8} (hc : 128 ≤ c.toNat) (hd : 128 ≤ d.toNat) : st7 q c = st7 q d := by
  have f : ∀ (x : UInt8), 128 ≤ x.toNat → x ≠ 34 ∧ x ≠ 10 ∧ x ≠ 13 ∧ x ≠ 44 := by
    intro x hx
    refine ⟨?_, ?_, ?_, ?_⟩ <;> (rintro rfl; revert hx; decide)
  have a := f c hc
  have b := f d hd
  simp [st7, a, b]
theorem st7R_high (q : Nat) {r : Int} {c : UInt8} (hr : 128 ≤ r) (hc : 128 ≤ c.toNat) : st7R (q : Int) r = (st7 q c : Int) := by
  have a : c ≠ 34 ∧ c ≠ 10 ∧ c ≠ 13 ∧ c ≠ 44 := by
    refine ⟨?_, ?_, ?_, ?_⟩ <;> (rintro rfl; revert hc; decide)
  have b : r ≠ 34 ∧ r ≠ 10 ∧ r ≠ 13 ∧ r ≠ 44 := ⟨by omega, by omega, by omega, by omega⟩
  unfold st7R st7
  have q3 : ((q : Int) = 3) ↔ q = 3 := by omega
  have q5 : ((q : Int) = 5) ↔ q = 5 := by omega
  have q4 : ((q : Int) = 4) ↔ q = 4 := by omega
  simp only [q3, q5, q4, a, b, ne_eq, not_false_eq_true, and_true, if_false]
  repeat' split
  all_goals rfl
/-- Bytes of a rune of more than one. -/
theorem mach_high : ∀ (h l : List UInt8) (q : Nat) (cur : List UInt8) (row : List (List UInt8)) (rows : List (List (List UInt8))), (∀ x ∈ h, 128 ≤ x.toNat) → q = 2 ∨ q = 3 → mach (h ++ l) q cur row rows = mach l q (cur ++ h) row rows
  | [], l, q, cur, row, rows, _, _ => by simp
  | c :: t, l, q, cur, row, rows, hh, hq => by
    have hc := hh c (by simp)
    have a : c ≠ 34 ∧ c ≠ 10 ∧ c ≠ 13 ∧ c ≠ 44 := by
      refine ⟨?_, ?_, ?_, ?_⟩ <;> (rintro rfl; revert hc; decide)
    have e : st7 q c = q := by
      rcases hq with rfl | rfl <;> simp [st7, a]
    rw [List.cons_append, mach, e, if_neg (by omega), if_neg (by omega), if_neg (by omega), mach_high t l q (cur ++ [c]) row rows (fun x hx => hh x (by simp [hx])) hq]
    simp
theorem decode_conts (s : ByteArray) (i : Nat) (j : Nat) (h1 : 1 ≤ j) (h2 : j < (Utf8.decode s i).2) : i + j < s.size ∧ 128 ≤ (s.get! (i + j)).toNat := by
  have key : ∀ n : Nat, (Utf8.decode s i).2 = n → (n = 1 ∨ (n = 2 ∧ i + 1 < s.size ∧ 128 ≤ (s.get! (i + 1)).toNat) ∨ (n = 3 ∧ i + 2 < s.size ∧ 128 ≤ (s.get! (i + 1)).toNat ∧ 128 ≤ (s.get! (i + 2)).toNat) ∨ (n = 4 ∧ i + 3 < s.size ∧ 128 ≤ (s.get! (i + 1)).toNat ∧ 128 ≤ (s.get! (i + 2)).toNat ∧ 128 ≤ (s.get! (i + 3)).toNat)) := by
    intro n hn
    simp only [Utf8.decode] at hn
    revert hn
    repeat' split
    all_goals intro hn
    all_goals simp only [Bool.and_eq_true, decide_eq_true_eq, beq_iff_eq] at *
    all_goals omega
  rcases key _ rfl with h | ⟨h, a, b⟩ | ⟨h, a, b, c⟩ | ⟨h, a, b, c, d⟩
  · omega
  · obtain rfl : j = 1 := by omega
    exact ⟨a, b⟩
  · obtain rfl | rfl : j = 1 ∨ j = 2 := by omega
    · exact ⟨by omega, b⟩
    · exact ⟨a, c⟩
  · obtain rfl | rfl | rfl : j = 1 ∨ j = 2 ∨ j = 3 := by omega
    · exact ⟨by omega, b⟩
    · exact ⟨by omega, c⟩
    · exact ⟨a, d⟩
end Go.Proofs.YticeagjonfifbaaGreatDoor
