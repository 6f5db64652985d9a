/-
  Settings and their text: plain mathematics.
-/
import Derived.Test.YtekdlkakcclejaaFixD
namespace Go.Proofs.Ytekdlkakcclejaa
open Go.RowKit

/-- Settings. -/
structure Cfg where
  r : Int
  d : Int
  b : Int
  l : Int
  m : Int
  n : Int
  e : Int
  s : List Int
def usualC : Cfg := ⟨4, 2, 4, 1, 1, 1, 1, []⟩
def zeroC : Cfg := ⟨0, 0, 0, 0, 0, 0, 0, []⟩
def inZ (x lo hi : Int) : Bool := decide (lo ≤ x ∧ x ≤ hi)
theorem inZ_iff {x lo hi : Int} : inZ x lo hi = true ↔ lo ≤ x ∧ x ≤ hi := by simp [inZ]
/-- Whether settings are right. -/
def okC (C : Cfg) : Bool := inZ C.r 1 8 && inZ C.d 0 4 && inZ C.b 2 8 && inZ C.l 1 100 && inZ C.m 1 20 && C.s.all (fun z => inZ z (-1) 1) && (inZ C.e 1 1000 && inZ C.n 1 C.e && decide (C.s.length ≤ 4))
/-- A sign's text. -/
def sgnT (z : Int) : List UInt8 := if z = -1 then [45] else if z = 0 then [48] else [43]
def wordsL : List (List UInt8) := [[114, 111, 117, 110, 100, 115], [100, 101, 112, 116, 104], [98, 105, 110, 115], [108, 97, 109, 98, 100, 97], [114, 111, 119, 115], [114, 97, 116, 101], [115, 105, 103, 110, 115]]
def wordL (k : Nat) : List UInt8 := wordsL.getD k []
/-- The number that a key stands for. -/
def numC (k : Nat) (C : Cfg) : Int := match k with | 0 => C.r | 1 => C.d | 2 => C.b | 3 => C.l | _ => C.m
/-- What stands behind a key's sign of equality. -/
def valueL (k : Nat) (C : Cfg) : List UInt8 :=
  if k = 6 then Lib.join (C.s.map sgnT) [44] else if k = 5 then Lib.itoa C.n ++ [47] ++ Lib.itoa C.e else Lib.itoa (numC k C)
/-- A key's line, without its end. -/
def lineL (k : Nat) (C : Cfg) : List UInt8 := wordL k ++ 61 :: valueL k C
/-- The keys of a text's lines. -/
def keysC (C : Cfg) : List Nat := if C.s = [] then [0, 1, 2, 3, 4, 5] else [0, 1, 2, 3, 4, 5, 6]
/-- Lines, each with its end. -/
def linesT : List (List UInt8) → List UInt8
  | [] => []
  | a :: r => a ++ 10 :: linesT r
/-- The text of settings. -/
def textC (C : Cfg) : List UInt8 := if okC C = true then linesT ((keysC C).map fun k => lineL k C) else []

/-- A line's two sides. -/
def splitEq : List UInt8 → Option (List UInt8 × List UInt8)
  | [] => none
  | c :: r => if c = 61 then some ([], r) else (splitEq r).map fun p => (c :: p.1, p.2)
/-- Which key a word is. -/
def wordOf (l : List UInt8) : Option Nat := (List.range 7).find? fun k => wordL k == l
def leastC (k : Nat) : Int := match k with | 0 => 1 | 1 => 0 | 2 => 2 | 3 => 1 | _ => 1
def mostC (k : Nat) : Int := match k with | 0 => 8 | 1 => 4 | 2 => 8 | 3 => 100 | _ => 20
def setC (k : Nat) (z : Int) (C : Cfg) : Cfg := match k with | 0 => { C with r := z } | 1 => { C with d := z } | 2 => { C with b := z } | 3 => { C with l := z } | _ => { C with m := z }
/-- What a rate's text says. -/
noncomputable def rateV (l : List UInt8) : Int × Int × Nat :=
  match partsL 47 l with
  | [a, b] =>
    match numV a, numV b with
    | some n, some d => if inZ n 1 1000 = true ∧ inZ d 1 1000 = true ∧ n ≤ d then (n, d, 0) else (0, 0, 13)
    | _, _ => (0, 0, 12)
  | _ => (0, 0, 12)
def sgnV (l : List UInt8) : Option Int := if l = [43] then some 1 else if l = [48] then some 0 else if l = [45] then some (-1) else none
def sgnsV : List (List UInt8) → Option (List Int)
  | [] => some []
  | a :: r => match sgnV a, sgnsV r with | some z, some t => some (z :: t) | _, _ => none
/-- What the text of signs says. -/
def signsV (l : List UInt8) : Option (List Int) := if 4 < (partsL 44 l).length then none else sgnsV (partsL 44 l)
/-- What a line lays. -/
noncomputable def layV (C : Cfg) (k : Nat) (l : List UInt8) : Cfg × Nat :=
  if k = 6 then (match signsV l with | some s => ({ C with s := s }, 0) | none => ({ C with s := [] }, 14))
  else if k = 5 then ({ C with n := (rateV l).1, e := (rateV l).2.1 }, (rateV l).2.2)
  else match numV l with | none => (C, 12) | some z => (setC k z C, if inZ z (leastC k) (mostC k) = true then 0 else 13)
/-- The lines, one by one. -/
noncomputable def goC : List (List UInt8) → Nat → List Nat → Cfg → Cfg × Nat × Nat
  | [], _, _, C => (C, 0, 0)
  | x :: t, i, met, C =>
    if x = [] then goC t (i + 1) met C else
    match splitEq x with
    | none => (zeroC, 10, i)
    | some (a, v) =>
      match wordOf a with
      | none => (zeroC, 11, i)
      | some k =>
        if k ∈ met then (zeroC, 6, i)
        else if (layV C k v).2 = 0 then goC t (i + 1) (k :: met) (layV C k v).1 else (zeroC, (layV C k v).2, i)
/-- What reading settings answers: the settings, and the fault's two numbers. -/
noncomputable def readC (l : List UInt8) : Cfg × Nat × Nat := if 4000 < l.length then (zeroC, 1, 0) else goC (partsL 10 l) 0 [] usualC

theorem splitEq_at : ∀ {a : List UInt8} (v : List UInt8), (∀ x ∈ a, x ≠ 61) → splitEq (a ++ 61 :: v) = some (a, v)
  | [], v, _ => by rw [List.nil_append, splitEq, if_pos rfl]
  | c :: r, v, h => by
    rw [List.cons_append, splitEq, if_neg (h c (by simp)), splitEq_at v (fun x hx => h x (by simp [hx]))]
    rfl
theorem wordL_ok : ∀ k, k < 7 → (∀ x ∈ wordL k, x ≠ 61 ∧ x ≠ 10) ∧ wordOf (wordL k) = some k ∧ (wordL k).length ≤ 6 := by decide
theorem wordOf_lt {l : List UInt8} {k : Nat} (h : wordOf l = some k) : k < 7 ∧ wordL k = l := by
  have h1 := List.mem_of_find?_eq_some h
  have h2 := List.find?_some h
  exact ⟨List.mem_range.1 h1, by simpa using h2⟩

theorem itoa_dig {z : Int} (h0 : 0 ≤ z) : ∀ x ∈ Lib.itoa z, isDig x := by
  obtain ⟨u, rfl⟩ := Int.eq_ofNat_of_zero_le h0
  rw [Lib.itoa_nonneg]
  exact decDigits_dig u
theorem dig_ne {x c : UInt8} (h : isDig x) (hc : c.toNat < 48) : x ≠ c := by
  intro e
  rw [e] at h
  have := h.1
  omega
theorem isNum_itoa {z : Int} (h0 : 0 ≤ z) (h1 : z ≤ 999999999) : IsNum (Lib.itoa z) z := ⟨by omega, by omega, rfl⟩
theorem numV_itoa {z : Int} (h0 : 0 ≤ z) (h1 : z ≤ 999999999) : numV (Lib.itoa z) = some z := numV_some (isNum_itoa h0 h1) h0 h1

/-- What right settings' numbers keep to. -/
theorem okC_iff {C : Cfg} : okC C = true ↔ (1 ≤ C.r ∧ C.r ≤ 8) ∧ (0 ≤ C.d ∧ C.d ≤ 4) ∧ (2 ≤ C.b ∧ C.b ≤ 8) ∧ (1 ≤ C.l ∧ C.l ≤ 100) ∧ (1 ≤ C.m ∧ C.m ≤ 20) ∧ (∀ z ∈ C.s, -1 ≤ z ∧ z ≤ 1) ∧ (1 ≤ C.e ∧ C.e ≤ 1000) ∧ (1 ≤ C.n ∧ C.n ≤ C.e) ∧ C.s.length ≤ 4 := by
  simp only [okC, Bool.and_eq_true, inZ_iff, List.all_eq_true, decide_eq_true_eq]
  constructor
  · rintro ⟨⟨⟨⟨⟨⟨h1, h2⟩, h3⟩, h4⟩, h5⟩, h6⟩, ⟨h7, h8⟩, h9⟩
    exact ⟨h1, h2, h3, h4, h5, h6, h7, h8, h9⟩
  · rintro ⟨h1, h2, h3, h4, h5, h6, h7, h8, h9⟩
    exact ⟨⟨⟨⟨⟨⟨h1, h2⟩, h3⟩, h4⟩, h5⟩, h6⟩, ⟨h7, h8⟩, h9⟩
theorem okC_usual : okC usualC = true := by decide

theorem parts_joined (c : UInt8) : ∀ (L : List (List UInt8)), L ≠ [] → (∀ a ∈ L, ∀ x ∈ a, x ≠ c) → partsL c (Lib.join L [c]) = L
  | [], h, _ => absurd rfl h
  | [a], _, h => by
    rw [Lib.join_one]
    exact parts_none (h a (by simp))
  | a :: b :: r, _, h => by
    have ih := parts_joined c (b :: r) (by simp) (fun x hx => h x (by simp [hx]))
    have e : Lib.join (a :: b :: r) [c] = a ++ c :: Lib.join (b :: r) [c] := by rw [Lib.join_cons, Lib.join_cons]; simp [Lib.joinTail]
    rw [e, parts_cut _ (h a (by simp)), ih]
theorem parts_lines : ∀ (L : List (List UInt8)), (∀ a ∈ L, ∀ x ∈ a, x ≠ 10) → partsL 10 (linesT L) = L ++ [[]]
  | [], _ => by rw [linesT]; exact parts_none (by simp)
  | a :: r, h => by
    rw [linesT, parts_cut _ (h a (by simp)), parts_lines r (fun x hx => h x (by simp [hx]))]
    rfl
theorem rateV_text {n e : Int} (h1 : 1 ≤ n) (h2 : n ≤ e) (h3 : e ≤ 1000) : rateV (Lib.itoa n ++ [47] ++ Lib.itoa e) = (n, e, 0) := by
  have hp : partsL 47 (Lib.itoa n ++ [47] ++ Lib.itoa e) = [Lib.itoa n, Lib.itoa e] := by
    rw [List.append_assoc, List.singleton_append, parts_cut _ (fun x hx => dig_ne (itoa_dig (by omega) x hx) (by decide)), parts_none (fun x hx => dig_ne (itoa_dig (by omega) x hx) (by decide))]
  rw [rateV, hp]
  simp only
  rw [numV_itoa (by omega) (by omega), numV_itoa (by omega) (by omega)]
  simp only
  rw [if_pos ⟨inZ_iff.2 ⟨by omega, by omega⟩, inZ_iff.2 ⟨by omega, by omega⟩, h2⟩]
theorem sgnT_ne {z : Int} : ∀ x ∈ sgnT z, x ≠ 44 ∧ x ≠ 10 := by
  intro x hx
  unfold sgnT at hx
  split at hx
  · simp at hx; subst hx; decide
  · split at hx
    · simp at hx; subst hx; decide
    · simp at hx; subst hx; decide
theorem sgnV_text {z : Int} (h0 : -1 ≤ z) (h1 : z ≤ 1) : sgnV (sgnT z) = some z := by
  rcases (by omega : z = -1 ∨ z = 0 ∨ z = 1) with rfl | rfl | rfl <;> rfl
theorem sgnsV_text : ∀ (s : List Int), (∀ z ∈ s, -1 ≤ z ∧ z ≤ 1) → sgnsV (s.map sgnT) = some s
  | [], _ => rfl
  | z :: t, h => by
    have h1 := h z (by simp)
    rw [List.map_cons, sgnsV, sgnV_text h1.1 h1.2, sgnsV_text t (fun x hx => h x (by simp [hx]))]
theorem signs_parts {s : List Int} (hne : s ≠ []) : partsL 44 (Lib.join (s.map sgnT) [44]) = s.map sgnT :=
  parts_joined 44 _ (by simpa using hne) (fun a ha x hx => by
    obtain ⟨z, _, rfl⟩ := List.mem_map.1 ha
    exact (sgnT_ne x hx).1)
theorem signsV_text {s : List Int} (h : ∀ z ∈ s, -1 ≤ z ∧ z ≤ 1) (hl : s.length ≤ 4) (hne : s ≠ []) : signsV (Lib.join (s.map sgnT) [44]) = some s := by
  rw [signsV, signs_parts hne, if_neg (by rw [List.length_map]; omega), sgnsV_text s h]

/-- One key's field of C, laid into D. -/
def putC (k : Nat) (D C : Cfg) : Cfg := if k = 6 then { D with s := C.s } else if k = 5 then { D with n := C.n, e := C.e } else setC k (numC k C) D
theorem num_range {C : Cfg} (h : okC C = true) {k : Nat} (hk : k < 5) : leastC k ≤ numC k C ∧ numC k C ≤ mostC k ∧ 0 ≤ numC k C ∧ numC k C ≤ 1000 := by
  have ho := okC_iff.1 h
  rcases (by omega : k = 0 ∨ k = 1 ∨ k = 2 ∨ k = 3 ∨ k = 4) with rfl | rfl | rfl | rfl | rfl <;> simp only [leastC, mostC, numC] <;> omega
theorem layV_text {C : Cfg} (h : okC C = true) (D : Cfg) {k : Nat} (hk : k < 7) (hs : k = 6 → C.s ≠ []) : layV D k (valueL k C) = (putC k D C, 0) := by
  have ho := okC_iff.1 h
  unfold layV valueL putC
  by_cases h6 : k = 6
  · rw [if_pos h6, if_pos h6, if_pos h6, signsV_text ho.2.2.2.2.2.1 ho.2.2.2.2.2.2.2.2 (hs h6)]
  · rw [if_neg h6, if_neg h6, if_neg h6]
    by_cases h5 : k = 5
    · rw [if_pos h5, if_pos h5, if_pos h5, rateV_text ho.2.2.2.2.2.2.2.1.1 ho.2.2.2.2.2.2.2.1.2 ho.2.2.2.2.2.2.1.2]
    · rw [if_neg h5, if_neg h5, if_neg h5]
      have hr := num_range h (by omega : k < 5)
      rw [numV_itoa hr.2.2.1 (by omega)]
      simp only
      rw [if_pos (inZ_iff.2 ⟨hr.1, hr.2.1⟩)]
theorem valueL_ne {C : Cfg} (h : okC C = true) {k : Nat} (hk : k < 7) : ∀ x ∈ valueL k C, x ≠ 10 := by
  have ho := okC_iff.1 h
  intro x hx
  unfold valueL at hx
  split at hx
  · have : ∀ (L : List (List UInt8)), (∀ a ∈ L, ∀ y ∈ a, y ≠ 10) → ∀ y ∈ Lib.join L [44], y ≠ 10 := by
      intro L hL
      match L with
      | [] => simp [Lib.join_nil]
      | a :: r =>
        have ht : ∀ (r : List (List UInt8)), (∀ b ∈ r, ∀ y ∈ b, y ≠ 10) → ∀ y ∈ Lib.joinTail [44] r, y ≠ 10 := by
          intro r hr
          induction r with
          | nil => simp [Lib.joinTail]
          | cons b t ih =>
            intro y hy
            simp only [Lib.joinTail, List.map_cons, List.flatten_cons, List.mem_append, List.mem_singleton] at hy
            rcases hy with (rfl | hy) | hy
            · decide
            · exact hr b (by simp) y hy
            · exact ih (fun c hc => hr c (by simp [hc])) y hy
        intro y hy
        rw [Lib.join_cons, List.mem_append] at hy
        rcases hy with hy | hy
        · exact hL a (by simp) y hy
        · exact ht r (fun b hb => hL b (by simp [hb])) y hy
    exact this _ (fun a ha y hy => by
      obtain ⟨z, _, rfl⟩ := List.mem_map.1 ha
      exact (sgnT_ne y hy).2) x hx
  · split at hx
    · simp only [List.mem_append, List.mem_singleton] at hx
      rcases hx with (hx | rfl) | hx
      · exact dig_ne (itoa_dig (by omega) x hx) (by decide)
      · decide
      · exact dig_ne (itoa_dig (by omega) x hx) (by decide)
    · exact dig_ne (itoa_dig (num_range h (by omega : k < 5)).2.2.1 x hx) (by decide)
theorem lineL_ne {C : Cfg} (h : okC C = true) {k : Nat} (hk : k < 7) : ∀ x ∈ lineL k C, x ≠ 10 := by
  intro x hx
  simp only [lineL, List.mem_append, List.mem_cons] at hx
  rcases hx with hx | rfl | hx
  · exact ((wordL_ok k hk).1 x hx).2
  · decide
  · exact valueL_ne h hk x hx

/-- A line, or an empty one. -/
def lineO (C : Cfg) : Option Nat → List UInt8
  | none => []
  | some k => lineL k C
theorem goC_lines {C : Cfg} (h : okC C = true) : ∀ (ks : List (Option Nat)) (i : Nat) (met : List Nat) (D : Cfg), (∀ k, some k ∈ ks → k < 7 ∧ (k = 6 → C.s ≠ []) ∧ k ∉ met) → (ks.filterMap id).Nodup →
    goC (ks.map (lineO C)) i met D = ((ks.filterMap id).foldl (fun D k => putC k D C) D, 0, 0)
  | [], i, met, D, _, _ => rfl
  | none :: t, i, met, D, hk, hn => by
    rw [List.map_cons, goC, if_pos (show lineO C none = [] from rfl), goC_lines h t (i + 1) met D (fun k hm => hk k (by simp [hm])) (by simpa using hn)]
    rfl
  | some k :: t, i, met, D, hk, hn => by
    obtain ⟨h7, hs, hm⟩ := hk k (by simp)
    have hw := wordL_ok k h7
    have hn2 : k ∉ t.filterMap id ∧ (t.filterMap id).Nodup := by simpa using hn
    have hne : lineO C (some k) ≠ [] := by simp [lineO, lineL]
    have hsp : splitEq (lineO C (some k)) = some (wordL k, valueL k C) := splitEq_at _ (fun x hx => (hw.1 x hx).1)
    rw [List.map_cons, goC, if_neg hne, hsp]
    simp only
    rw [hw.2.1]
    simp only
    rw [if_neg hm, layV_text h D h7 hs, if_pos rfl]
    rw [goC_lines h t (i + 1) (k :: met) _ (fun j hj => ⟨(hk j (by simp [hj])).1, (hk j (by simp [hj])).2.1, fun hmem => by
      rcases List.mem_cons.1 hmem with rfl | hmem
      · exact hn2.1 (List.mem_filterMap.2 ⟨some j, hj, rfl⟩)
      · exact (hk j (by simp [hj])).2.2 hmem⟩) hn2.2]
    rfl
theorem foldC {C : Cfg} : ∀ (ks : List Nat) (D : Cfg), (∀ k ∈ ks, k < 7) → (∀ (F : Cfg), F = ks.foldl (fun D k => putC k D C) D →
    F.r = (if 0 ∈ ks then C.r else D.r) ∧ F.d = (if 1 ∈ ks then C.d else D.d) ∧ F.b = (if 2 ∈ ks then C.b else D.b) ∧ F.l = (if 3 ∈ ks then C.l else D.l) ∧ F.m = (if 4 ∈ ks then C.m else D.m) ∧ F.n = (if 5 ∈ ks then C.n else D.n) ∧ F.e = (if 5 ∈ ks then C.e else D.e) ∧ F.s = (if 6 ∈ ks then C.s else D.s))
  | [], D, _, F, hF => by subst hF; simp
  | k :: t, D, hk, F, hF => by
    have ih := foldC t (putC k D C) (fun j hj => hk j (by simp [hj])) F hF
    have h7 := hk k (by simp)
    rcases (by omega : k = 0 ∨ k = 1 ∨ k = 2 ∨ k = 3 ∨ k = 4 ∨ k = 5 ∨ k = 6) with rfl | rfl | rfl | rfl | rfl | rfl | rfl <;> simp [putC, setC, numC] at ih ⊢ <;> (refine ⟨?_, ?_, ?_, ?_, ?_, ?_, ?_, ?_⟩ <;> first | exact ih.1 | exact ih.2.1 | exact ih.2.2.1 | exact ih.2.2.2.1 | exact ih.2.2.2.2.1 | exact ih.2.2.2.2.2.1 | exact ih.2.2.2.2.2.2.1 | exact ih.2.2.2.2.2.2.2 | (simp only [ih]; split <;> simp_all))
theorem foldC_all {C : Cfg} {ks : List Nat} (hk : ∀ k ∈ ks, k < 7) (h5 : ∀ k, k < 6 → k ∈ ks) (h6 : 6 ∈ ks ∨ C.s = []) : ks.foldl (fun D k => putC k D C) usualC = C := by
  obtain ⟨h0, h1, h2, h3, h4, ha, hb, hc⟩ := foldC (C := C) ks usualC hk _ rfl
  have e : ∀ F : Cfg, F.r = C.r → F.d = C.d → F.b = C.b → F.l = C.l → F.m = C.m → F.n = C.n → F.e = C.e → F.s = C.s → F = C := by
    intro F a b c d e f g h
    cases F
    cases C
    simp_all
  rw [if_pos (h5 _ (by omega))] at h0 h1 h2 h3 h4 ha hb
  refine e _ h0 h1 h2 h3 h4 ha hb ?_
  rcases h6 with h6 | h6
  · rw [if_pos h6] at hc; exact hc
  · rw [hc]
    split
    · rfl
    · rw [h6]; rfl
end Go.Proofs.Ytekdlkakcclejaa
