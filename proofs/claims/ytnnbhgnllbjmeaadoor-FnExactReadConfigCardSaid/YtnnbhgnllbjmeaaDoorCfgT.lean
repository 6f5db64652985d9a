/-
  The text of settings, line by line: plain mathematics.
-/
import Derived.Test.YtnnbhgnllbjmeaaDoorCfgN
namespace Go.Proofs.YtnnbhgnllbjmeaaDoor
open Go.RowKit

/-- The first lines of the text. -/
def preC (C : Cfg) (k : Nat) : List UInt8 := linesT ((List.range k).map fun j => lineL j C)
theorem linesT_app : ∀ (A : List (List UInt8)) (x : List UInt8), linesT (A ++ [x]) = linesT A ++ (x ++ [10])
  | [], x => by simp [linesT]
  | a :: r, x => by rw [List.cons_append, linesT, linesT_app r x, linesT]; simp
theorem preC_zero (C : Cfg) : preC C 0 = [] := rfl
theorem preC_succ (C : Cfg) (k : Nat) : preC C (k + 1) = preC C k ++ (lineL k C ++ [10]) := by
  unfold preC
  rw [List.range_succ, List.map_append, List.map_singleton, linesT_app]
theorem textC_no {C : Cfg} (h : okC C = true) (hs : C.s = []) : textC C = preC C 6 := by
  rw [textC, if_pos h, keysC, if_pos hs]; rfl
theorem textC_yes {C : Cfg} (h : okC C = true) (hs : C.s ≠ []) : textC C = preC C 7 := by
  rw [textC, if_pos h, keysC, if_neg hs]; rfl
theorem lineL_len {C : Cfg} (h : okC C = true) {k : Nat} (hk : k < 7) : (lineL k C).length ≤ 67 := by
  have h1 := valueL_len h hk
  have h2 := (wordL_ok k hk).2.2
  simp only [lineL, List.length_append, List.length_cons]
  omega
theorem preC_len {C : Cfg} (h : okC C = true) : ∀ {k : Nat}, k ≤ 7 → (preC C k).length ≤ 68 * k
  | 0, _ => by simp [preC, linesT]
  | k + 1, hk => by
    have ih := preC_len h (k := k) (by omega)
    have h1 := lineL_len h (k := k) (by omega)
    rw [preC_succ]
    simp only [List.length_append, List.length_cons, List.length_nil]
    omega
theorem cat_line (p wd t : List UInt8) : ((⟨p.toArray⟩ : ByteArray) ++ ⟨wd.toArray⟩ ++ ⟨#[61]⟩ ++ ⟨t.toArray⟩ ++ ⟨#[10]⟩) = ⟨(p ++ ((wd ++ 61 :: t) ++ [10])).toArray⟩ := by
  apply ByteArray.ext
  simp
theorem lineL_num {C : Cfg} {k : Nat} (hk : k < 5) : lineL k C = wordL k ++ 61 :: Lib.itoa (numC k C) := by
  rw [lineL, valueL, if_neg (by omega), if_neg (by omega)]
theorem preC_num {C : Cfg} {k : Nat} (hk : k < 5) : preC C (k + 1) = preC C k ++ ((wordL k ++ 61 :: Lib.itoa (numC k C)) ++ [10]) := by rw [preC_succ, lineL_num hk]
/-- The line of the rate: "rate=". -/
theorem preC_rate (C : Cfg) : preC C 6 = preC C 5 ++ (([114, 97, 116, 101, 61] ++ (Lib.itoa C.n ++ 47 :: Lib.itoa C.e)) ++ [10]) := by
  rw [preC_succ, lineL, valueL, if_neg (by omega), if_pos rfl]
  simp [wordL, wordsL]
theorem cat_rate (p a b : List UInt8) : ((⟨p.toArray⟩ : ByteArray) ++ ⟨#[114, 97, 116, 101, 61]⟩ ++ ⟨a.toArray⟩ ++ ⟨#[47]⟩ ++ ⟨b.toArray⟩ ++ ⟨#[10]⟩) = ⟨(p ++ (([114, 97, 116, 101, 61] ++ (a ++ 47 :: b)) ++ [10])).toArray⟩ := by
  apply ByteArray.ext
  simp
/-- The line of the signs: "signs=". -/
theorem preC_signs (C : Cfg) : preC C 7 = preC C 6 ++ (([115, 105, 103, 110, 115, 61] ++ Lib.join (C.s.map sgnT) [44]) ++ [10]) := by
  rw [preC_succ, lineL, valueL, if_pos rfl]
  simp [wordL, wordsL]
theorem cat_signs (p a : List UInt8) : ((⟨p.toArray⟩ : ByteArray) ++ ⟨#[115, 105, 103, 110, 115, 61]⟩ ++ ⟨a.toArray⟩ ++ ⟨#[10]⟩) = ⟨(p ++ (([115, 105, 103, 110, 115, 61] ++ a) ++ [10])).toArray⟩ := by
  apply ByteArray.ext
  simp
end Go.Proofs.YtnnbhgnllbjmeaaDoor
