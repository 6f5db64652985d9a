/-
  Whether a text holds one of the four bytes that want quotes, the program's way (strings.ContainsAny): at every string.
-/
import Derived.Test.YticeagjonfifbaaGreatDoorPk2
import Derived.Test.YticeagjonfifbaaGreatDoorPk10
import Derived.Test.YticeagjonfifbaaGreatDoorShCsv
import Derived.Lib.OthersKept
import Derived.Laws.Runes
import Derived.WalkMore
import Derived.Deep.LoopGhost
import Derived.Deep.WholeRow
namespace Go.Proofs.YticeagjonfifbaaGreatDoor
open Go.RowKit

/-- The four bytes. -/
def four : ByteArray := ⟨#[44, 34, 10, 13]⟩
theorem four_size : four.size = 4 := rfl
theorem four_ascii : ∀ (j : Nat) b, four.data.toList[j]? = some b → b.toNat < 128 := by
  intro j b h
  have hm : b ∈ four.data.toList := List.mem_of_getElem? h
  have : b ∈ [(44 : UInt8), 34, 10, 13] := hm
  simp only [List.mem_cons, List.not_mem_nil, or_false] at this
  rcases this with rfl | rfl | rfl | rfl <;> decide

set_option maxRecDepth 100000 in
/-- A rune that is none of ASCII: the replacement character. -/
theorem idxRune_bad (w : World) : Calls Tryz.prog 139 #[.string four, .int .i32 65533] w fun e w' => e = .returned (.int .i64 (-1)) ∧ Below w.heap.size w w' := by
  go_enter Tryz.func139, Tryz.ntmps139
  go_wp2_with fail
  go_loopg [5, 6] 4 (fun g _ _ wx => ∃ i : Nat, i + g = 4 ∧ wx = w.iter four i)
  case atStart => exact ⟨0, rfl, rfl⟩
  case round =>
    obtain ⟨i, hig, rfl⟩ := hrel
    cases gk with
    | zero =>
      obtain rfl : i = 4 := by omega
      have hnx := fun ty => run_next_end (P := Tryz.prog) w four 4 ty (by rw [four_size]; omega)
      go_wp2_with fail
      go_ret
      exact ⟨rfl, (Below.refl _ _).alloc (Nat.le_refl _) _⟩
    | succ g =>
      have hi : i < four.size := by rw [four_size]; omega
      have ha : (four[i]'hi).toNat < 128 := four_ascii i _ (Lib.data_getElem? four i hi)
      have hnx := fun ty => run_next_ascii (P := Tryz.prog) w four i ty hi ha
      have hne : ¬ ((four[i]'hi).toNat : Int) = 65533 := by omega
      generalize ((four[i]'hi).toNat : Int) = z at hnx hne
      clear ha
      go_wp2_with fail
      go_roundg g
      case measure => omega
      case rel => exact ⟨i + 1, by omega, rfl⟩

set_option maxRecDepth 100000 in
/-- One that is none at all. -/
theorem idxRune_not (r : Int) (hr : 128 ≤ r) (hb : ¬ r = 65533) (hv : Lib.validRune r = false) (w : World) : Calls Tryz.prog 139 #[.string four, .int .i32 r] w fun e w' => e = .returned (.int .i64 (-1)) ∧ w' = w := by
  have h0 : (0 : Int) ≤ r := by omega
  have h1 : ¬ r < 128 := by omega
  go_enter Tryz.func139, Tryz.ntmps139
  go_wp2_with fail
  refine (Tryz.utf8_ValidRune r w).mono ?_
  rintro e w1 ⟨rfl, rfl⟩
  rw [hv]
  go_wp2_with fail
  go_ret
  exact ⟨rfl, rfl⟩
theorem noByte {l : List UInt8} (c : UInt8) (hl : ∀ b ∈ l, b.toNat < 128) (hc : 128 ≤ c.toNat) : Lib.indexByte l c = -1 := by
  induction l with
  | nil => rfl
  | cons b t ih =>
    have hb := hl b (by simp)
    have hne : (b == c) = false := by
      rw [beq_eq_false_iff_ne]
      rintro rfl
      omega
    unfold Lib.indexByte
    rw [hne, ih (fun x hx => hl x (by simp [hx]))]
    rfl
theorem ixNone (t : ByteArray) (ht : ∀ b ∈ t.data.toList, b.toNat < 128) (y : UInt8) (hy : 128 ≤ y.toNat) (w : World) : Calls Tryz.prog 156 #[.string t, .int .u8 y.toNat] w fun e w' => e = .returned (.int .i64 (-1)) ∧ w' = w :=
  (Tryz.strings_IndexByte t y.toNat w).mono fun e w' ⟨he, hw⟩ => ⟨by rw [he, show ((y.toNat : Int)).toNat.toUInt8 = y by simp, noByte y ht hy], hw⟩
theorem valid_lib {r : Int} (h : Lib.validRune r = true) : Utf8.valid r = true := by
  rw [Lib.validRune, decide_eq_true_eq] at h
  simp only [Utf8.valid, Bool.or_eq_true, Bool.and_eq_true, decide_eq_true_eq]
  omega
set_option maxRecDepth 100000 in
set_option maxHeartbeats 1000000 in
theorem idxRune_ok2 (S : ByteArray) (hS : S.size = 4) (hA : ∀ b ∈ S.data.toList, b.toNat < 128) (r : Int) (hr : 128 ≤ r) (hb : ¬ r = 65533) (hv : Lib.validRune r = true) (E : ByteArray) (hE : Utf8.encode r = E) (hn : E.size = 2) (y : UInt8) (hy : E[1]'(by omega) = y) (hy2 : 128 ≤ y.toNat) (w : World) :
    Calls Tryz.prog 139 #[.string S, .int .i32 r] w fun e w' => e = .returned (.int .i64 (-1)) ∧ Below w.heap.size w w' := by
  have hw : IntKind.i64.wrap 2 = 2 := by decide
  have h0 : (0 : Int) ≤ r := by omega
  have h1 : ¬ r < 128 := by omega
  have hcv : ∀ w, (convert 21 9 (.int .i32 r)).run Tryz.prog w = .ok (.string E) w := fun w => by
    rw [run_convert_int_string w 21 9 .i32 r (by rw [Tryz.underlying21]; rfl) Tryz.underlying9, hE]
  obtain ⟨x, hx⟩ : ∃ x : UInt8, S[1]'(by omega) = x := ⟨_, rfl⟩
  have hx2 : x.toNat < 128 := by
    rw [← hx]
    exact hA _ (List.mem_of_getElem? (Lib.data_getElem? S 1 (by omega)))
  have hxy : ((x.toNat : Int) == (y.toNat : Int)) = false := beq_eq_false_iff_ne.2 (by omega)
  have HX := Lib.hid (fun w => ixNone (S.extract 2 4) (fun b hb => hA b (mem_extract hb)) y hy2 w)
  clear hx2 hy2 hA
  go_enter Tryz.func139, Tryz.ntmps139
  go_wp2_with fail
  refine (Tryz.utf8_ValidRune r w).mono ?_
  rintro e w1 ⟨rfl, rfl⟩
  rw [hv]
  go_wp2_with fail
  go_step3
  go_wp2_with fail
  go_loopg [4, 9, 10, 11, 12] 0 (fun g _ v9 _ _ _ wr => g = 0 ∧ v9 = .int .i64 1 ∧ wr = w1)
  case atStart => exact ⟨rfl, rfl, rfl⟩
  obtain ⟨rfl, rfl, rfl⟩ := hrel
  go_wp2_with fail
  go_step3
  go_wp2_with fail
  go_quiet (fail)
  go_wp2_with fail
  go_quiet (first | (go_at_call 156; exact (HX.out _).mono fun _ _ h => ⟨h.1, _, h.2⟩))
  go_wp2_with fail
  rw [Exit.noGoto_ret]
  go_wp2_with fail
  rw [Exit.noGoto_ret]
  go_ret
  exact ⟨rfl, below_drewN2 (Below.refl _ _) _⟩
set_option maxRecDepth 100000 in
set_option maxHeartbeats 1000000 in
theorem idxRune_ok3 (S : ByteArray) (hS : S.size = 4) (hA : ∀ b ∈ S.data.toList, b.toNat < 128) (r : Int) (hr : 128 ≤ r) (hb : ¬ r = 65533) (hv : Lib.validRune r = true) (E : ByteArray) (hE : Utf8.encode r = E) (hn : E.size = 3) (y : UInt8) (hy : E[2]'(by omega) = y) (hy2 : 128 ≤ y.toNat) (w : World) :
    Calls Tryz.prog 139 #[.string S, .int .i32 r] w fun e w' => e = .returned (.int .i64 (-1)) ∧ Below w.heap.size w w' := by
  have hw : IntKind.i64.wrap 3 = 3 := by decide
  have h0 : (0 : Int) ≤ r := by omega
  have h1 : ¬ r < 128 := by omega
  have hcv : ∀ w, (convert 21 9 (.int .i32 r)).run Tryz.prog w = .ok (.string E) w := fun w => by
    rw [run_convert_int_string w 21 9 .i32 r (by rw [Tryz.underlying21]; rfl) Tryz.underlying9, hE]
  obtain ⟨x, hx⟩ : ∃ x : UInt8, S[2]'(by omega) = x := ⟨_, rfl⟩
  have hx2 : x.toNat < 128 := by
    rw [← hx]
    exact hA _ (List.mem_of_getElem? (Lib.data_getElem? S 2 (by omega)))
  have hxy : ((x.toNat : Int) == (y.toNat : Int)) = false := beq_eq_false_iff_ne.2 (by omega)
  have HX := Lib.hid (fun w => ixNone (S.extract 3 4) (fun b hb => hA b (mem_extract hb)) y hy2 w)
  clear hx2 hy2 hA
  go_enter Tryz.func139, Tryz.ntmps139
  go_wp2_with fail
  refine (Tryz.utf8_ValidRune r w).mono ?_
  rintro e w1 ⟨rfl, rfl⟩
  rw [hv]
  go_wp2_with fail
  go_step3
  go_wp2_with fail
  go_loopg [4, 9, 10, 11, 12] 0 (fun g _ v9 _ _ _ wr => g = 0 ∧ v9 = .int .i64 2 ∧ wr = w1)
  case atStart => exact ⟨rfl, rfl, rfl⟩
  obtain ⟨rfl, rfl, rfl⟩ := hrel
  go_wp2_with fail
  go_step3
  go_wp2_with fail
  go_quiet (fail)
  go_wp2_with fail
  go_quiet (first | (go_at_call 156; exact (HX.out _).mono fun _ _ h => ⟨h.1, _, h.2⟩))
  go_wp2_with fail
  rw [Exit.noGoto_ret]
  go_wp2_with fail
  rw [Exit.noGoto_ret]
  go_ret
  exact ⟨rfl, below_drewN2 (Below.refl _ _) _⟩
set_option maxRecDepth 100000 in
set_option maxHeartbeats 1000000 in
theorem idxRune_ok4 (S : ByteArray) (hS : S.size = 4) (hA : ∀ b ∈ S.data.toList, b.toNat < 128) (r : Int) (hr : 128 ≤ r) (hb : ¬ r = 65533) (hv : Lib.validRune r = true) (E : ByteArray) (hE : Utf8.encode r = E) (hn : E.size = 4) (y : UInt8) (hy : E[3]'(by omega) = y) (hy2 : 128 ≤ y.toNat) (w : World) :
    Calls Tryz.prog 139 #[.string S, .int .i32 r] w fun e w' => e = .returned (.int .i64 (-1)) ∧ Below w.heap.size w w' := by
  have hw : IntKind.i64.wrap 4 = 4 := by decide
  have h0 : (0 : Int) ≤ r := by omega
  have h1 : ¬ r < 128 := by omega
  have hcv : ∀ w, (convert 21 9 (.int .i32 r)).run Tryz.prog w = .ok (.string E) w := fun w => by
    rw [run_convert_int_string w 21 9 .i32 r (by rw [Tryz.underlying21]; rfl) Tryz.underlying9, hE]
  obtain ⟨x, hx⟩ : ∃ x : UInt8, S[3]'(by omega) = x := ⟨_, rfl⟩
  have hx2 : x.toNat < 128 := by
    rw [← hx]
    exact hA _ (List.mem_of_getElem? (Lib.data_getElem? S 3 (by omega)))
  have hxy : ((x.toNat : Int) == (y.toNat : Int)) = false := beq_eq_false_iff_ne.2 (by omega)
  have HX := Lib.hid (fun w => ixNone ByteArray.empty (fun b hb => by simp at hb) y hy2 w)
  clear hx2 hy2 hA
  go_enter Tryz.func139, Tryz.ntmps139
  go_wp2_with fail
  refine (Tryz.utf8_ValidRune r w).mono ?_
  rintro e w1 ⟨rfl, rfl⟩
  rw [hv]
  go_wp2_with fail
  go_step3
  go_wp2_with fail
  go_loopg [4, 9, 10, 11, 12] 0 (fun g _ v9 _ _ _ wr => g = 0 ∧ v9 = .int .i64 3 ∧ wr = w1)
  case atStart => exact ⟨rfl, rfl, rfl⟩
  obtain ⟨rfl, rfl, rfl⟩ := hrel
  go_wp2_with fail
  go_step3
  go_wp2_with fail
  go_quiet (fail)
  go_wp2_with fail
  go_quiet (first | (go_at_call 156; exact (HX.out _).mono fun _ _ h => ⟨h.1, _, h.2⟩))
  go_wp2_with fail
  rw [Exit.noGoto_ret]
  go_wp2_with fail
  rw [Exit.noGoto_ret]
  go_ret
  exact ⟨rfl, below_drewN2 (Below.refl _ _) _⟩

theorem idxRune_enc (r : Int) (hr : 128 ≤ r) (hb : ¬ r = 65533) (hv : Lib.validRune r = true) (w : World) :
    Calls Tryz.prog 139 #[.string four, .int .i32 r] w fun e w' => e = .returned (.int .i64 (-1)) ∧ Below w.heap.size w w' := by
  have hA : ∀ b ∈ four.data.toList, b.toNat < 128 := by
    intro b h
    obtain ⟨i, hi, e⟩ := List.getElem_of_mem h
    exact four_ascii i b (by rw [List.getElem?_eq_getElem hi, e])
  obtain ⟨E, hE⟩ : ∃ E, Utf8.encode r = E := ⟨_, rfl⟩
  have hf := encode_facts r (valid_lib hv) hr
  rw [hE] at hf
  obtain ⟨h2, h4, hy⟩ := hf
  have hc : E.size = 2 ∨ E.size = 3 ∨ E.size = 4 := by omega
  rcases hc with h | h | h
  · exact idxRune_ok2 four four_size hA r hr hb hv E hE h _ rfl (by simpa [h] using hy (by omega)) w
  · exact idxRune_ok3 four four_size hA r hr hb hv E hE h _ rfl (by simpa [h] using hy (by omega)) w
  · exact idxRune_ok4 four four_size hA r hr hb hv E hE h _ rfl (by simpa [h] using hy (by omega)) w
/-- NO RUNE BEYOND ASCII IS AMONG THE FOUR. -/
theorem idxRune_high (r : Int) (hr : 128 ≤ r) (w : World) :
    Calls Tryz.prog 139 #[.string four, .int .i32 r] w fun e w' => e = .returned (.int .i64 (-1)) ∧ Below w.heap.size w w' := by
  by_cases hb : r = 65533
  · subst hb
    exact idxRune_bad w
  · cases hv : Lib.validRune r
    · exact (idxRune_not r hr hb hv w).mono fun e w' ⟨he, hw⟩ => ⟨he, by rw [hw]; exact Below.refl _ _⟩
    · exact idxRune_enc r hr hb hv w
theorem rune_step (s : ByteArray) (i : Nat) (hi : i < s.size) (h : 128 ≤ (s[i]'hi).toNat) :
    128 ≤ (Utf8.decode s i).1 ∧ 1 ≤ (Utf8.decode s i).2 ∧ i + (Utf8.decode s i).2 ≤ s.size ∧ ∀ j b, i ≤ j → j < i + (Utf8.decode s i).2 → s.data.toList[j]? = some b → 128 ≤ b.toNat := by
  obtain ⟨h1, h2⟩ := decode_high s i hi h
  have hc := decode_conts s i
  refine ⟨h1, h2, ?_, fun j b hj hk hb => ?_⟩
  · by_cases e : (Utf8.decode s i).2 = 1
    · omega
    · have := (hc ((Utf8.decode s i).2 - 1) (by omega) (by omega)).1
      omega
  · by_cases e : j = i
    · subst e
      rw [Lib.data_getElem? s j hi] at hb
      injection hb with hb
      rw [← hb]
      exact h
    · have hx := hc (j - i) (by omega) (by omega)
      rw [show i + (j - i) = j by omega] at hx
      have hg : s.get! j = s[j]'hx.1 := by
        simp [ByteArray.get!, getElem!_pos, hx.1]
        rfl
      rw [Lib.data_getElem? s j hx.1] at hb
      injection hb with hb
      rw [← hb, ← hg]
      exact hx.2
theorem noAny_more {s c : List UInt8} {i k : Nat} (h : Lib.NoAny s c i) (hm : ∀ j b, i ≤ j → j < i + k → s[j]? = some b → c.contains b = false) : Lib.NoAny s c (i + k) := fun j b hj hb => by
  by_cases e : j < i
  · exact h j b e hb
  · exact hm j b (by omega) hj hb
theorem four_high {b : UInt8} (h : 128 ≤ b.toNat) : four.data.toList.contains b = false := by
  show ([(44 : UInt8), 34, 10, 13]).contains b = false
  simp only [List.contains_eq_mem, List.mem_cons, List.not_mem_nil, or_false, decide_eq_false_iff_not]
  rintro (rfl | rfl | rfl | rfl) <;> revert h <;> decide

set_option maxRecDepth 100000 in
set_option maxHeartbeats 4000000 in
theorem idxAny_short (s : ByteArray) (h8 : s.size ≤ 8) (w : World) :
    Calls Tryz.prog 125 #[.string s, .string four] w fun e w' => e = .returned (.int .i64 (Lib.indexAny s.data.toList four.data.toList)) ∧ Below w.heap.size w w' := by
  have h8z : ¬ (8 : Int) < s.size := by omega
  have hemp : four.toList.isEmpty = false := by
    rw [Lib.toList_data]
    rfl
  have hn1 : ((four.size : Int) == 1) = false := by
    rw [four_size]
    rfl
  have h8d : decide ((8 : Int) < s.size) = false := decide_eq_false h8z
  go_enter Tryz.func125, Tryz.ntmps125
  go_wp2_with fail
  refine (Tryz.strings_shouldUseASCIISet _ _).mono ?_
  rintro e w1 ⟨rfl, rfl⟩
  rw [h8d]
  go_wp2_with fail
  go_loopg [4, 9, 10] s.size (fun g _ _ _ wx => ∃ i : Nat, i + g = s.size ∧ wx.heap[w1.heap.size]? = some (.stringIter s i) ∧ Below w1.heap.size w1 wx ∧ Lib.NoAny s.data.toList four.data.toList i)
  case atStart => exact ⟨0, by omega, World.iter_heap w1 s 0, (Below.refl _ _).alloc (Nat.le_refl _) _, Lib.NoAny.zero _ _⟩
  case round =>
    obtain ⟨i, hig, hit, hB, hno⟩ := hrel
    have HN := Lib.hid hno
    have HB := Lib.hid hB
    clear hno hB
    cases gk with
    | zero =>
      obtain rfl : i = s.size := by omega
      have hnx := fun ty => Lib.run_next_end_at (P := Tryz.prog) wr w1.heap.size s s.size ty hit (by omega)
      go_wp2_with fail
      go_ret
      exact ⟨by rw [Lib.indexAny_none (by rw [← Lib.size_eq]; exact HN.out)]; rfl, HB.out⟩
    | succ g =>
      have hi : i < s.size := by omega
      obtain ⟨x, hx⟩ : ∃ x : UInt8, s[i]'hi = x := ⟨_, rfl⟩
      have Hx := Lib.hid (show s.data.toList[i]? = some x by rw [← hx]; exact Lib.data_getElem? s i hi)
      by_cases hx128 : x.toNat < 128
      · have hnx := fun ty => Lib.run_next_ascii_at (P := Tryz.prog) wr w1.heap.size s i ty hit hi (by rw [hx]; exact hx128)
        rw [hx] at hnx
        have HI := Lib.hid (Lib.iterAt_heap wr w1.heap.size s i (i + 1) hit)
        have HB2 := Lib.hid (Lib.below_iterAt HB.out (Nat.le_refl _) s (i + 1))
        clear hx hit HB
        obtain ⟨W, hW⟩ : ∃ W, wr.iterAt w1.heap.size s (i + 1) = W := ⟨_, rfl⟩
        rw [hW] at hnx HI HB2
        clear hW
        have hcon := Lib.contains_iff_indexByte four.data.toList x
        have hback : ((x.toNat : Int)).toNat.toUInt8 = x := by simp
        cases hin : four.data.toList.contains x
        · rw [hin] at hcon
          have hlt : ¬ ((0 : Int) ≤ Lib.indexByte four.data.toList x) := of_decide_eq_false hcon.symm
          clear hcon
          go_wp2_with fail
          refine (Tryz.strings_IndexRune_ascii _ _ _ (by omega) (by omega)).mono ?_
          rintro e w2 ⟨rfl, rfl⟩
          rw [hback]
          go_wp2_with fail
          go_roundg g
          case measure => omega
          case rel => exact ⟨i + 1, by omega, HI.out, HB2.out, HN.out.succ Hx.out hin⟩
        · rw [hin] at hcon
          have hge : (0 : Int) ≤ Lib.indexByte four.data.toList x := of_decide_eq_true hcon.symm
          clear hcon
          go_wp2_with fail
          refine (Tryz.strings_IndexRune_ascii _ _ _ (by omega) (by omega)).mono ?_
          rintro e w2 ⟨rfl, rfl⟩
          rw [hback]
          go_wp2_with fail
          go_ret
          exact ⟨by rw [Lib.indexAny_hit HN.out Hx.out hin]; rfl, HB2.out⟩
      · have hr := rune_step s i hi (by rw [hx]; omega)
        have hnx := fun ty => Lib.run_next_any_at (P := Tryz.prog) wr w1.heap.size s i ty hit hi
        obtain ⟨z, hz⟩ : ∃ z, (Utf8.decode s i).1 = z := ⟨_, rfl⟩
        obtain ⟨k, hk⟩ : ∃ k, (Utf8.decode s i).2 = k := ⟨_, rfl⟩
        rw [hz, hk] at hnx hr
        obtain ⟨h1, h2, h3, h4⟩ := hr
        have HI := Lib.hid (Lib.iterAt_heap wr w1.heap.size s i (i + k) hit)
        have HB2 := Lib.hid (Lib.below_iterAt HB.out (Nat.le_refl _) s (i + k))
        have HM := Lib.hid h4
        clear hx hit HB hz hk h4
        obtain ⟨W, hW⟩ : ∃ W, wr.iterAt w1.heap.size s (i + k) = W := ⟨_, rfl⟩
        rw [hW] at hnx HI HB2
        clear hW
        go_wp2_with fail
        refine (idxRune_high (z : Int) (by omega) W).mono ?_
        rintro e w2 ⟨rfl, B2⟩
        have hlt := blk_lt HI.out
        have HI2 := Lib.hid ((B2.block _ hlt).trans HI.out)
        have HB3 := Lib.hid (HB2.out.trans (B2.mono HB2.out.size))
        clear B2 hlt
        go_wp2_with fail
        go_roundg (s.size - (i + k))
        case measure => omega
        case rel => exact ⟨i + k, by omega, HI2.out, HB3.out, noAny_more HN.out fun j b hj hjk hb => four_high (HM.out j b hj hjk hb)⟩
theorem zero256 : (Tryz.prog.info? 113).map (fun i => (i.zero, i.size)) = some (some (.agg (Array.replicate 256 (.bool false))), 256) := by kernel_rfl
theorem idxAny (s : ByteArray) (hs : s.size ≤ 16777216) (w : World) :
    Calls Tryz.prog 125 #[.string s, .string four] w fun e w' => e = .returned (.int .i64 (Lib.indexAny s.data.toList four.data.toList)) ∧ Below w.heap.size w w' := by
  by_cases h8 : s.size ≤ 8
  · exact idxAny_short s h8 w
  · refine (Tryz.strings_IndexAny_long (zero_of_info zero256).1 s four w (by rw [four_size]; omega) (by omega) (by omega) (by rw [four_size]; omega) four_ascii).mono fun e w' ⟨he, hw⟩ => ⟨he, ?_⟩
    rw [hw]
    exact ((Below.refl _ _).alloc (Nat.le_refl _) _).alloc (by simp) _
set_option maxRecDepth 100000 in
/-- WHETHER A TEXT WANTS QUOTES. -/
theorem containsFour (s : ByteArray) (hs : s.size ≤ 16777216) (c : Bool) (hc : s.data.toList.any spB = c) (w : World) :
    Calls Tryz.prog 105 #[.string s, .string ⟨#[44, 34, 10, 13]⟩] w fun e w' => e = .returned (.bool c) ∧ Below w.heap.size w w' := by
  have hd : decide ((0 : Int) ≤ Lib.indexAny s.data.toList four.data.toList) = c := by
    rw [← hc]
    exact any_sp s.data.toList
  have HX := Lib.hid (idxAny s hs w)
  obtain ⟨z, hz⟩ : ∃ z, Lib.indexAny s.data.toList four.data.toList = z := ⟨_, rfl⟩
  rw [hz] at HX hd
  show Calls Tryz.prog 105 #[.string s, .string four] w _
  generalize four = F at HX
  clear hz hc
  subst hd
  go_enter Tryz.func105, Tryz.ntmps105
  go_wp2_with fail
  refine HX.out.mono ?_
  rintro e w1 ⟨rfl, hB⟩
  go_wp2_with fail
  go_ret
  exact ⟨rfl, hB⟩
end Go.Proofs.YticeagjonfifbaaGreatDoor
