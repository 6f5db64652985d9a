/-
  What impl's parser of integers does: it hands the integer back, or it panics.
  The laws' own helpers on lists of lists of texts: equal, their size, their copy, their marks.
  What an argument of rows of texts gives the walks.
  The state of the reading of a text's rows.
  What impl.IntText answers, at every string: it recovers what the parser panics with.
  The laws' own helpers on lists of lists of texts: their size, their copy, their marks.
  What impl.Number and spec.Number answer, at every string.
  The laws' own helpers on lists of lists of texts: their marks.
  The walks of the laws on Number and IntText.
  What reading a number ends in, in one word.
-/
import Derived.Test.YticeagjonfifbaaGreatDoorIntW
import Derived.Test.YticeagjonfifbaaGreatDoorShAtoi
import Derived.Defers
import Derived.Test.YticeagjonfifbaaGreatDoorPk11
import Derived.Recover
import Derived.WalkLawsBesides
import Derived.Lib.AtoiAllCases
import Derived.Test.YticeagjonfifbaaGreatDoorPk12
import Derived.Deep.Onto
import Derived.Test.YticeagjonfifbaaGreatDoorPk2
import Derived.OpenShut
import Derived.SliceStrings
import Derived.Deep.Slices
import Derived.Carry
import Derived.SizedLaws
import Derived.Test.YticeagjonfifbaaGreatDoorCsvF
import Derived.Test.YticeagjonfifbaaGreatDoorPk1
namespace Go.Proofs.YticeagjonfifbaaGreatDoor
open Go.RowKit

theorem bytesWorld_or {w w' : World} {t : TypeId} (h : w' = w ∨ ∃ n, w' = Lib.bytesWorld w t n) : Below w.heap.size w w' := by
  rcases h with rfl | ⟨n, rfl⟩
  · exact Below.refl _ _
  · exact Lib.bytesWorld_below _ _ _

set_option maxRecDepth 100000 in
set_option maxHeartbeats 1000000 in
theorem mustInt_yes (s : ByteArray) (n : Int) (hn : IsNum s.data.toList n) (w : World) (htab : Lib.TabIs Tryz.prog w "internal/strconv.uint64pow10" .u64 Lib.pow10Tab) (hg : 1 < w.heap.size) :
    Calls Tryz.prog 150 #[.string s] w fun e w' => e = .returned (.int .i64 n) ∧ Below w.heap.size w w' := by
  have hl := (isNum_parts hn).2.2.2.2.2
  have hb0 := hn.1
  have hb1 := hn.2.1
  have hsz : s.size ≤ 20 := by simpa using hl
  have hat := atoi_isNum hn
  have hne := strEq hn.2.2
  have HAT := Lib.hid hat
  clear hat hl hn
  go_enter Tryz.func150, Tryz.ntmps150
  go_wp2_with fail
  refine (Tryz.strconv_Atoi_ok s (by omega) n HAT.out _).mono ?_
  rintro e w1 ⟨rfl, hw1⟩
  have hB := bytesWorld_or hw1
  clear hw1
  go_wp2_with fail
  refine (implDigits n hb0 hb1 _ (tabIs_below htab hB gPow hg)).mono ?_
  rintro e w2 ⟨rfl, hB2⟩
  go_wp2_with fail
  go_ret
  exact ⟨rfl, hB.trans (hB2.mono hB.size)⟩

/-- strconv.Atoi at a string that it refuses. -/
theorem atoi_err (s : ByteArray) (hlim : s.size ≤ 281474976710656) (h : ∀ v, Lib.atoiAll s.data.toList ≠ .ok v) (tp tq : TypeId) (p q : Value) (w : World)
    (hv1 : w.var? Tryz.prog "strconv.ErrSyntax" = some #[.iface tp p]) (hv2 : w.var? Tryz.prog "strconv.ErrRange" = some #[.iface tq q]) :
    Calls Tryz.prog 166 #[.string s] w fun e w' => ∃ (n : Int) (N : Nat), e = .returned (.tuple #[.int .i64 n, .iface 197 (.pointer (some ⟨N, 0, none⟩))]) ∧ Below w.heap.size w w' := by
  cases hx : Lib.atoiAll s.data.toList with
  | ok v => exact absurd hx (h v)
  | range => exact (Tryz.strconv_Atoi_range_var s hlim hx tq q w hv2).mono fun e w' ⟨N, he, _, _, hb⟩ => ⟨_, N, he, hb⟩
  | _ => exact (Any.strconv_Atoi_syntax_var Tryz.laysC172 s hlim hx tp p w hv1).mono fun e w' ⟨N, he, _, _, hb⟩ => ⟨_, N, he, hb⟩

def notDigits : PanicEntry := { v := .iface 9 (.string ⟨#[110, 111, 116, 32, 116, 104, 101, 32, 100, 105, 103, 105, 116, 115, 32, 111, 102, 32, 97, 110, 32, 105, 110, 116, 101, 103, 101, 114]⟩), recovered := false }

set_option maxRecDepth 100000 in
set_option maxHeartbeats 1000000 in
theorem mustInt_no_err (s : ByteArray) (hsz : s.size ≤ 1048576) (h : ∀ v, Lib.atoiAll s.data.toList ≠ .ok v) (tp tq : TypeId) (p q : Value) (w : World)
    (hv1 : w.var? Tryz.prog "strconv.ErrSyntax" = some #[.iface tp p]) (hv2 : w.var? Tryz.prog "strconv.ErrRange" = some #[.iface tq q]) :
    Calls Tryz.prog 150 #[.string s] w fun e w' => e = .panicked [notDigits] ∧ Below w.heap.size w w' := by
  have H := Lib.hid h
  have V1 := Lib.hid hv1
  have V2 := Lib.hid hv2
  clear h hv1 hv2
  go_enter Tryz.func150, Tryz.ntmps150
  go_wp2_with fail
  refine (atoi_err s (by omega) H.out tp tq p q _ V1.out V2.out).mono ?_
  rintro e w1 ⟨n, N, rfl, hB⟩
  go_wp2_with fail
  exact ⟨rfl, rfl, hB⟩

set_option maxRecDepth 100000 in
set_option maxHeartbeats 1000000 in
theorem mustInt_no_text (s : ByteArray) (hsz : s.size ≤ 1048576) (n : Int) (h : Lib.atoiAll s.data.toList = .ok n) (hne : Lib.itoa n ≠ s.data.toList) (hb0 : -9223372036854775808 ≤ n) (hb1 : n ≤ 9223372036854775807) (w : World)
    (htab : Lib.TabIs Tryz.prog w "internal/strconv.uint64pow10" .u64 Lib.pow10Tab) (hg : 1 < w.heap.size) :
    Calls Tryz.prog 150 #[.string s] w fun e w' => e = .panicked [notDigits] ∧ Below w.heap.size w w' := by
  have H := Lib.hid h
  have hn := strNe hne
  clear h hne
  go_enter Tryz.func150, Tryz.ntmps150
  go_wp2_with fail
  refine (Tryz.strconv_Atoi_ok s (by omega) n H.out _).mono ?_
  rintro e w1 ⟨rfl, hw1⟩
  have hB := bytesWorld_or hw1
  clear hw1
  go_wp2_with fail
  refine (implDigits n hb0 hb1 _ (tabIs_below htab hB gPow hg)).mono ?_
  rintro e w2 ⟨rfl, hB2⟩
  go_wp2_with fail
  exact ⟨rfl, rfl, hB.trans (hB2.mono hB.size)⟩

theorem mustInt_no (s : ByteArray) (hsz : s.size ≤ 1048576) (h : ∀ n, ¬ IsNum s.data.toList n) (tp tq : TypeId) (p q : Value) (w : World)
    (htab : Lib.TabIs Tryz.prog w "internal/strconv.uint64pow10" .u64 Lib.pow10Tab) (hg : 1 < w.heap.size)
    (hv1 : w.var? Tryz.prog "strconv.ErrSyntax" = some #[.iface tp p]) (hv2 : w.var? Tryz.prog "strconv.ErrRange" = some #[.iface tq q]) :
    Calls Tryz.prog 150 #[.string s] w fun e w' => e = .panicked [notDigits] ∧ Below w.heap.size w w' := by
  by_cases hx : ∀ v, Lib.atoiAll s.data.toList ≠ .ok v
  · exact mustInt_no_err s hsz hx tp tq p q w hv1 hv2
  · obtain ⟨n, hn⟩ : ∃ n, Lib.atoiAll s.data.toList = .ok n := by
      cases hy : Lib.atoiAll s.data.toList with
      | ok v => exact ⟨v, rfl⟩
      | _ => exact absurd (fun v hv => by rw [hy] at hv; cases hv) hx
    have hb := Lib.atoiAll_bounds hn
    exact mustInt_no_text s hsz n hn (fun he => h n ⟨hb.1, hb.2, he⟩) hb.1 hb.2 w htab hg
end Go.Proofs.YticeagjonfifbaaGreatDoor
namespace Go.Proofs.YticeagjonfifbaaGreatDoor
open Go.RowKit

/-- v reads as the rows L in w. -/
def SSRow (w : World) (v : Value) (L : List (List (List UInt8))) : Prop :=
  (L = [] ∧ ∃ a c, v = .slice a 0 c) ∨ ∃ b off c, v = .slice (some ⟨b, off, none⟩) L.length c ∧ L.length ≤ 9223372036854775807 ∧ L.length ≤ c ∧ (∀ (j : Nat) row, L[j]? = some row → ∃ u, w.cell? ⟨b, off + j, none⟩ = some u ∧ StrRow w u row)

theorem SSRow.below {w w' : World} {v : Value} {L : List (List (List UInt8))} (h : SSRow w v L) (hB : Below w.heap.size w w') : SSRow w' v L := by
  rcases h with ⟨rfl, a, c, rfl⟩ | ⟨b, off, c, rfl, hl, hcap, hc⟩
  · exact Or.inl ⟨rfl, a, c, rfl⟩
  · refine Or.inr ⟨b, off, c, rfl, hl, hcap, fun j p hp => ?_⟩
    obtain ⟨u, hu, hr⟩ := hc j p hp
    exact ⟨u, (hB.cell (p := ⟨b, off + j, none⟩) (World.block_lt_of_cell? w _ hu)).trans hu, hr.below hB⟩

theorem infoSlS : (Tryz.prog.info? 24).map (fun i => (i.zero, i.size, i.bytes)) = some (some (.slice none 0 0), 1, 24) := by kernel_rfl

/-- Rows of the call's own, each apart from the others. -/
def RowsOwn (w : World) (base : Nat) (T : TypeId) (vs : List Value) (C : List (List Value)) : Prop :=
  vs.length = C.length ∧ (∀ (j : Nat) u c, vs[j]? = some u → C[j]? = some c → w.ownsRow base T 1 u c.length c) ∧ (∀ (i j : Nat) u v b, i ≠ j → vs[i]? = some u → vs[j]? = some v → u.ownBlock = some b → v.ownBlock ≠ some b)

theorem RowsOwn.nil (w : World) (base : Nat) (T : TypeId) : RowsOwn w base T [] [] := ⟨rfl, by simp, by simp⟩

theorem RowsOwn.kept {w w' : World} {base : Nat} {T : TypeId} {vs : List Value} {C : List (List Value)} {r : Option Nat} (h : RowsOwn w base T vs C) (hg : w.grownBy w' r) (hne : ∀ (j : Nat) u g, vs[j]? = some u → u.ownBlock = some g → r ≠ some g) : RowsOwn w' base T vs C := by
  refine ⟨h.1, fun j u c hu hc => (h.2.1 j u c hu hc).kept hg ?_, h.2.2⟩
  cases hb : u.ownBlock with
  | none => exact Or.inl rfl
  | some g => exact Or.inr fun e => hne j u g hu hb e.symm
theorem RowsOwn.below {w w' : World} {base : Nat} {T : TypeId} {vs : List Value} {C : List (List Value)} (h : RowsOwn w base T vs C) (hB : Below w.heap.size w w') : RowsOwn w' base T vs C :=
  h.kept (grown_of_below hB none) (fun _ _ _ _ _ => by simp)
theorem RowsOwn.outer {w w' : World} {base base' n : Nat} {T T' : TypeId} {v : Value} {xs : List Value} {vs : List Value} {C : List (List Value)} (h : RowsOwn w base T vs C) (ho : w.ownsRow base' T' 1 v n xs) (hT : T ≠ T') (hg : w.grownBy w' v.ownBlock) : RowsOwn w' base T vs C := by
  refine h.kept hg fun j u g hu hb e => ?_
  have hj : j < C.length := by rw [← h.1]; exact (List.getElem?_eq_some_iff.1 hu).1
  exact owns_apart (h.2.1 j u C[j] hu (List.getElem?_eq_getElem hj)) ho hT g hb e
theorem RowsOwn.lt {w : World} {base : Nat} {T : TypeId} {vs : List Value} {C : List (List Value)} (h : RowsOwn w base T vs C) {j g : Nat} {u : Value} (hu : vs[j]? = some u) (hb : u.ownBlock = some g) : base ≤ g ∧ g < w.heap.size := by
  have hj : j < C.length := by rw [← h.1]; exact (List.getElem?_eq_some_iff.1 hu).1
  exact (h.2.1 j u C[j] hu (List.getElem?_eq_getElem hj)).lt g hb
theorem RowsOwn.snoc {w : World} {base lo : Nat} {T : TypeId} {vs : List Value} {C : List (List Value)} {u : Value} {c : List Value} (h : RowsOwn w base T vs C) (hu : w.ownsRow base T 1 u c.length c) (h1 : ∀ (j : Nat) x g, vs[j]? = some x → x.ownBlock = some g → g < lo) (h2 : ∀ g, u.ownBlock = some g → lo ≤ g) : RowsOwn w base T (vs ++ [u]) (C ++ [c]) := by
  have hl := h.1
  have key : ∀ (j : Nat) x, (vs ++ [u])[j]? = some x → vs[j]? = some x ∨ (j = vs.length ∧ x = u) := by
    intro j x hx
    by_cases hj : j < vs.length
    · rw [List.getElem?_append_left hj] at hx
      exact Or.inl hx
    · rw [List.getElem?_append_right (by omega)] at hx
      have hj0 : j - vs.length = 0 := by
        have := (List.getElem?_eq_some_iff.1 hx).1
        simp at this
        omega
      rw [hj0] at hx
      exact Or.inr ⟨by omega, by simpa using hx.symm⟩
  refine ⟨by simp [hl], fun j x d hx hd => ?_, fun i j x y b hij hx hy hb => ?_⟩
  · rcases key j x hx with hx | ⟨rfl, rfl⟩
    · have hj := (List.getElem?_eq_some_iff.1 hx).1
      rw [List.getElem?_append_left (by omega)] at hd
      exact h.2.1 j x d hx hd
    · rw [hl, List.getElem?_append_right (Nat.le_refl _)] at hd
      obtain rfl : c = d := by simpa using hd
      exact hu
  · intro hb2
    rcases key i x hx with hx2 | ⟨hi, hxu⟩
    · rcases key j y hy with hy2 | ⟨hj, hyu⟩
      · exact h.2.2 i j x y b hij hx2 hy2 hb hb2
      · have := h1 i x b hx2 hb
        rw [hyu] at hb2
        have := h2 b hb2
        omega
    · rcases key j y hy with hy2 | ⟨hj, hyu⟩
      · have := h1 j y b hy2 hb2
        rw [hxu] at hb
        have := h2 b hb
        omega
      · omega
theorem RowsOwn.put {w w' : World} {base : Nat} {T : TypeId} {vs : List Value} {C : List (List Value)} {j : Nat} {u : Value} {c : List Value} (h : RowsOwn w base T vs C) (hj : vs[j]? = some u) (hg : w.grownBy w' u.ownBlock) (hu : w'.ownsRow base T 1 u c.length c) : RowsOwn w' base T vs (C.set j c) := by
  have hl := h.1
  have hjl := (List.getElem?_eq_some_iff.1 hj).1
  refine ⟨by simp [hl], fun i x d hx hd => ?_, h.2.2⟩
  by_cases e : j = i
  · subst e
    rw [hj] at hx
    obtain rfl := Option.some.inj hx
    rw [List.getElem?_set_self (by omega)] at hd
    obtain rfl := Option.some.inj hd
    exact hu
  · rw [List.getElem?_set_ne e] at hd
    refine (h.2.1 i x d hx hd).kept hg ?_
    cases hb : x.ownBlock with
    | none => exact Or.inl rfl
    | some g => exact Or.inr fun e2 => h.2.2 i j x u g (fun e3 => e e3.symm) hx hj hb e2.symm

/-- v is a list of lists of the call's own that reads as L. -/
def SSOwn (w : World) (base : Nat) (v : Value) (L : List (List (List UInt8))) : Prop :=
  ∃ vs : List Value, w.ownsRow base 24 1 v L.length vs ∧ RowsOwn w base 9 vs (L.map strCells)

theorem SSOwn.below {w w' : World} {base : Nat} {v : Value} {L : List (List (List UInt8))} (h : SSOwn w base v L) (hB : Below w.heap.size w w') : SSOwn w' base v L := by
  obtain ⟨vs, ho, hr⟩ := h
  exact ⟨vs, ho.kept (grown_of_below hB none) (by cases hv : v.ownBlock <;> simp), hr.below hB⟩
theorem ssRow_of {w : World} {base : Nat} {v : Value} {vs : List Value} {L : List (List (List UInt8))} (ho : w.ownsRow base 24 1 v L.length vs) (hr : ∀ (j : Nat) u row, vs[j]? = some u → L[j]? = some row → StrRow w u row) (hl : L.length ≤ 9223372036854775807) : SSRow w v L := by
  rcases ho.2 with ⟨rfl, h0⟩ | ⟨g, cap, cur, rfl, _, _, hnc, _, _, _⟩
  · exact Or.inl ⟨List.eq_nil_of_length_eq_zero h0, _, _, rfl⟩
  · refine Or.inr ⟨g, 0, cap, rfl, hl, hnc, fun j p hj => ?_⟩
    have hjl := (List.getElem?_eq_some_iff.1 hj).1
    have hlen := ho.1
    have hu : vs[j]? = some vs[j] := List.getElem?_eq_getElem (by omega)
    refine ⟨vs[j], ?_, hr j _ p hu hj⟩
    rw [Nat.zero_add, ho.cellAt j (by omega)]
    exact hu
theorem SSOwn.row {w : World} {base : Nat} {v : Value} {L : List (List (List UInt8))} (h : SSOwn w base v L) (hl : L.length ≤ 9223372036854775807) (hr : ∀ row ∈ L, row.length ≤ 9223372036854775807) : SSRow w v L := by
  obtain ⟨vs, ho, hR⟩ := h
  refine ssRow_of ho (fun j u row hu hj => ?_) hl
  have hc : (L.map strCells)[j]? = some (strCells row) := by rw [List.getElem?_map, hj]; rfl
  have := hR.2.1 j u _ hu hc
  rw [strCells_len] at this
  exact strRow_of_owns this (hr row (List.mem_of_getElem? hj))

end Go.Proofs.YticeagjonfifbaaGreatDoor
namespace Go.Proofs.YticeagjonfifbaaGreatDoor
open Go.ChangeShapes Go.WideShapes Go.ChangeAt Go.RowKit

theorem cellsSlS : Tryz.prog.cellsOf 24 = 1 := by kernel_rfl

theorem addr_add {b off j : Nat} : (⟨b, off, none⟩ : Addr).add j = ⟨b, off + j, none⟩ := by unfold Addr.add; split <;> simp_all

theorem strs_trod {H : Type} {enc : TypeId × Value → H} {W : World} {sp : Nat → Bool} {base fuel : Nat} {held : Bool} {v : Value} {x : DataW H × List MemPlace}
    (h : DataW.trod enc Tryz.prog W base sp held fuel 24 [v] = some x) (hsp : ∀ b, sp b = true) :
    ∃ ps : List (List UInt8), StrRow W v ps ∧ ∀ p ∈ ps, p.length ≤ 9223372036854775807 := by
  rcases open_strings Tryz.underlying24 Tryz.underlying9 cellsStr h with ⟨hcs, hx⟩ | ⟨a', len', cap', ss, hcs, _, hl, hm, hz, hx, hcell, hwz⟩
  · obtain rfl : v = .slice none 0 0 := by simpa using hcs
    exact ⟨[], Or.inl ⟨rfl, _, _, rfl⟩, by simp⟩
  · obtain rfl : v = .slice (some a') len' cap' := by simpa using hcs
    simp only [hsp, if_true] at hz
    unfold maxLen at hm
    by_cases h0 : len' = 0
    · subst h0
      exact ⟨[], Or.inl ⟨rfl, _, _, rfl⟩, by simp⟩
    · obtain ⟨b, off, spot⟩ := a'
      have hspot : spot = none := by simpa [Addr.add] using World.cell?_spot (hcell 0 (by omega))
      subst hspot
      have hlen : ((ss.take len').map fun s => s.data.toList).length = len' := by simp; omega
      refine ⟨(ss.take len').map fun s => s.data.toList, Or.inr ⟨b, off, cap', by rw [hlen], by omega, by omega, fun j p hj => ?_⟩, ?_⟩
      · have hjn : j < len' := by
          have := (List.getElem?_eq_some_iff.1 hj).1
          omega
        have hc := hcell j (by omega)
        rw [addr_add] at hc
        rw [hc]
        rw [List.getElem?_map, List.getElem?_take, if_pos hjn, List.getElem?_eq_getElem (by omega)] at hj
        obtain rfl := Option.some.inj hj
        rw [List.getD_eq_getElem?_getD, List.getElem?_eq_getElem (by omega)]
        simp
      · intro p hp
        obtain ⟨s, hs, rfl⟩ := List.mem_map.1 hp
        have h1 := hwz s (List.mem_of_mem_take hs)
        unfold maxLen at h1
        have h2 := Lib.size_eq s
        omega

theorem rows_read {H : Type} {enc : TypeId × Value → H} {W : World} {sp : Nat → Bool} {a : Option Addr} {n c : Nat} {d : DataW H} {p : List MemPlace}
    (h : DataW.Trod enc Tryz.prog W 0 sp true 49 (.slice a n c) d p) (hsp : ∀ b, sp b = true := by intro _; rfl) :
    ∃ L : List (List (List UInt8)), SSRow W (.slice a n c) L ∧ ∀ r ∈ L, ∀ p ∈ r, p.length ≤ 9223372036854775807 := by
  obtain ⟨fuel, hf⟩ := h
  rcases Go.Deep.open_slice1 Tryz.underlying49 cellsSlS hf with ⟨hcs, hx⟩ | ⟨a', len', cap', m, n', V, D, Pl, hcs, _, hl, hm, hmm, hx, hcell⟩
  · simp [Value.cells] at hcs
    obtain ⟨rfl, rfl, rfl⟩ := hcs
    exact ⟨[], Or.inl ⟨rfl, _, _, rfl⟩, by simp⟩
  · simp [Value.cells] at hcs
    obtain ⟨rfl, rfl, rfl⟩ := hcs
    simp only [hsp, if_true] at hmm
    have hmc : m = c := hmm
    unfold maxLen at hm
    by_cases h0 : n = 0
    · subst h0
      exact ⟨[], Or.inl ⟨rfl, _, _, rfl⟩, by simp⟩
    · obtain ⟨b, off, spot⟩ := a'
      have hspot : spot = none := by simpa [Addr.add] using World.cell?_spot (hcell 0 (by omega)).1
      subst hspot
      obtain ⟨R, hR⟩ := Go.Deep.choose_lt (n := n) (p := fun i (ps : List (List UInt8)) => StrRow W (V i) ps ∧ ∀ p ∈ ps, p.length ≤ 9223372036854775807) (fun i hi => strs_trod (hcell i (by omega)).2 hsp)
      have hlen : ((List.range n).map R).length = n := by simp
      refine ⟨(List.range n).map R, Or.inr ⟨b, off, c, by rw [hlen], by omega, by omega, fun j row hj => ?_⟩, fun r hr => ?_⟩
      · have hjn : j < n := by
          have := (List.getElem?_eq_some_iff.1 hj).1
          omega
        have hc := (hcell j (by omega)).1
        rw [addr_add] at hc
        rw [List.getElem?_map, List.getElem?_range hjn] at hj
        obtain rfl := Option.some.inj hj
        exact ⟨V j, hc, (hR j hjn).1⟩
      · obtain ⟨i, hi, rfl⟩ := List.mem_map.1 hr
        exact (hR i (List.mem_range.1 hi)).2
end Go.Proofs.YticeagjonfifbaaGreatDoor
namespace Go.Proofs.YticeagjonfifbaaGreatDoor
open Go.RowKit

theorem results_tmp_cell {fn : Func} {t p : Tmp} {ty : TypeId} (h : fn.results = #[.tmp t, .cell p ty]) (tmps : Array Value) (P : Program) (w : World) :
    (results fn tmps).run P w =
      ((asAddr (tmps.getD p undef)).run P w).andThen fun a w₁ => ((loadVar ty a).run P w₁).andThen fun v w₂ => .ok (.tuple #[tmps.getD t undef, v]) w₂ := by
  simp only [results, h]
  simp [Sem.run_bind, Result.andThen]

/-- A row being read: it is whole, or it goes on. -/
def RowI (l : List UInt8) : Bool → Nat → List (List UInt8) → ((List (List UInt8) × List UInt8) ⊕ Nat) → Prop
  | true, p, row, R => R = .inl (row, l.drop p)
  | false, p, row, R => ∃ n, (l.drop p).length < n ∧ rdRow n (l.drop p) row = R
theorem rowI_start (l : List UInt8) (p : Nat) : RowI l false p [] (rdRow ((l.drop p).length + 1) (l.drop p) []) := ⟨_, Nat.lt_succ_self _, rfl⟩
theorem rowI_bad {l : List UInt8} {p : Nat} {row : List (List UInt8)} {R : (List (List UInt8) × List UInt8) ⊕ Nat} (h : RowI l false p row R) (hf : rdF (l.drop p) = none) : R = .inr row.length := by
  obtain ⟨n, hn, h⟩ := h
  obtain ⟨m, rfl⟩ : ∃ m, n = m + 1 := ⟨n - 1, by omega⟩
  rw [rdRow, hf] at h
  exact h.symm
theorem rowI_eof {s : ByteArray} {p q : Nat} {row : List (List UInt8)} {f : List UInt8} {R : (List (List UInt8) × List UInt8) ⊕ Nat} (h : RowI s.data.toList false p row R) (hf : rdF (s.data.toList.drop p) = some (f, s.data.toList.drop q)) (hq : s.size ≤ q) : RowI s.data.toList true q (row ++ [f]) R := by
  obtain ⟨n, hn, h⟩ := h
  obtain ⟨m, rfl⟩ : ∃ m, n = m + 1 := ⟨n - 1, by omega⟩
  rw [rdRow, hf, drop_none hq] at h
  rw [RowI, drop_none hq]
  exact h.symm
theorem rowI_comma {s : ByteArray} {p q : Nat} {row : List (List UInt8)} {f : List UInt8} {R : (List (List UInt8) × List UInt8) ⊕ Nat} (h : RowI s.data.toList false p row R) (hf : rdF (s.data.toList.drop p) = some (f, s.data.toList.drop q)) (hq : q < s.size) (hc : s[q] = 44) : RowI s.data.toList false (q + 1) (row ++ [f]) R := by
  obtain ⟨n, hn, h⟩ := h
  obtain ⟨m, rfl⟩ : ∃ m, n = m + 1 := ⟨n - 1, by omega⟩
  have hl := rdF_len hf
  have hd := congrArg List.length (drop_at hq)
  rw [rdRow, hf, drop_at hq, hc] at h
  simp only [if_true] at h
  simp only [List.length_cons] at hd
  exact ⟨m, by omega, h⟩
theorem rowI_nl {s : ByteArray} {p q : Nat} {row : List (List UInt8)} {f : List UInt8} {R : (List (List UInt8) × List UInt8) ⊕ Nat} (h : RowI s.data.toList false p row R) (hf : rdF (s.data.toList.drop p) = some (f, s.data.toList.drop q)) (hq : q < s.size) (hc : s[q] = 10) : RowI s.data.toList true (q + 1) (row ++ [f]) R := by
  obtain ⟨n, hn, h⟩ := h
  obtain ⟨m, rfl⟩ : ∃ m, n = m + 1 := ⟨n - 1, by omega⟩
  rw [rdRow, hf, drop_at hq, hc] at h
  exact h.symm
theorem rowI_crlf {s : ByteArray} {p q : Nat} {row : List (List UInt8)} {f : List UInt8} {R : (List (List UInt8) × List UInt8) ⊕ Nat} (h : RowI s.data.toList false p row R) (hf : rdF (s.data.toList.drop p) = some (f, s.data.toList.drop q)) (hq : q + 1 < s.size) (hc : s[q] = 13) (hd : s[q + 1] = 10) : RowI s.data.toList true (q + 2) (row ++ [f]) R := by
  obtain ⟨n, hn, h⟩ := h
  obtain ⟨m, rfl⟩ : ∃ m, n = m + 1 := ⟨n - 1, by omega⟩
  rw [rdRow, hf, drop_at (by omega : q < s.size), drop_at hq, hc, hd] at h
  exact h.symm
theorem rowI_not {s : ByteArray} {p q : Nat} {row : List (List UInt8)} {f : List UInt8} {R : (List (List UInt8) × List UInt8) ⊕ Nat} (h : RowI s.data.toList false p row R) (hf : rdF (s.data.toList.drop p) = some (f, s.data.toList.drop q)) (hq : q < s.size) (h44 : ¬ s[q] = 44) (h10 : ¬ s[q] = 10) (h13 : ∀ (_ : s[q] = 13) (hq1 : q + 1 < s.size), ¬ s[q + 1] = 10) : R = .inr row.length := by
  obtain ⟨n, hn, h⟩ := h
  obtain ⟨m, rfl⟩ : ∃ m, n = m + 1 := ⟨n - 1, by omega⟩
  rw [rdRow, hf, drop_at hq] at h
  simp only at h
  rw [if_neg h44, if_neg h10, if_neg] at h
  · exact h.symm
  · rintro ⟨h1, h2⟩
    by_cases hq1 : q + 1 < s.size
    · rw [drop_at hq1] at h2
      exact h13 h1 hq1 (by simpa using h2)
    · rw [drop_none (by omega)] at h2
      cases h2

/-- The rows that are read. -/
def AllI (l : List UInt8) (p : Nat) (rows : List (List (List UInt8))) (R : List (List (List UInt8)) ⊕ (Nat × Nat)) : Prop := ∃ n, (l.drop p).length < n ∧ rdAll n (l.drop p) rows = R
theorem allI_start (l : List UInt8) : AllI l 0 [] (rdCsv l) := ⟨l.length + 1, by simp, rfl⟩
theorem allI_end {s : ByteArray} {p : Nat} {rows : List (List (List UInt8))} {R : List (List (List UInt8)) ⊕ (Nat × Nat)} (h : AllI s.data.toList p rows R) (hp : s.size ≤ p) : R = .inl rows := by
  obtain ⟨n, hn, h⟩ := h
  obtain ⟨m, rfl⟩ : ∃ m, n = m + 1 := ⟨n - 1, by omega⟩
  rw [drop_none hp, rdAll] at h
  exact h.symm
theorem allI_bad {s : ByteArray} {p k : Nat} {rows : List (List (List UInt8))} {R : List (List (List UInt8)) ⊕ (Nat × Nat)} (h : AllI s.data.toList p rows R) (hp : p < s.size) (hR : rdRow ((s.data.toList.drop p).length + 1) (s.data.toList.drop p) [] = .inr k) : R = .inr (rows.length, k) := by
  obtain ⟨n, hn, h⟩ := h
  obtain ⟨m, rfl⟩ : ∃ m, n = m + 1 := ⟨n - 1, by omega⟩
  rw [drop_at hp] at h hR
  rw [rdAll, show (s.data.toList.drop (p + 1)).length + 2 = (s[p] :: s.data.toList.drop (p + 1)).length + 1 from rfl, hR] at h
  exact h.symm
theorem allI_row {s : ByteArray} {p q : Nat} {rows : List (List (List UInt8))} {row : List (List UInt8)} {R : List (List (List UInt8)) ⊕ (Nat × Nat)} (h : AllI s.data.toList p rows R) (hp : p < s.size) (hR : rdRow ((s.data.toList.drop p).length + 1) (s.data.toList.drop p) [] = .inl (row, s.data.toList.drop q)) : AllI s.data.toList q (rows ++ [row]) R ∧ p < q := by
  obtain ⟨n, hn, h⟩ := h
  obtain ⟨m, rfl⟩ : ∃ m, n = m + 1 := ⟨n - 1, by omega⟩
  have hw := (rdRow_w _ _ _ _ _ hR).2.2 (by rw [drop_at hp]; simp)
  rw [drop_at hp] at h hR
  rw [rdAll, show (s.data.toList.drop (p + 1)).length + 2 = (s[p] :: s.data.toList.drop (p + 1)).length + 1 from rfl, hR] at h
  refine ⟨⟨m, by omega, h⟩, ?_⟩
  rw [List.length_drop, List.length_drop] at hw
  omega

/-- What reading answers: the rows, and the fault's three numbers. -/
def csvQ (l : List UInt8) : List (List (List UInt8)) × Nat × Nat × Nat :=
  if 4000 < l.length then ([], 1, 0, 0) else
  match rdCsv l with
  | .inl rows => (rows, 0, 0, 0)
  | .inr (a, b) => ([], 2, a, b)
theorem csvQ_long {l : List UInt8} (h : 4000 < l.length) : csvQ l = ([], 1, 0, 0) := by rw [csvQ, if_pos h]
theorem csvQ_ok {l : List UInt8} {rows : List (List (List UInt8))} (h : ¬ 4000 < l.length) (hr : rdCsv l = .inl rows) : csvQ l = (rows, 0, 0, 0) := by rw [csvQ, if_neg h, hr]
theorem csvQ_bad {l : List UInt8} {a b : Nat} (h : ¬ 4000 < l.length) (hr : rdCsv l = .inr (a, b)) : csvQ l = ([], 2, a, b) := by rw [csvQ, if_neg h, hr]
/-- A fault's value. -/
def faV (c a b : Nat) : Value := .agg #[.int .i64 c, .int .i64 a, .int .i64 b]
/-- What reading ends in. -/
def CsvPost (w : World) (l : List UInt8) (e : Ending) (w' : World) : Prop :=
  ∃ v, e = .returned (.tuple #[v, faV (csvQ l).2.1 (csvQ l).2.2.1 (csvQ l).2.2.2]) ∧ SSOwn w' w.heap.size v (csvQ l).1
theorem csvPost_of {w w' : World} {l : List UInt8} {v : Value} {rows : List (List (List UInt8))} {c a b : Nat} {z1 z2 z3 : Int} (h : csvQ l = (rows, c, a, b)) (h1 : z1 = c) (h2 : z2 = a) (h3 : z3 = b) (ho : SSOwn w' w.heap.size v rows) : CsvPost w l (.returned (.tuple #[v, .agg #[.int .i64 z1, .int .i64 z2, .int .i64 z3]])) w' := by
  subst h1
  subst h2
  subst h3
  refine ⟨v, by rw [h]; rfl, by rw [h]; exact ho⟩

/-- The world while the rows are read. -/
structure OutSt (w wr : World) (vo : Value) (rows : List (List (List UInt8))) : Prop where
  below : Below w.heap.size w wr
  cell : wr.heap[w.heap.size]? = some (.cells #[.int .i64 0, .int .i64 0, .int .i64 0] 33 (0, 0))
  out : SSOwn wr w.heap.size vo rows
structure CsvSt (w wr : World) (lo : Nat) (vo vr : Value) (rows : List (List (List UInt8))) (row : List (List UInt8)) : Prop where
  below : Below w.heap.size w wr
  cell : wr.heap[w.heap.size]? = some (.cells #[.int .i64 0, .int .i64 0, .int .i64 0] 33 (0, 0))
  out : ∃ vs, wr.ownsRow w.heap.size 24 1 vo rows.length vs ∧ RowsOwn wr w.heap.size 9 vs (rows.map strCells) ∧ ∀ (j : Nat) x g, vs[j]? = some x → x.ownBlock = some g → g < lo
  row : wr.ownsRow lo 9 1 vr row.length (strCells row)
  le : w.heap.size ≤ lo
  hi : lo ≤ wr.heap.size
theorem CsvSt.next {w wr w' : World} {lo : Nat} {vo vr : Value} {rows : List (List (List UInt8))} {row : List (List UInt8)} (h : CsvSt w wr lo vo vr rows row) (hB : Below wr.heap.size wr w') : CsvSt w w' lo vo vr rows row := by
  obtain ⟨vs, ho, hr, hlt⟩ := h.out
  exact ⟨h.below.trans (hB.mono h.below.size), (hB.block _ (blk_lt h.cell)).trans h.cell, ⟨vs, ho.kept (grown_of_below hB none) (by cases hv : vo.ownBlock <;> simp), hr.below hB, hlt⟩, h.row.kept (grown_of_below hB none) (by cases hv : vr.ownBlock <;> simp), h.le, Nat.le_trans h.hi hB.size⟩
theorem OutSt.start {w wr : World} {vo : Value} {rows : List (List (List UInt8))} (h : OutSt w wr vo rows) : CsvSt w (wr.alloc (.cells #[] 9)) wr.heap.size vo (.slice (some ⟨wr.heap.size, 0, none⟩) 0 0) rows [] := by
  obtain ⟨vs, ho, hr⟩ := h.out
  have hB : Below wr.heap.size wr (wr.alloc (.cells #[] 9)) := (Below.refl _ _).alloc (Nat.le_refl _) _
  exact ⟨h.below.trans (hB.mono h.below.size), (hB.block _ (blk_lt h.cell)).trans h.cell, ⟨vs, ho.kept (grown_of_below hB none) (by cases hv : vo.ownBlock <;> simp), hr.below hB, fun j x g hx hg => (hr.lt hx hg).2⟩, World.ownsRow_made wr #[] 0 (Nat.le_refl _) (by unfold maxLen; omega) (by simp), h.below.size, hB.size⟩
theorem cell_apart {w : World} {b base s n : Nat} {T T' : TypeId} {v : Value} {xs : List Value} {cs : Array Value} (hc : w.heap[b]? = some (.cells cs T' (0, 0))) (ho : w.ownsRow base T s v n xs) (hT : T ≠ T') : v.ownBlock ≠ some b := by
  intro e
  rcases ho.2 with ⟨rfl, _⟩ | ⟨g, cap, cur, rfl, _, hg, _⟩
  · cases e
  · simp only [Value.ownBlock, Option.some.injEq] at e
    subst e
    rw [hc] at hg
    injection hg with hg
    injection hg with _ hg
    exact hT hg.symm
theorem CsvSt.app {w wr w' : World} {lo : Nat} {vo vr vr' : Value} {rows : List (List (List UInt8))} {row : List (List UInt8)} {f : List UInt8} (h : CsvSt w wr lo vo vr rows row) (hg : wr.grownBy w' vr.ownBlock) (ho' : w'.ownsRow lo 9 1 vr' (row.length + 1) (strCells row ++ [.string ⟨f.toArray⟩])) : CsvSt w w' lo vo vr' rows (row ++ [f]) := by
  obtain ⟨vs, ho, hr, hlt⟩ := h.out
  have hT : 9 ≠ 24 := by decide
  have hT2 : 9 ≠ 33 := by decide
  refine ⟨h.below.grown hg h.below.size (fun k hk => Nat.le_trans h.le (h.row.lt k hk).1), ?_, ⟨vs, ho.kept hg ?_, hr.kept hg (fun j u g hu hb e => ?_), hlt⟩, ?_, h.le, Nat.le_trans h.hi hg.size⟩
  · rw [hg.block _ (blk_lt h.cell) (fun e => cell_apart h.cell h.row hT2 e.symm)]
    exact h.cell
  · cases hb : vo.ownBlock with
    | none => exact Or.inl rfl
    | some b => exact Or.inr (fun e => owns_apart h.row ho hT b e.symm hb)
  · have := hlt j u g hu hb
    have := (h.row.lt g e).1
    omega
  · have e : (row ++ [f]).length = row.length + 1 := by simp
    rw [e, show strCells (row ++ [f]) = strCells row ++ [.string ⟨f.toArray⟩] by simp [strCells]]
    exact ho'
theorem CsvSt.push {w wr w' : World} {lo : Nat} {vo vr vo' : Value} {rows : List (List (List UInt8))} {row : List (List UInt8)} {vs : List Value} (h : CsvSt w wr lo vo vr rows row) (ho : wr.ownsRow w.heap.size 24 1 vo rows.length vs) (hr : RowsOwn wr w.heap.size 9 vs (rows.map strCells)) (hlt : ∀ (j : Nat) x g, vs[j]? = some x → x.ownBlock = some g → g < lo)
    (hg : wr.grownBy w' vo.ownBlock) (ho' : w'.ownsRow w.heap.size 24 1 vo' (rows.length + 1) (vs ++ [vr])) : OutSt w w' vo' (rows ++ [row]) := by
  have hT : 9 ≠ 24 := by decide
  have hT2 : 24 ≠ 33 := by decide
  have hu : w'.ownsRow w.heap.size 9 1 vr (strCells row).length (strCells row) := by
    rw [strCells_len]
    refine World.ownsRow.mono (h.row.kept hg ?_) h.le
    cases hb : vr.ownBlock with
    | none => exact Or.inl rfl
    | some b => exact Or.inr (fun e => owns_apart h.row ho hT b hb e.symm)
  refine ⟨h.below.grown hg h.below.size (fun k hk => (ho.lt k hk).1), ?_, vs ++ [vr], ?_, ?_⟩
  · rw [hg.block _ (blk_lt h.cell) (fun e => cell_apart h.cell ho hT2 e.symm)]
    exact h.cell
  · rw [show (rows ++ [row]).length = rows.length + 1 by simp]
    exact ho'
  · rw [show (rows ++ [row]).map strCells = rows.map strCells ++ [strCells row] by simp]
    exact (hr.outer ho hT hg).snoc (lo := lo) hu hlt (fun g hg => (h.row.lt g hg).1)
theorem OutSt.set {w wr : World} {vo : Value} {rows : List (List (List UInt8))} (h : OutSt w wr vo rows) (x y z : Value) : SSOwn (((wr.setCell ⟨w.heap.size, 0, none⟩ x).setCell ⟨w.heap.size, 1, none⟩ y).setCell ⟨w.heap.size, 2, none⟩ z) w.heap.size vo rows ∧ Below w.heap.size w (((wr.setCell ⟨w.heap.size, 0, none⟩ x).setCell ⟨w.heap.size, 1, none⟩ y).setCell ⟨w.heap.size, 2, none⟩ z) := by
  obtain ⟨vs, ho, hr⟩ := h.out
  have hT1 : 24 ≠ 33 := by decide
  have hT2 : 9 ≠ 33 := by decide
  have hg := grownBy_trans (grownBy_trans (grownBy_set wr w.heap.size 0 x) (grownBy_set _ w.heap.size 1 y)) (grownBy_set _ w.heap.size 2 z)
  refine ⟨⟨vs, ho.kept hg (Or.inr (cell_apart h.cell ho hT1)), hr.kept hg (fun j u g hu hb e => ?_)⟩, ((h.below.setCell (Nat.le_refl _) _).setCell (Nat.le_refl _) _).setCell (Nat.le_refl _) _⟩
  have hj : j < (rows.map strCells).length := by rw [← hr.1]; exact (List.getElem?_eq_some_iff.1 hu).1
  obtain rfl := Option.some.inj e
  exact cell_apart h.cell (hr.2.1 j u _ hu (List.getElem?_eq_getElem hj)) hT2 hb
theorem owns_form {w : World} {base s n : Nat} {T : TypeId} {v : Value} {xs : List Value} (h : w.ownsRow base T s v n xs) : ∃ a c, v = .slice a n c := by
  rcases h.2 with ⟨rfl, rfl⟩ | ⟨g, cap, cur, rfl, _⟩
  · exact ⟨_, _, rfl⟩
  · exact ⟨_, _, rfl⟩
theorem outSt_form {w wr : World} {vo : Value} {rows : List (List (List UInt8))} (h : OutSt w wr vo rows) : ∃ a c, vo = .slice a rows.length c := by
  obtain ⟨vs, ho, _⟩ := h.out
  exact owns_form ho
theorem blk_old {w w2 : World} {b : Nat} {o : Obj} (hB : Below w.heap.size w w2) (hb : b < w.heap.size) (h : w.heap[b]? = some o) : w2.heap[b]? = some o := (hB.block b hb).trans h
theorem bad_out {w W : World} {lo : Nat} {vo vr : Value} {rows : List (List (List UInt8))} {row : List (List UInt8)} (h : CsvSt w W lo vo vr rows row) (x y z : Value) :
    SSOwn ((((W.setCell ⟨w.heap.size, 0, none⟩ x).setCell ⟨w.heap.size, 1, none⟩ y).setCell ⟨w.heap.size, 2, none⟩ z).alloc (.cells #[] 24)).drew w.heap.size (.slice (some ⟨W.heap.size, 0, none⟩) 0 0) [] ∧
    Below w.heap.size w ((((W.setCell ⟨w.heap.size, 0, none⟩ x).setCell ⟨w.heap.size, 1, none⟩ y).setCell ⟨w.heap.size, 2, none⟩ z).alloc (.cells #[] 24)).drew := by
  have hs := h.below.size
  have h1 := World.ownsRow_made (base := w.heap.size) (e := 24) (size := 1) (((W.setCell ⟨w.heap.size, 0, none⟩ x).setCell ⟨w.heap.size, 1, none⟩ y).setCell ⟨w.heap.size, 2, none⟩ z) #[] 0 (by simpa using hs) (by unfold maxLen; omega) (by simp)
  have e : (((W.setCell ⟨w.heap.size, 0, none⟩ x).setCell ⟨w.heap.size, 1, none⟩ y).setCell ⟨w.heap.size, 2, none⟩ z).heap.size = W.heap.size := by simp
  rw [e] at h1
  exact ⟨⟨[], h1.drew, RowsOwn.nil _ _ _⟩, ((((h.below.setCell (Nat.le_refl _) _).setCell (Nat.le_refl _) _).setCell (Nat.le_refl _) _).alloc (by simpa using hs) _).drew⟩
theorem two_out (w : World) (cs : Array Value) : SSOwn ((w.alloc (.cells cs 33)).alloc (.cells #[] 24)) w.heap.size (.slice (some ⟨w.heap.size + 1, 0, none⟩) 0 0) [] ∧ Below w.heap.size w ((w.alloc (.cells cs 33)).alloc (.cells #[] 24)) := by
  have hB : Below w.heap.size w (w.alloc (.cells cs 33)) := (Below.refl _ _).alloc (Nat.le_refl _) _
  refine ⟨⟨[], ?_, RowsOwn.nil _ _ _⟩, hB.alloc hB.size _⟩
  have := World.ownsRow_made (base := w.heap.size) (e := 24) (size := 1) (w.alloc (.cells cs 33)) #[] 0 (by simp) (by unfold maxLen; omega) (by simp)
  simpa using this
theorem outSt_start (w : World) : OutSt w ((w.alloc (.cells #[.int .i64 0, .int .i64 0, .int .i64 0] 33)).alloc (.cells #[] 24)) (.slice (some ⟨w.heap.size + 1, 0, none⟩) 0 0) [] := by
  have hB : Below w.heap.size w (w.alloc (.cells #[.int .i64 0, .int .i64 0, .int .i64 0] 33)) := (Below.refl _ _).alloc (Nat.le_refl _) _
  refine ⟨hB.alloc hB.size _, ?_, [], ?_, RowsOwn.nil _ _ _⟩
  · show ((w.heap.push _).push _)[w.heap.size]? = _
    rw [Array.getElem?_push_lt (by simp)]
    simp
  · have := World.ownsRow_made (base := w.heap.size) (e := 24) (size := 1) (w.alloc (.cells #[.int .i64 0, .int .i64 0, .int .i64 0] 33)) #[] 0 (by simp) (by unfold maxLen; omega) (by simp)
    simpa using this
end Go.Proofs.YticeagjonfifbaaGreatDoor
namespace Go.Proofs.YticeagjonfifbaaGreatDoor
open Go.RowKit

end Go.Proofs.YticeagjonfifbaaGreatDoor
namespace Go.Proofs.YticeagjonfifbaaGreatDoor
open Go.RowKit

/-- What the size of a list of rows counts. -/
def szL (L : List (List (List UInt8))) : Nat := (L.map fun r => r.length + lensum r).sum
theorem szL_take_succ {L : List (List (List UInt8))} {k : Nat} {p : List (List UInt8)} (h : L[k]? = some p) : szL (L.take (k + 1)) = szL (L.take k) + (p.length + lensum p) := by
  unfold szL
  rw [List.take_add_one, h, List.map_append, List.sum_append]
  simp
theorem szL_take_le (L : List (List (List UInt8))) (k : Nat) : szL (L.take k) ≤ szL L := by
  have e : szL L = szL (L.take k) + szL (L.drop k) := by
    unfold szL
    rw [← List.sum_append, ← List.map_append, List.take_append_drop]
  omega
theorem szL_mem {L : List (List (List UInt8))} {r : List (List UInt8)} (h : r ∈ L) : r.length + lensum r ≤ szL L := by
  induction L with
  | nil => cases h
  | cons a t ih =>
    have e : szL (a :: t) = (a.length + lensum a) + szL t := by simp [szL]
    rcases List.mem_cons.1 h with rfl | h
    · omega
    · have := ih h
      omega

theorem szStr_fits (w : World) (v : Value) (left : Nat) (ps : List (List UInt8)) (h : StrRow w v ps) (hleft : left ≤ 1048576) (hsz : ∀ p ∈ ps, p.length ≤ 9223372036854775807) (hf : ps.length + lensum ps ≤ left) :
    Calls Tryz.prog 56 #[v, .int .i64 left] w fun e w' => e = .returned (.int .i64 ((left - (ps.length + lensum ps) : Nat) : Int)) ∧ w = w' :=
  (szStr w v left ps h hleft hsz).mono fun e w' ⟨he, hw⟩ => ⟨by
    rcases he with ⟨_, he⟩ | ⟨hlt, _⟩
    · rw [he]
      exact ret_int (by omega)
    · omega, hw⟩
theorem szStr_not (w : World) (v : Value) (left : Nat) (ps : List (List UInt8)) (h : StrRow w v ps) (hleft : left ≤ 1048576) (hsz : ∀ p ∈ ps, p.length ≤ 9223372036854775807) (hf : left < ps.length + lensum ps) :
    Calls Tryz.prog 56 #[v, .int .i64 left] w fun e w' => e = .returned (.int .i64 (-1)) ∧ w = w' :=
  (szStr w v left ps h hleft hsz).mono fun e w' ⟨he, hw⟩ => ⟨by
    rcases he with ⟨hle, _⟩ | ⟨_, he⟩
    · omega
    · exact he, hw⟩

/-- The first j rows are copied. -/
def SSFilled (w : World) (base : Nat) (v : Value) (n : Nat) (L : List (List (List UInt8))) (j : Nat) : Prop :=
  ∃ vs : List Value, w.ownsRow base 24 1 v n vs ∧ RowsOwn w base 9 (vs.take j) ((L.take j).map strCells)
theorem SSFilled.done {w : World} {base : Nat} {v : Value} {L : List (List (List UInt8))} (h : SSFilled w base v L.length L L.length) : SSOwn w base v L := by
  obtain ⟨vs, ho, hr⟩ := h
  have hlen := ho.1
  rw [List.take_of_length_le (by omega), List.take_of_length_le (Nat.le_refl _)] at hr
  exact ⟨vs, ho, hr⟩
theorem SSFilled.cell {w : World} {base g cap : Nat} {n j : Nat} {L : List (List (List UInt8))} (h : SSFilled w base (.slice (some ⟨g, 0, none⟩) n cap) n L j) {i : Nat} (hi : i < n) : (∃ x, w.cell? ⟨g, i, none⟩ = some x) ∧ w.frozen? ⟨g, i, none⟩ = false := by
  obtain ⟨xs, ho, hx⟩ := h
  have hxl := ho.1
  refine ⟨⟨xs[i]'(by omega), ?_⟩, ho.frozenAt i⟩
  rw [ho.cellAt i (by omega), List.getElem?_eq_getElem (by omega)]
theorem SSFilled.below {w w' : World} {base n j : Nat} {v : Value} {L : List (List (List UInt8))} (h : SSFilled w base v n L j) (hB : Below w.heap.size w w') : SSFilled w' base v n L j := by
  obtain ⟨vs, ho, hr⟩ := h
  exact ⟨vs, ho.kept (grown_of_below hB none) (by cases hv : v.ownBlock <;> simp), hr.below hB⟩
theorem SSFilled.step {wr w : World} {base g cap : Nat} {n j : Nat} {L : List (List (List UInt8))} {p : List (List UInt8)} {u : Value} (h : SSFilled wr base (.slice (some ⟨g, 0, none⟩) n cap) n L j) (hB : Below wr.heap.size wr w) (hj : j < n) (hp : L[j]? = some p)
    (hu : w.ownsRow wr.heap.size 9 1 u p.length (strCells p)) (hlo : base ≤ wr.heap.size) :
    SSFilled (w.setCell ⟨g, j, none⟩ u) base (.slice (some ⟨g, 0, none⟩) n cap) n L (j + 1) := by
  obtain ⟨vs, ho0, hr0⟩ := h
  have ho := ho0.kept (grown_of_below hB none) (Or.inr (by simp [Value.ownBlock]))
  have hr := hr0.below hB
  have hs := ho.stored j u
  have hxl := ho.1
  have hT : 9 ≠ 24 := by decide
  have hr2 := hr.outer ho hT hs.2
  have hu2 : (w.setCell ⟨g, j, none⟩ u).ownsRow base 9 1 u (strCells p).length (strCells p) := by
    rw [strCells_len]
    refine World.ownsRow.mono (hu.kept hs.2 ?_) hlo
    cases hb : u.ownBlock with
    | none => exact Or.inl rfl
    | some b => exact Or.inr (fun e => owns_apart hu ho hT b hb e.symm)
  refine ⟨_, hs.1, ?_⟩
  have e1 : (vs.set j u).take (j + 1) = vs.take j ++ [u] := by
    have hjv : j < vs.length := by omega
    rw [List.take_add_one, List.getElem?_set_self hjv, List.take_set_of_le (Nat.le_refl _)]
    rfl
  have e2 : (L.take (j + 1)).map strCells = (L.take j).map strCells ++ [strCells p] := by
    rw [List.take_add_one, hp, List.map_append]
    rfl
  rw [e1, e2]
  exact hr2.snoc (lo := wr.heap.size) hu2 (fun i x b hx hb => (hr0.lt hx hb).2) (fun b hb => (hu.lt b hb).1)

theorem owns_slice {w : World} {base s n : Nat} {T : TypeId} {v : Value} {xs : List Value} (h : w.ownsRow base T s v n xs) : ∃ a m c, v = .slice a m c := by
  rcases h.2 with ⟨rfl, _⟩ | ⟨g, cap, cur, rfl, _⟩
  · exact ⟨_, _, _, rfl⟩
  · exact ⟨_, _, _, rfl⟩

theorem toStrP (w : World) (v : Value) (ps : List (List UInt8)) (h : StrRow w v ps) (hl : ps.length ≤ 1048576) :
    Calls Tryz.prog 59 #[v] w fun e w' => ∃ u, e = .returned u ∧ w'.ownsRow w.heap.size 9 1 u ps.length (strCells ps) ∧ Below w.heap.size w w' := toStr w v ps h hl

end Go.Proofs.YticeagjonfifbaaGreatDoor
namespace Go.Proofs.YticeagjonfifbaaGreatDoor
open Go.RowKit

theorem recNumber_panicking (u : TypeId) (pv : Value) (older : List PanicEntry) (w : World) :
    CallsD Tryz.prog 148 #[] (.panicking ({ v := .iface u pv, recovered := false } :: older)) w fun e u' w' =>
      e = .returned (.tuple #[]) ∧ u' = .panicking ({ v := .iface u pv, recovered := true } :: older) ∧ w' = w := by
  refine callsD_of_wpS Tryz.func148 rfl fun c₀ cs hu => ?_
  apply wpS_region
  simp [wpOpsS, go_sem, recoverD, hu, Tryz.ntmps148, bodyPostS, results, Tryz.results148]

theorem recNumber_idle (w : World) :
    CallsD Tryz.prog 148 #[] .returning w fun e u' w' => e = .returned (.tuple #[]) ∧ u' = .returning ∧ w' = w := by
  refine callsD_of_wpS Tryz.func148 rfl fun c₀ cs hu => ?_
  apply wpS_region
  simp [wpOpsS, go_sem, recoverD, hu, Tryz.ntmps148, bodyPostS, results, Tryz.results148]
  cases c₀
  simp_all

def outOfRange : PanicEntry := { v := .iface 9 (.string ⟨#[110, 117, 109, 98, 101, 114, 32, 111, 117, 116, 32, 111, 102, 32, 114, 97, 110, 103, 101]⟩), recovered := false }

theorem mustRange_yes (n lo hi : Int) (h0 : lo ≤ n) (h1 : n ≤ hi) (w : World) :
    Calls Tryz.prog 149 #[.int .i64 n, .int .i64 lo, .int .i64 hi] w fun e w' => e = .returned (.int .i64 n) ∧ w = w' := by
  have a0 : ¬ n < lo := by omega
  have a1 : ¬ hi < n := by omega
  go_enter Tryz.func149, Tryz.ntmps149
  go_wp2
  go_ret
  exact ⟨rfl, rfl⟩
theorem mustRange_no (n lo hi : Int) (h : n < lo ∨ hi < n) (w : World) :
    Calls Tryz.prog 149 #[.int .i64 n, .int .i64 lo, .int .i64 hi] w fun e w' => e = .panicked [outOfRange] ∧ w = w' := by
  by_cases a0 : n < lo
  · clear h
    go_enter Tryz.func149, Tryz.ntmps149
    go_wp2
    exact ⟨rfl, rfl, rfl⟩
  · have a1 : hi < n := by omega
    clear h
    go_enter Tryz.func149, Tryz.ntmps149
    go_wp2
    exact ⟨rfl, rfl, rfl⟩

set_option maxRecDepth 100000 in
theorem implNumber_yes (s : ByteArray) (n : Int) (hn : IsNum s.data.toList n) (h0 : 0 ≤ n) (h1 : n ≤ 999999999) (w : World) (htab : Lib.TabIs Tryz.prog w "internal/strconv.uint64pow10" .u64 Lib.pow10Tab) (hg : 1 < w.heap.size) :
    Calls Tryz.prog 131 #[.string s] w fun e w' => e = .returned (.tuple #[.int .i64 n, .bool true]) ∧ Below w.heap.size w w' := by
  go_enter_defers Tryz.func131, Tryz.ntmps131
  go_wp2_with fail
  refine (mustInt_yes s n hn _ htab hg).mono ?_
  rintro e w1 ⟨rfl, hB⟩
  go_wp2_with fail
  refine (mustRange_yes n 0 999999999 h0 h1 _).mono ?_
  rintro e w2 ⟨rfl, rfl⟩
  go_wp2_with fail
  refine leaves_cons (f := 148) (args := #[]) (by simp) (by simp [go_sem]) ?_
  refine (recNumber_idle _).mono ?_
  rintro e u' w2 ⟨rfl, rfl, rfl⟩
  simp [Leaves, settle, results, Tryz.results131, go_sem, hB]

set_option maxRecDepth 100000 in
theorem implNumber_out (s : ByteArray) (n : Int) (hn : IsNum s.data.toList n) (h : n < 0 ∨ 999999999 < n) (w : World) (htab : Lib.TabIs Tryz.prog w "internal/strconv.uint64pow10" .u64 Lib.pow10Tab) (hg : 1 < w.heap.size) :
    Calls Tryz.prog 131 #[.string s] w fun e w' => e = .returned (.tuple #[.int .i64 0, .bool false]) ∧ Below w.heap.size w w' := by
  go_enter_defers Tryz.func131, Tryz.ntmps131
  go_wp2_with fail
  refine (mustInt_yes s n hn _ htab hg).mono ?_
  rintro e w1 ⟨rfl, hB⟩
  go_wp2_with fail
  refine (mustRange_no n 0 999999999 h _).mono ?_
  rintro e w2 ⟨rfl, rfl⟩
  go_wp2_with fail
  refine leaves_cons (f := 148) (args := #[]) (by simp) (by simp [go_sem]) ?_
  refine (recNumber_panicking _ _ [] _).mono ?_
  rintro e u' w2 ⟨rfl, rfl, rfl⟩
  simp [Leaves, settle, results, Tryz.results131, go_sem, hB]

set_option maxRecDepth 100000 in
theorem implNumber_no (s : ByteArray) (hsz : s.size ≤ 1048576) (h : ∀ n, ¬ IsNum s.data.toList n) (tp tq : TypeId) (p q : Value) (w : World)
    (htab : Lib.TabIs Tryz.prog w "internal/strconv.uint64pow10" .u64 Lib.pow10Tab) (hg : 1 < w.heap.size)
    (hv1 : w.var? Tryz.prog "strconv.ErrSyntax" = some #[.iface tp p]) (hv2 : w.var? Tryz.prog "strconv.ErrRange" = some #[.iface tq q]) :
    Calls Tryz.prog 131 #[.string s] w fun e w' => e = .returned (.tuple #[.int .i64 0, .bool false]) ∧ Below w.heap.size w w' := by
  go_enter_defers Tryz.func131, Tryz.ntmps131
  go_wp2_with fail
  refine (mustInt_no s hsz h tp tq p q _ htab hg hv1 hv2).mono ?_
  rintro e w1 ⟨rfl, hB⟩
  go_wp2_with fail
  refine leaves_cons (f := 148) (args := #[]) (by simp) (by simp [go_sem]) ?_
  refine (recNumber_panicking _ _ [] _).mono ?_
  rintro e u' w2 ⟨rfl, rfl, rfl⟩
  simp [Leaves, settle, results, Tryz.results131, go_sem, hB]

/-- What Number answers. -/
def NrPost (l : List UInt8) (e : Ending) : Prop :=
  (∃ n, IsNum l n ∧ 0 ≤ n ∧ n ≤ 999999999 ∧ e = .returned (.tuple #[.int .i64 n, .bool true])) ∨ ((∀ n, IsNum l n → n < 0 ∨ 999999999 < n) ∧ e = .returned (.tuple #[.int .i64 0, .bool false]))

theorem isNum_one {l : List UInt8} {n m : Int} (h : IsNum l n) (k : IsNum l m) : n = m := by
  have a := atoi_isNum h
  have b := atoi_isNum k
  rw [a] at b
  injection b

theorem specIn_yes (x lo hi : Int) (a0 : lo ≤ x) (a1 : x ≤ hi) (w : World) :
    Calls Tryz.prog 51 #[.int .i64 x, .int .i64 lo, .int .i64 hi] w fun e w' => e = .returned (.bool true) ∧ w = w' := by
  go_enter Tryz.func51, Tryz.ntmps51
  go_wp2
  go_ret
  exact ⟨by first | (simp; done) | (simp; omega), rfl⟩
theorem specIn_no (x lo hi : Int) (h : x < lo ∨ hi < x) (w : World) :
    Calls Tryz.prog 51 #[.int .i64 x, .int .i64 lo, .int .i64 hi] w fun e w' => e = .returned (.bool false) ∧ w = w' := by
  have H := Lib.hid h
  clear h
  go_enter Tryz.func51, Tryz.ntmps51
  go_wp2
  all_goals
    go_ret
    have h := H.out
    exact ⟨by first | (simp; done) | (simp; omega), rfl⟩

set_option maxRecDepth 100000 in
theorem specNumber (s : ByteArray) (w : World) :
    Calls Tryz.prog 96 #[.string s] w fun e w' => NrPost s.data.toList e ∧ Below w.heap.size w w' := by
  by_cases hx : ∃ n, IsNum s.data.toList n
  · obtain ⟨n, hn⟩ := hx
    have hit : Calls Tryz.prog 119 #[.string s] w fun e w' => e = .returned (.tuple #[.int .i64 n, .bool true]) ∧ Below w.heap.size w w' :=
      (specIntText s w).mono fun e w' ⟨hp, hb⟩ => ⟨by
        rcases hp with ⟨m, hm, he⟩ | ⟨hno, _⟩
        · rw [he, isNum_one hm hn]
        · exact absurd hn (hno n), hb⟩
    have HN := Lib.hid hn
    have HIT := Lib.hid hit
    clear hn hit
    by_cases hr : 0 ≤ n ∧ n ≤ 999999999
    · obtain ⟨h0, h1⟩ := hr
      go_enter Tryz.func96, Tryz.ntmps96
      go_wp2_with fail
      refine HIT.out.mono ?_
      rintro e w1 ⟨rfl, hB⟩
      go_wp2_with fail
      refine (specIn_yes n 0 999999999 h0 h1 _).mono ?_
      rintro e w2 ⟨rfl, rfl⟩
      go_wp2_with fail
      go_ret2
      exact ⟨Or.inl ⟨n, HN.out, h0, h1, rfl⟩, hB⟩
    · have ho : Hid (n < 0 ∨ 999999999 < n) := by show n < 0 ∨ 999999999 < n; omega
      clear hr
      go_enter Tryz.func96, Tryz.ntmps96
      go_wp2_with fail
      refine HIT.out.mono ?_
      rintro e w1 ⟨rfl, hB⟩
      go_wp2_with fail
      refine (specIn_no n 0 999999999 ho.out _).mono ?_
      rintro e w2 ⟨rfl, rfl⟩
      go_wp2_with fail
      go_ret2
      exact ⟨Or.inr ⟨fun m hm => isNum_one HN.out hm ▸ ho.out, rfl⟩, hB⟩
  · have hno : ∀ n, ¬ IsNum s.data.toList n := fun n hn => hx ⟨n, hn⟩
    have hit : Calls Tryz.prog 119 #[.string s] w fun e w' => e = .returned (.tuple #[.int .i64 0, .bool false]) ∧ Below w.heap.size w w' :=
      (specIntText s w).mono fun e w' ⟨hp, hb⟩ => ⟨by
        rcases hp with ⟨m, hm, he⟩ | ⟨_, he⟩
        · exact absurd hm (hno m)
        · exact he, hb⟩
    have HN := Lib.hid hno
    have HIT := Lib.hid hit
    clear hno hit hx
    go_enter Tryz.func96, Tryz.ntmps96
    go_wp2_with fail
    refine HIT.out.mono ?_
    rintro e w1 ⟨rfl, hB⟩
    go_wp2_with fail
    go_ret2
    exact ⟨Or.inr ⟨fun m hm => absurd hm (HN.out m), rfl⟩, hB⟩
end Go.Proofs.YticeagjonfifbaaGreatDoor
namespace Go.Proofs.YticeagjonfifbaaGreatDoor
open Go.RowKit

/-- The marks of rows of these lengths, from k on. -/
def marksL (k : Nat) : List Nat → List (List (List UInt8))
  | [] => []
  | n :: r => marks k n :: marksL (k + n) r
theorem marksL_len : ∀ (ns : List Nat) (k : Nat), (marksL k ns).length = ns.length
  | [], _ => rfl
  | n :: r, k => by rw [marksL, List.length_cons, List.length_cons, marksL_len r]
theorem marksL_at : ∀ (ns : List Nat) (k j n : Nat), ns[j]? = some n → (marksL k ns)[j]? = some (marks (k + (ns.take j).sum) n)
  | [], _, _, _, h => by simp at h
  | m :: r, k, 0, n, h => by
    obtain rfl : m = n := by simpa using h
    simp [marksL]
  | m :: r, k, j + 1, n, h => by
    have ih := marksL_at r (k + m) j n (by simpa using h)
    rw [marksL, List.getElem?_cons_succ, ih]
    congr 2
    simp only [List.take_succ_cons, List.sum_cons]
    omega
theorem marked_cells {w : World} {base : Nat} {T : TypeId} {v : Value} {n k : Nat} (h : Marked w base T v n k n) : w.ownsRow base T 1 v (strCells (marks k n)).length (strCells (marks k n)) := by
  obtain ⟨xs, ho, hx⟩ := h
  have e : xs = strCells (marks k n) := by
    refine List.ext_getElem? fun i => ?_
    by_cases hi : i < n
    · rw [hx i hi, strCells, List.getElem?_map, marks_at hi]; rfl
    · have hxl := ho.1
      rw [List.getElem?_eq_none (by omega), List.getElem?_eq_none (by rw [strCells_len, marks_len]; omega)]
  rw [strCells_len, marks_len, ← e]
  exact ho

theorem sum_take_succ {ns : List Nat} {j m : Nat} (h : ns[j]? = some m) : (ns.take (j + 1)).sum = (ns.take j).sum + m := by
  rw [List.take_add_one, h, List.sum_append]
  simp
theorem sum_take_le (ns : List Nat) (j : Nat) : (ns.take j).sum ≤ ns.sum := by
  have e : ns.sum = (ns.take j).sum + (ns.drop j).sum := by rw [← List.sum_append, List.take_append_drop]
  omega
theorem sum_mem {ns : List Nat} {m : Nat} (h : m ∈ ns) : m ≤ ns.sum := by
  induction ns with
  | nil => cases h
  | cons a t ih =>
    rw [List.sum_cons]
    rcases List.mem_cons.1 h with rfl | h
    · omega
    · have := ih h
      omega
theorem set_self {ns : List Nat} {j m : Nat} (h : ns[j]? = some m) : ns.set j m = ns := by
  refine List.ext_getElem? fun i => ?_
  by_cases e : j = i
  · subst e
    rw [List.getElem?_set_self (List.getElem?_eq_some_iff.1 h).1, h]
  · rw [List.getElem?_set_ne e]

/-- The rows before j are marked. -/
def MarkInv (w : World) (base : Nat) (v : Value) (n : Nat) (vs : List Value) (ns : List Nat) (k j : Nat) : Prop :=
  ∃ C : List (List Value), w.ownsRow base 24 1 v n vs ∧ RowsOwn w base 9 vs C ∧ C.map List.length = ns ∧ (∀ (i m : Nat), i < j → ns[i]? = some m → C[i]? = some (strCells (marks (k + (ns.take i).sum) m)))
theorem MarkInv.row {w : World} {base n k j : Nat} {v : Value} {vs : List Value} {ns : List Nat} (h : MarkInv w base v n vs ns k j) (hn : ns.length = n) (hj : j < n) : ∃ u m c, vs[j]? = some u ∧ ns[j]? = some m ∧ w.ownsRow base 9 1 u m c ∧ c.length = m := by
  obtain ⟨C, ho, hr, hC, _⟩ := h
  have hlen := congrArg List.length hC
  rw [List.length_map, hn] at hlen
  have hvl := hr.1
  have hCj : C[j]? = some C[j] := List.getElem?_eq_getElem (by omega)
  have hvj : vs[j]? = some vs[j] := List.getElem?_eq_getElem (by omega)
  refine ⟨vs[j], C[j].length, C[j], hvj, ?_, hr.2.1 j _ _ hvj hCj, rfl⟩
  rw [← hC, List.getElem?_map, hCj]
  rfl
theorem MarkInv.step {w w' : World} {base n k j m : Nat} {v u : Value} {vs : List Value} {ns : List Nat} (h : MarkInv w base v n vs ns k j) (hn : ns.length = n) (hj : j < n) (hu : vs[j]? = some u) (hm : ns[j]? = some m) (hg : w.grownBy w' u.ownBlock)
    (hM : Marked w' base 9 u m (k + (ns.take j).sum) m) : MarkInv w' base v n vs ns k (j + 1) := by
  obtain ⟨C, ho, hr, hC, hx⟩ := h
  have hlen := congrArg List.length hC
  rw [List.length_map, hn] at hlen
  have hvl := hr.1
  have hCj : C[j]? = some C[j] := List.getElem?_eq_getElem (by omega)
  have hT : 9 ≠ 24 := by decide
  refine ⟨C.set j (strCells (marks (k + (ns.take j).sum) m)), ho.kept hg ?_, hr.put hu hg (marked_cells hM), ?_, fun i q hi hq => ?_⟩
  · cases hb : v.ownBlock with
    | none => exact Or.inl rfl
    | some b => exact Or.inr (fun e => owns_apart (hr.2.1 j u _ hu hCj) ho hT b e.symm hb)
  · rw [List.map_set, hC, strCells_len, marks_len]
    exact set_self hm
  · by_cases e : j = i
    · subst e
      rw [hm] at hq
      obtain rfl := Option.some.inj hq
      rw [List.getElem?_set_self (by omega)]
    · rw [List.getElem?_set_ne e]
      exact hx i q (by omega) hq
theorem MarkInv.done {w : World} {base n k : Nat} {v : Value} {vs : List Value} {ns : List Nat} (h : MarkInv w base v n vs ns k n) (hn : ns.length = n) (hl : n ≤ 140737488355328) (hnl : ∀ m ∈ ns, m ≤ 140737488355328) : SSRow w v (marksL k ns) := by
  obtain ⟨C, ho, hr, hC, hx⟩ := h
  have hlen := marksL_len ns k
  refine ssRow_of (base := base) (vs := vs) (by rw [hlen, hn]; exact ho) (fun j u row hu hj => ?_) (by omega)
  have hjl := (List.getElem?_eq_some_iff.1 hj).1
  rw [hlen] at hjl
  have hm : ns[j]? = some ns[j] := List.getElem?_eq_getElem hjl
  rw [marksL_at ns k j _ hm] at hj
  obtain rfl := Option.some.inj hj
  have := hr.2.1 j u _ hu (hx j _ (by omega) hm)
  rw [strCells_len] at this
  refine strRow_of_owns this ?_
  rw [marks_len]
  have := hnl ns[j] (List.getElem_mem hjl)
  omega

end Go.Proofs.YticeagjonfifbaaGreatDoor
namespace Go.Proofs.YticeagjonfifbaaGreatDoor
open Go.RowKit

theorem powTable5 {r : List (String × DataW Unit)} {d1 d2 : String × DataW Unit} {W : World} (h : laidMet Tryz.prog (d1 :: d2 :: ("internal/strconv.uint64pow10", Rows.laid_internal_strconv_uint64pow10) :: r) W) : Lib.TabIs Tryz.prog W "internal/strconv.uint64pow10" .u64 Lib.pow10Tab := by
  have h2 : laidMet Tryz.prog (("internal/strconv.uint64pow10", Lib.tabData .u64 Lib.pow10Tab) :: r) W := by rw [← powData]; exact h.tail.tail
  exact Lib.tabIs_of_head gPow gPowType Tryz.underlying181 Tryz.underlying173 cellsU64 cellsPow h2

theorem implNumber (s : ByteArray) (hsz : s.size ≤ 1048576) (tp tq : TypeId) (p q : Value) (w : World)
    (htab : Lib.TabIs Tryz.prog w "internal/strconv.uint64pow10" .u64 Lib.pow10Tab) (hg : 1 < w.heap.size)
    (hv1 : w.var? Tryz.prog "strconv.ErrSyntax" = some #[.iface tp p]) (hv2 : w.var? Tryz.prog "strconv.ErrRange" = some #[.iface tq q]) :
    Calls Tryz.prog 131 #[.string s] w fun e w' => NrPost s.data.toList e ∧ Below w.heap.size w w' := by
  by_cases hx : ∃ n, IsNum s.data.toList n
  · obtain ⟨n, hn⟩ := hx
    by_cases hr : 0 ≤ n ∧ n ≤ 999999999
    · exact (implNumber_yes s n hn hr.1 hr.2 w htab hg).mono fun e w' ⟨he, hb⟩ => ⟨Or.inl ⟨n, hn, hr.1, hr.2, he⟩, hb⟩
    · have ho : n < 0 ∨ 999999999 < n := by omega
      exact (implNumber_out s n hn ho w htab hg).mono fun e w' ⟨he, hb⟩ => ⟨Or.inr ⟨fun m hm => isNum_one hn hm ▸ ho, he⟩, hb⟩
  · have hno : ∀ n, ¬ IsNum s.data.toList n := fun n hn => hx ⟨n, hn⟩
    exact (implNumber_no s hsz hno tp tq p q w htab hg hv1 hv2).mono fun e w' ⟨he, hb⟩ => ⟨Or.inr ⟨fun n hn => absurd hn (hno n), he⟩, hb⟩

/-- What IntText answers is one value. -/
theorem itPost_val {l : List UInt8} : ∃ (n : Int) (b : Bool), ∀ e, ItPost l e → e = .returned (.tuple #[.int .i64 n, .bool b]) := by
  by_cases hx : ∃ n, IsNum l n
  · obtain ⟨n, hn⟩ := hx
    refine ⟨n, true, fun e he => ?_⟩
    rcases he with ⟨m, hm, he⟩ | ⟨hno, _⟩
    · rw [he, isNum_one hn hm]
    · exact absurd hn (hno n)
  · refine ⟨0, false, fun e he => ?_⟩
    rcases he with ⟨m, hm, _⟩ | ⟨_, he⟩
    · exact absurd ⟨m, hm⟩ hx
    · exact he
theorem nrPost_val {l : List UInt8} : ∃ (n : Int) (b : Bool), ∀ e, NrPost l e → e = .returned (.tuple #[.int .i64 n, .bool b]) := by
  by_cases hx : ∃ n, IsNum l n ∧ 0 ≤ n ∧ n ≤ 999999999
  · obtain ⟨n, hn, h0, h1⟩ := hx
    refine ⟨n, true, fun e he => ?_⟩
    rcases he with ⟨m, hm, _, _, he⟩ | ⟨hno, _⟩
    · rw [he, isNum_one hn hm]
    · have := hno n hn; omega
  · refine ⟨0, false, fun e he => ?_⟩
    rcases he with ⟨m, hm, a, b, _⟩ | ⟨_, he⟩
    · exact absurd ⟨m, hm, a, b⟩ hx
    · exact he

end Go.Proofs.YticeagjonfifbaaGreatDoor
namespace Go.Proofs.YticeagjonfifbaaGreatDoor
open Go.RowKit

theorem cell_keep6 {w w' : World} {a : Addr} {v : Value} (h : w.cell? a = some v) (hB : Below w.heap.size w w') : w'.cell? a = some v := (hB.cell (World.block_lt_of_cell? w a h)).trans h
/-- What reading a number ends in. -/
noncomputable def numE (l : List UInt8) : Ending :=
  match numV l with
  | some n => .returned (.tuple #[.int .i64 n, .bool true])
  | none => .returned (.tuple #[.int .i64 0, .bool false])
theorem nr_numE {l : List UInt8} {e : Ending} (h : NrPost l e) : e = numE l := by
  rcases h with ⟨n, hn, h0, h1, rfl⟩ | ⟨hno, rfl⟩
  · rw [numE, numV_some hn h0 h1]
  · rw [numE, numV_none hno]
theorem numE_some {l : List UInt8} {n : Int} (h : numV l = some n) : numE l = .returned (.tuple #[.int .i64 n, .bool true]) := by rw [numE, h]
theorem numE_none {l : List UInt8} (h : numV l = none) : numE l = .returned (.tuple #[.int .i64 0, .bool false]) := by rw [numE, h]
theorem specNumberE (s : ByteArray) (w : World) :
    Calls Tryz.prog 96 #[.string s] w fun e w' => e = numE s.data.toList ∧ Below w.heap.size w w' :=
  (specNumber s w).mono fun _ _ k => ⟨nr_numE k.1, k.2⟩
theorem getD_atN {d : ByteArray} {k : Nat} (h : k < d.size) : d.data.toList.getD k 0 = d[k] := by
  rw [List.getD_eq_getElem?_getD, at_byte h]
  rfl
end Go.Proofs.YticeagjonfifbaaGreatDoor
