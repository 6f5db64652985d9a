/-
  For every code, the law on the order of the lines of settings answers true, and its argument reads as before.
  Conditions: the listed variables of the library are laid as the program's text lays them (the card ties them).
-/
import Derived.Test.YtnnbhgnllbjmeaaGreatDoorLawJ8
import Derived.Test.YtnnbhgnllbjmeaaGreatDoorI8
import Derived.Test.YtnnbhgnllbjmeaaGreatDoorPk2
import Derived.Test.YtnnbhgnllbjmeaaGreatDoorPk3
import Derived.Carry
import Derived.SizedLaws
namespace Go.Proofs.YtnnbhgnllbjmeaaGreatDoor.fnConfigLinesP
open Go.ChangeShapes Go.WideShapes Go.ChangeAt Go.RowKit
open Go.ChangeMaps (open_string shut_string)
open Go.Proofs.YtnnbhgnllbjmeaaGreatDoor

set_option maxRecDepth 100000 in
set_option maxHeartbeats 1000000 in
theorem contract (H : Type) (enc : TypeId × Value → H) (W : World) (base : Nat) (args : Array Value) (ds gs : List (DataW H)) (before : List MemPlace)
    (hval : ∀ (j : Nat) t v, Tryz.f4.params[j]? = some t → args[j]? = some v → Value.okWide Tryz.prog W .any base t v)
    (hW : DataW.Whole enc Tryz.prog Tryz.f4.params.toList Rows.fnConfigLinesSpec.vars false W args.toList ds gs before) (hL : laidMetH Tryz.prog Rows.fnConfigLinesRow.laid W) (hsh : W.ShapedOpen Tryz.prog)
    (hsz : (DataW.weightsEach Tryz.prog (Tryz.f4.params.toList ++ Rows.fnConfigLinesSpec.plain.varTypes Tryz.prog) (ds ++ gs)).all (· ≤ reachBytes) = true) :
    Calls Tryz.prog 4 args W fun e W' => ∃ v, e = .returned v ∧ Rows.fnConfigLinesSpec.post enc Tryz.prog Tryz.f4 false true false false W args v W' := by
  have hW' := hW
  obtain ⟨p, q, hA0, hV, rfl, hfz, hnd⟩ := hW
  have hA : DataW.TrodAll enc Tryz.prog W 0 (fun _ => true) true Tryz.f4.params.toList args.toList ds p := hA0
  rw [Tryz.params4] at hA hval hsz
  obtain ⟨v0, vs0, d0, ds0, p0, q0, hargs, rfl, rfl, h0, r0⟩ := trodAll_cons hA
  obtain ⟨rfl, rfl, rfl⟩ := trodAll_nil r0
  obtain rfl : args = #[v0] := by cases args; simp_all
  obtain ⟨rfl, rfl⟩ := trodVars_none hV
  obtain ⟨a0, n0, c0, rfl⟩ := okWide_slice Tryz.underlying22 (hval 0 22 v0 rfl rfl)
  have k0 := h0
  have hlt0 : ∀ x ∈ p0, x.block < W.heap.size := fun x hx => hW'.lt x (by simp [hx])
  have b0 : Bytes W (.slice a0 n0 c0) n0 := bytes_read h0 (by
    intro l s hd
    subst hd
    have := sized_slice hsz (j := 0) (t := 22) (e := 5) rfl rfl Tryz.underlying22
    rw [bytesU8] at this
    simp only [reachBytes] at this
    omega)
  clear hA0
  simp only [List.append_nil] at hW'
  have hL0 : laidMet Tryz.prog Rows.fnConfigLinesRow.laid W := hL
  have htab := powTable5 hL0
  have hg : 1 < W.heap.size := tab_lt htab gPow (by rw [Lib.pow10Tab_length]; omega)
  obtain ⟨aR, hvR⟩ := errRange hL0.tail.tail.tail.tail
  obtain ⟨aS, hvS⟩ := errSyntax hL0.tail.tail.tail.tail.tail
  have hL8 : Lib8 W := ⟨htab, hg, ⟨_, _, hvS⟩, ⟨_, _, hvR⟩, Tryz.laysM145.s1_3 W hsh⟩
  refine (lawFnConfigLines W _ n0 (implText8 W ⟨htab, hg⟩) (implRead8 W hL8) b0).mono fun e W' ⟨he, hB⟩ => ?_
  subst he
  refine ⟨_, rfl, _, _, _, [], p0 ++ [], [], hW', ?_, ?_, rfl, hB.frame _, fun h => by cases h⟩
  · exact trodAll_cons_mk (shut_bool Tryz.underlying4 _) trodAll_mk0
  · exact trodAll_cons_mk (Below.trod laidOut (by kernel_rfl) (of_decide_eq_true (by kernel_rfl)) k0 hB hlt0) trodAll_mk0

/-- A WORLD FOR THE WITNESS: the settled one, the listed variables as their initialisers lay them. -/
noncomputable def laidWorld (os : Os) : World :=
  { World.holding Tryz.prog os ⟨#[.cells #[.string ⟨(sentText Rows.laid_strconv_ErrRange).toArray⟩] 167, .cells #[.string ⟨(sentText Rows.laid_strconv_ErrSyntax).toArray⟩] 167], #[], []⟩ with heap := ((((((((World.holding Tryz.prog os ⟨#[.cells #[.string ⟨(sentText Rows.laid_strconv_ErrRange).toArray⟩] 167, .cells #[.string ⟨(sentText Rows.laid_strconv_ErrSyntax).toArray⟩] 167], #[], []⟩).heap.modify 6 (setCells (tabCells Rows.laid_math_bits_deBruijn32tab))).modify 7 (setCells (tabCells Rows.laid_math_bits_deBruijn64tab))).modify 1 (setCells (tabCells Rows.laid_internal_strconv_uint64pow10))).modify 3 (setCells (tabCells Rows.laid_unicode_utf8_acceptRanges))).modify 5 (setCells #[.iface 165 (.pointer (some ⟨low + 0, 0, none⟩))])).modify 4 (setCells #[.iface 165 (.pointer (some ⟨low + 1, 0, none⟩))])).modify 2 (setCells (tabCells Rows.laid_unicode_utf8_first))) }
theorem laid_met (os : Os) : laidMet Tryz.prog Rows.fnConfigLinesRow.laid ((laidWorld os).forCall (fun _ _ => 0) ⟨#[], #[.slice none 0 0], []⟩).memory :=
  laidMet_of_run' 8 (by kernel_rfl) (by kernel_rfl)
theorem reads (os : Os) {H : Type} (enc : TypeId × Value → H) : ∃ places, DataW.whole enc Tryz.prog ((laidWorld os).forCall (fun _ _ => 0) ⟨#[], #[.slice none 0 0], []⟩).memory Tryz.f4.params.toList Rows.fnConfigLinesSpec.vars false #[Value.slice none 0 0].toList 8 = some ([.nil], [], places) :=
  ⟨[], by kernel_rfl⟩

set_option maxRecDepth 100000 in
theorem lifted (os : Os) (started : os.Started) (H : Type) (enc : TypeId × Value → H) (F : Stop.Interp) :
    ReturnsInHanded {} Tryz.checked os 4 .any ((OpenSpec.ofChange Rows.fnConfigLinesSpec).preRow enc Tryz.prog Tryz.f4 Rows.fnConfigLinesRow.domain false Rows.fnConfigLinesRow.laid) (((OpenSpec.ofChange Rows.fnConfigLinesSpec).at F).post enc Tryz.prog Tryz.f4 false true false false) := by
  obtain ⟨places, hx⟩ := reads os enc
  refine returnsInHanded_of_row (C := Tryz.checked) (s := OpenSpec.ofChange Rows.fnConfigLinesSpec) own started (by kernel_rfl) Tryz.func4
    (witness_row_at (enc := enc) (C := Tryz.checked) false (laidWorld os) #[.slice none 0 0] rfl (by kernel_rfl) (by kernel_rfl) (by kernel_rfl)
      (OpenSpec.preRow_of_cond 8 hx (by kernel_rfl) (fun k hk => by cases hk) (by kernel_rfl) (laid_met os))) ?_
  intro W base args ds gs before hval hW _ _ hsz hL hsh _
  exact contract H enc W base args ds gs before hval hW hL hsh hsz

theorem said : Rows.FnConfigLinesSaid :=
  OpenClaim.holds_of_cond 4 Tryz.f4 rfl rfl rfl rfl rfl rfl rfl ⟨rfl, rfl, rfl, rfl, rfl⟩ rfl rfl rfl rfl rfl (by kernel_rfl) Tryz.func4 (by kernel_rfl)
    (of_decide_eq_true (by kernel_rfl)) (by unfold Func.isWrapper; first | (rw [if_pos (by decide +kernel)]; kernel_rfl) | (rw [if_neg (by decide +kernel)]; exact ⟨rfl, rfl⟩))
    (fun os started H enc _ F => by rw [OpenClaim.pre_eq_preRow]; exact lifted os started H enc F)

theorem plain (f : FuncId) (fn : Func) (hf : Tryz.pinned.checked.prog.funcNamed "loop.example/g00500/laws.FnConfigLines" = some f) (hfn : Tryz.pinned.checked.prog.funcs[f]? = some fn) :
    true = Tryz.pinned.checked.prog.looks [] ∧ ∀ (j : Nat) t, fn.params[j]? = some t → Tryz.pinned.checked.prog.wantsStandIn t = false := by
  obtain rfl : f = 4 := Option.some.inj ((show Tryz.prog.funcNamed "loop.example/g00500/laws.FnConfigLines" = some 4 by kernel_rfl).symm.trans hf) |>.symm
  obtain rfl : fn = Tryz.f4 := (Option.some.inj (Tryz.func4.symm.trans hfn)).symm
  refine ⟨by kernel_rfl, fun j t ht => ?_⟩
  rw [Tryz.params4] at ht
  obtain rfl : t = 22 := by
    have h := Array.mem_of_getElem? ht
    simpa using h
  exact (show Tryz.prog.wantsStandIn 22 = false by kernel_rfl)

theorem card : Rows.FnConfigLinesCardSaid :=
  Claim7.holds_tied_plain_at .later [] _ _ _ _ said (fun _ h => by cases h) (by kernel_rfl) (fun _ h => by cases h) fnConfigLines_row_tie rfl ⟨rfl, rfl⟩ (by kernel_rfl) rfl plain (by kernel_rfl)
end Go.Proofs.YtnnbhgnllbjmeaaGreatDoor.fnConfigLinesP
