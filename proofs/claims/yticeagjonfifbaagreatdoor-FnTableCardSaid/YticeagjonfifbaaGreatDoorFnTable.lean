/-
  For every code, the law on tables and their text answers true, and its argument reads as before.
  Conditions: the listed variables of the library are laid as the program's text lays them (the card ties them).
-/
import Derived.Test.YticeagjonfifbaaGreatDoorLawU9
import Derived.Test.YticeagjonfifbaaGreatDoorPk8
import Derived.Test.YticeagjonfifbaaGreatDoorI9R
import Derived.Test.YticeagjonfifbaaGreatDoorPk17
import Derived.Test.YticeagjonfifbaaGreatDoorDrawV
import Derived.Test.YticeagjonfifbaaGreatDoorPk4
import Derived.Test.YticeagjonfifbaaGreatDoorPk12
import Derived.Carry
import Derived.SizedLaws
namespace Go.Proofs.YticeagjonfifbaaGreatDoor.fnTableP
open Go.ChangeShapes Go.WideShapes Go.ChangeAt Go.RowKit
open Go.ChangeMaps (open_string shut_string)
open Go.Proofs.YticeagjonfifbaaGreatDoor

set_option maxRecDepth 100000 in
set_option maxHeartbeats 1000000 in
theorem contract (H : Type) (enc : TypeId × Value → H) (W : World) (base : Nat) (args : Array Value) (ds gs : List (DataW H)) (before : List MemPlace)
    (hval : ∀ (j : Nat) t v, Tryz.f3.params[j]? = some t → args[j]? = some v → Value.okWide Tryz.prog W .any base t v)
    (hW : DataW.Whole enc Tryz.prog Tryz.f3.params.toList Rows.fnTableSpec.vars false W args.toList ds gs before) (hL : laidMetH Tryz.prog Rows.fnTableRow.laid W) (hsh : W.ShapedOpen Tryz.prog)
    (hsz : (DataW.weightsEach Tryz.prog (Tryz.f3.params.toList ++ Rows.fnTableSpec.plain.varTypes Tryz.prog) (ds ++ gs)).all (· ≤ reachBytes) = true) :
    Calls Tryz.prog 3 args W fun e W' => ∃ v, e = .returned v ∧ Rows.fnTableSpec.post enc Tryz.prog Tryz.f3 false true false false W args v W' := by
  have hW' := hW
  obtain ⟨p, q, hA0, hV, rfl, hfz, hnd⟩ := hW
  have hA : DataW.TrodAll enc Tryz.prog W 0 (fun _ => true) true Tryz.f3.params.toList args.toList ds p := hA0
  rw [Tryz.params3] at hA hval hsz
  obtain ⟨v0, vs0, d0, ds0, p0, q0, hargs, rfl, rfl, h0, r0⟩ := trodAll_cons hA
  obtain ⟨rfl, rfl, rfl⟩ := trodAll_nil r0
  obtain rfl : args = #[v0] := by cases args; simp_all
  obtain ⟨rfl, rfl⟩ := trodVars_none hV
  obtain ⟨a0, n0, c0, rfl⟩ := okWide_slice Tryz.underlying22 (hval 0 22 v0 rfl rfl)
  have k0 := h0
  have hlt0 : ∀ x ∈ p0, x.block < W.heap.size := fun x hx => hW'.lt x (by simp [hx])
  have b0 : Bytes W (.slice a0 n0 c0) n0 := bytes_read h0 (by
    intro l s hd
    subst hd
    have := sized_slice hsz (j := 0) (t := 22) (e := 5) rfl rfl Tryz.underlying22
    rw [bytesU8] at this
    simp only [reachBytes] at this
    omega)
  clear hA0
  simp only [List.append_nil] at hW'
  obtain ⟨hL0, hHd⟩ := laid_parts9 hL
  have htab := powTable5 hL0
  have hg : 1 < W.heap.size := tab_lt htab gPow (by rw [Lib.pow10Tab_length]; omega)
  obtain ⟨m9, hm9⟩ := Tryz.laysM145.s1_3 W hsh
  obtain ⟨aR, hvR⟩ := errRange hL0.tail.tail.tail.tail
  obtain ⟨aS, hvS⟩ := errSyntax hL0.tail.tail.tail.tail.tail
  have hL6 : Lib6 W := ⟨htab, hg, ⟨_, _, hvS⟩, ⟨_, _, hvR⟩, ⟨m9, hm9⟩⟩
  refine (lawTable drawTabU drawRdTabU specReadTable implOkU9 implSameU9 W (implTextU9 W m9 hm9 ⟨htab, hg⟩) (implReadTable9 W m9 hm9 hL6 hHd) _ n0 b0).mono fun e W' ⟨he, hB⟩ => ?_
  subst he
  refine ⟨_, rfl, _, _, _, [], p0 ++ [], [], hW', ?_, ?_, rfl, hB.frame _, fun h => by cases h⟩
  · exact trodAll_cons_mk (shut_bool Tryz.underlying4 _) trodAll_mk0
  · exact trodAll_cons_mk (Below.trod laidOut (by kernel_rfl) (of_decide_eq_true (by kernel_rfl)) k0 hB hlt0) trodAll_mk0

/-- A WORLD FOR THE WITNESS: the settled one, the listed variables as their initialisers lay them. -/
noncomputable def laidWorld (os : Os) : World :=
  { World.holding Tryz.prog os ⟨#[.cells #[.string ⟨(sentText Rows.laid_strconv_ErrRange).toArray⟩] 210, .cells #[.string ⟨(sentText Rows.laid_strconv_ErrSyntax).toArray⟩] 210], #[], []⟩ with heap := (((((((((World.holding Tryz.prog os ⟨#[.cells #[.string ⟨(sentText Rows.laid_strconv_ErrRange).toArray⟩] 210, .cells #[.string ⟨(sentText Rows.laid_strconv_ErrSyntax).toArray⟩] 210], #[], []⟩).heap.modify 5 (setCells (tabCells Rows.laid_math_bits_deBruijn32tab))).modify 6 (setCells (tabCells Rows.laid_math_bits_deBruijn64tab))).modify 1 (setCells (tabCells Rows.laid_internal_strconv_uint64pow10))).modify 3 (setCells (tabCells Rows.laid_unicode_utf8_acceptRanges))).modify 8 (setCells #[.iface 208 (.pointer (some ⟨low + 0, 0, none⟩))])).modify 7 (setCells #[.iface 208 (.pointer (some ⟨low + 1, 0, none⟩))])).modify 2 (setCells (tabCells Rows.laid_unicode_utf8_first))).modify 0 (setCells #[.iface 153 (.agg #[.pointer (some ⟨9, 53, none⟩)])])) }
theorem laid_met (os : Os) : laidMetH Tryz.prog Rows.fnTableRow.laid ((laidWorld os).forCall (fun _ _ => 0) ⟨#[], #[.slice none 0 0], []⟩).memory :=
  laidMetH_of_parts (laidMet_of_run' 8 (by kernel_rfl) (by kernel_rfl)) (by kernel_rfl)
theorem reads (os : Os) {H : Type} (enc : TypeId × Value → H) : ∃ places, DataW.whole enc Tryz.prog ((laidWorld os).forCall (fun _ _ => 0) ⟨#[], #[.slice none 0 0], []⟩).memory Tryz.f3.params.toList Rows.fnTableSpec.vars false #[Value.slice none 0 0].toList 8 = some ([.nil], [], places) :=
  ⟨[], by kernel_rfl⟩

set_option maxRecDepth 100000 in
theorem lifted (os : Os) (started : os.Started) (H : Type) (enc : TypeId × Value → H) (F : Stop.Interp) :
    ReturnsInHanded {} Tryz.checked os 3 .any ((OpenSpec.ofChange Rows.fnTableSpec).preRow enc Tryz.prog Tryz.f3 Rows.fnTableRow.domain false Rows.fnTableRow.laid) (((OpenSpec.ofChange Rows.fnTableSpec).at F).post enc Tryz.prog Tryz.f3 false true false false) := by
  obtain ⟨places, hx⟩ := reads os enc
  refine returnsInHanded_of_row (C := Tryz.checked) (s := OpenSpec.ofChange Rows.fnTableSpec) own started (by kernel_rfl) Tryz.func3
    (witness_row_at (enc := enc) (C := Tryz.checked) false (laidWorld os) #[.slice none 0 0] rfl (by kernel_rfl) (by kernel_rfl) (by kernel_rfl)
      (OpenSpec.preRow_of_cond 8 hx (by kernel_rfl) (fun k hk => by cases hk) (by kernel_rfl) (laid_met os))) ?_
  intro W base args ds gs before hval hW _ _ hsz hL hsh _
  exact contract H enc W base args ds gs before hval hW hL hsh hsz

theorem said : Rows.FnTableSaid :=
  OpenClaim.holds_of_cond 3 Tryz.f3 rfl rfl rfl rfl rfl rfl rfl ⟨rfl, rfl, rfl, rfl, rfl⟩ rfl rfl rfl rfl rfl (by kernel_rfl) Tryz.func3 (by kernel_rfl)
    (of_decide_eq_true (by kernel_rfl)) (by unfold Func.isWrapper; first | (rw [if_pos (by decide +kernel)]; kernel_rfl) | (rw [if_neg (by decide +kernel)]; exact ⟨rfl, rfl⟩))
    (fun os started H enc _ F => by rw [OpenClaim.pre_eq_preRow]; exact lifted os started H enc F)

theorem plain (f : FuncId) (fn : Func) (hf : Tryz.pinned.checked.prog.funcNamed "loop.example/g00500/laws.FnTable" = some f) (hfn : Tryz.pinned.checked.prog.funcs[f]? = some fn) :
    true = Tryz.pinned.checked.prog.looks [] ∧ ∀ (j : Nat) t, fn.params[j]? = some t → Tryz.pinned.checked.prog.wantsStandIn t = false := by
  obtain rfl : f = 3 := Option.some.inj ((show Tryz.prog.funcNamed "loop.example/g00500/laws.FnTable" = some 3 by kernel_rfl).symm.trans hf) |>.symm
  obtain rfl : fn = Tryz.f3 := (Option.some.inj (Tryz.func3.symm.trans hfn)).symm
  refine ⟨by kernel_rfl, fun j t ht => ?_⟩
  rw [Tryz.params3] at ht
  obtain rfl : t = 22 := by
    have h := Array.mem_of_getElem? ht
    simpa using h
  exact (show Tryz.prog.wantsStandIn 22 = false by kernel_rfl)

theorem card : Rows.FnTableCardSaid :=
  Claim7.holds_tied_plain_at .later [] _ _ _ _ said (fun _ h => by cases h) (by kernel_rfl) (fun _ h => by cases h) fnTable_row_tie rfl ⟨rfl, rfl⟩ (by kernel_rfl) rfl plain (by kernel_rfl)
end Go.Proofs.YticeagjonfifbaaGreatDoor.fnTableP
