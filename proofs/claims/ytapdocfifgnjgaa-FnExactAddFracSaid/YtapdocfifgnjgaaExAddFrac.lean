
/-
  For every argument, the law that compares impl.AddFrac with spec.AddFrac answers true, and the arguments read as before. No condition.
-/
import Derived.Test.YtapdocfifgnjgaaLawF6
import Derived.Test.YtapdocfifgnjgaaArgsF
namespace Go.Proofs.Ytapdocfifgnjgaa.fnExactAddFracP
open Go.ChangeShapes Go.WideShapes Go.ChangeAt Go.RowKit
open Go.ChangeMaps (open_string shut_string)
open Go.Proofs.Ytapdocfifgnjgaa

theorem own : ownKnob Try.prog.godebug = none := by kernel_rfl

set_option maxRecDepth 100000 in
set_option maxHeartbeats 1000000 in
theorem lifted (os : Os) (started : os.Started) (H : Type) (enc : TypeId × Value → H) :
    ReturnsInHanded {} Try.checked os 6 .any (Rows.fnExactAddFracSpec.pre6 enc Try.prog Try.f6 Rows.fnExactAddFracRow.domain false) (Rows.fnExactAddFracSpec.post enc Try.prog Try.f6 false true false false) := by
  refine returnsInHanded_of_change_sized (C := Try.checked) own started (by kernel_rfl) Try.func6
    (ChangeSpec.witness6 (enc := enc) (C := Try.checked) false ⟨#[], #[.agg #[.bool false, .int .u64 0, .int .u64 0, .int .i64 0], .agg #[.bool false, .int .u64 0, .int .u64 0, .int .i64 0]], []⟩ 8 (by kernel_rfl) (by kernel_rfl) (by kernel_rfl) (by kernel_rfl)) ?_
  intro W base args ds gs before hval0 hW _ _ _
  have hval : ∀ (j : Nat) t v, Try.f6.params[j]? = some t → args[j]? = some v → Value.okWide Try.prog W .any base t v := hval0
  have hW' := hW
  obtain ⟨p, q, hA0, hV, rfl, hfz, hnd⟩ := hW
  have hA : DataW.TrodAll enc Try.prog W 0 (fun _ => true) true Try.f6.params.toList args.toList ds p := hA0
  rw [Try.params6] at hA hval
  obtain ⟨v0, vs0, d0, ds0, p0, q0, hargs, rfl, rfl, h0, r0⟩ := trodAll_cons hA
  obtain ⟨v1, vs1, d1, ds1, p1, q1, rfl, rfl, rfl, h1, r1⟩ := trodAll_cons r0
  obtain ⟨rfl, rfl, rfl⟩ := trodAll_nil r1
  obtain rfl : args = #[v0, v1] := by cases args; simp_all
  obtain ⟨rfl, rfl⟩ := trodVars_none hV
  obtain ⟨n0, x0, y0, k0, rfl, rfl, rfl, wx0, wy0, wk0⟩ := frac_read (hval 0 39 v0 rfl rfl) h0
  obtain ⟨n1, x1, y1, k1, rfl, rfl, rfl, wx1, wy1, wk1⟩ := frac_read (hval 1 39 v1 rfl rfl) h1
  clear hA0 hval0
  simp only [List.append_nil] at hW'
  obtain ⟨lx0, mx0⟩ := bounds_u64 wx0
  obtain ⟨ly0, my0⟩ := bounds_u64 wy0
  obtain ⟨lk0, mk0⟩ := bounds_i64 wk0
  obtain ⟨lx1, mx1⟩ := bounds_u64 wx1
  obtain ⟨ly1, my1⟩ := bounds_u64 wy1
  obtain ⟨lk1, mk1⟩ := bounds_i64 wk1
  refine (lawExAddFrac n0 x0 y0 k0 n1 x1 y1 k1 lx0 (by omega) ly0 (by omega) lk0 mk0 lx1 (by omega) ly1 (by omega) lk1 mk1 W).mono fun e W' ⟨he, hB⟩ => ?_
  subst he
  refine ⟨_, rfl, _, _, _, [], [], [], hW', ?_, ?_, rfl, hB.frame _, fun h => by cases h⟩
  · exact trodAll_cons_mk (shut_bool Try.underlying4 _) trodAll_mk0
  · exact trodAll_cons_mk (frac_shut wx0 wy0 wk0) (trodAll_cons_mk (frac_shut wx1 wy1 wk1) trodAll_mk0)

theorem said : Rows.FnExactAddFracSaid :=
  OpenClaim.holds_of_wide 6 Try.f6 rfl rfl rfl rfl rfl rfl rfl ⟨rfl, rfl, rfl, rfl, rfl⟩ rfl rfl rfl rfl rfl (by kernel_rfl) Try.func6 (by kernel_rfl)
    (of_decide_eq_true (by kernel_rfl)) (by unfold Func.isWrapper; first | (rw [if_pos (by decide +kernel)]; kernel_rfl) | (rw [if_neg (by decide +kernel)]; exact ⟨rfl, rfl⟩))
    (fun os started H enc _ => lifted os started H enc)
end Go.Proofs.Ytapdocfifgnjgaa.fnExactAddFracP
