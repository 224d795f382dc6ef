/-
  FnExactSameResult is proved: at every two results SameResult of the program answers as the specification's, and its arguments are left as they were. No conditions.
-/
import Derived.Test.YtcjipfdancbkgaaSameResWalk
import Derived.Test.YtcjipfdancbkgaaFrame
import Derived.ShutString
namespace Go.Proofs.Ytcjipfdancbkgaa
namespace fnExactSameResult
open Go.ChangeShapes Go.WideShapes Go.ChangeAt Go.RowKit
open Go.ChangeMaps (open_string shut_string)
set_option linter.unusedVariables false

theorem own : ownKnob Try.prog.godebug = none := by kernel_rfl
theorem laidOut : laidOutB Try.prog = true := by kernel_rfl

theorem vaTypes : VaTypes Try.prog 24 22 3 9 where
  v := ⟨_, Try.underlying24, by kernel_rfl⟩
  vs := Try.underlying22
  i := Try.underlying3
  s := Try.underlying9
  cv := by kernel_rfl
  ci := by kernel_rfl
  cS := by kernel_rfl
  cvs := by kernel_rfl

set_option maxRecDepth 100000 in
theorem contract (H : Type) (enc : TypeId × Value → H) (W : World) (base : Nat) (args : Array Value) (ds gs : List (DataW H)) (before : List MemPlace)
    (hval : ∀ (j : Nat) t v, Try.f3.params[j]? = some t → args[j]? = some v → Value.okWide Try.prog W .any base t v)
    (hW : DataW.Whole enc Try.prog Try.f3.params.toList Rows.fnExactSameResultSpec.vars false W args.toList ds gs before) :
    Calls Try.prog 3 args W fun e W' => ∃ v, e = .returned v ∧ Rows.fnExactSameResultSpec.post enc Try.prog Try.f3 false true false false W args v W' := by
  have hW' := hW
  obtain ⟨p, q, hA0, hV, hps, hfz, hnd⟩ := hW
  have hA : DataW.TrodAll enc Try.prog W 0 (fun _ => true) true Try.f3.params.toList args.toList ds p := hA0
  rw [Try.params3] at hA hval
  clear hA0
  obtain ⟨v0, vs0, d0, ds0, p0, q0, hargs, rfl, hp, h0, r0⟩ := trodAll_cons hA
  obtain ⟨v1, vs1, d1, ds1, p1, q1, rfl, rfl, rfl, h1, r1⟩ := trodAll_cons r0
  obtain ⟨rfl, rfl, rfl⟩ := trodAll_nil r1
  obtain rfl : args = #[v0, v1] := by cases args; simp_all
  obtain ⟨e0, m0, g0'⟩ := open_re vaTypes ⟨_, Try.underlying26, by kernel_rfl⟩ (by kernel_rfl) h0
  obtain ⟨cs0, rfl, g0⟩ := g0'.agg
  obtain ⟨e1, m1, g1'⟩ := open_re vaTypes ⟨_, Try.underlying26, by kernel_rfl⟩ (by kernel_rfl) h1
  obtain ⟨cs1, rfl, g1⟩ := g1'.agg
  refine (fnExactSameResult_walk W (max e0 e1) _ _ m0 m1 (g0.deeper (Nat.le_max_left _ _)) (g1.deeper (Nat.le_max_right _ _))).mono fun e W' ⟨he, hb⟩ => ?_
  subst he
  have hlen := trodVars_length hV
  match gs, hlen with
  | [], _ => exact ⟨_, rfl, post_true laidOut (by kernel_rfl) (by kernel_rfl) Try.underlying4 (by kernel_rfl) hW' rfl hb⟩

set_option maxRecDepth 100000 in
theorem lifted (os : Os) (started : os.Started) (H : Type) (enc : TypeId × Value → H) (F : Stop.Interp) :
    ReturnsInHanded {} Try.checked os 3 .any ((OpenSpec.ofChange Rows.fnExactSameResultSpec).preRow enc Try.prog Try.f3 Rows.fnExactSameResultRow.domain false Rows.fnExactSameResultRow.laid) (((OpenSpec.ofChange Rows.fnExactSameResultSpec).at F).post enc Try.prog Try.f3 false true false false) := by
  refine returnsInHanded_of_row (C := Try.checked) (s := OpenSpec.ofChange Rows.fnExactSameResultSpec) own started (by kernel_rfl) Try.func3
    (witness_row_shaped (enc := enc) (C := Try.checked) (World.holding Try.prog os ⟨#[], #[], []⟩) #[.agg #[.int .i64 0, .string ByteArray.empty, .int .i64 0, .int .i64 0, .string ByteArray.empty, .slice none 0 0, .slice none 0 0], .agg #[.int .i64 0, .string ByteArray.empty, .int .i64 0, .int .i64 0, .string ByteArray.empty, .slice none 0 0, .slice none 0 0]] rfl (World.shaped_of_RefB (by kernel_rfl) (by kernel_rfl)) (by kernel_rfl)
      (preRow_of_bool 8 (fun _ _ => true) (fun k' hk' => by cases hk') (by kernel_rfl) (by kernel_rfl) (laidMetH_nil _ _))) ?_
  intro W base args ds gs before hval hW _ _ _ hL hsh _
  exact contract H enc W base args ds gs before hval hW

theorem said : Rows.FnExactSameResultSaid :=
  OpenClaim.holds_of_cond 3 Try.f3 rfl rfl rfl rfl rfl rfl rfl ⟨rfl, rfl, rfl, rfl, rfl⟩ rfl rfl rfl rfl rfl (by kernel_rfl) Try.func3 (by kernel_rfl)
    (of_decide_eq_true (by kernel_rfl)) (by unfold Func.isWrapper; first | (rw [if_pos (by decide +kernel)]; kernel_rfl) | (rw [if_neg (by decide +kernel)]; exact ⟨rfl, rfl⟩))
    (fun os started H enc _ F => by rw [OpenClaim.pre_eq_preRow]; exact lifted os started H enc F)

end fnExactSameResult

/-- THE STATEMENT. -/
theorem fnExactSameResult_holds : Rows.FnExactSameResultSaid := fnExactSameResult.said
#print axioms fnExactSameResult_holds
end Go.Proofs.Ytcjipfdancbkgaa
