/-
  FnExactVars is proved: at every expression Vars of the program answers as the specification's, name by name; its answer lies in memory of its own, behind another call too; its argument is left as it was. No conditions.
-/
import Derived.Test.YtgmcjmmdhfbfpaaVarsWalk
import Derived.Test.YtgmcjmmdhfbfpaaNameSpecG
import Derived.Test.YtgmcjmmdhfbfpaaNameImplD
import Derived.Test.YtgmcjmmdhfbfpaaFrame
import Derived.ShutString
namespace Go.Proofs.Ytgmcjmmdhfbfpaa
namespace fnExactVars
open Go.ChangeShapes Go.WideShapes Go.ChangeAt Go.RowKit
open Go.ChangeMaps (open_string shut_string)
set_option linter.unusedVariables false

theorem own : ownKnob Try.prog.godebug = none := by kernel_rfl
theorem laidOut : laidOutB Try.prog = true := by kernel_rfl

theorem exTypes : ExTypes Try.prog 25 22 56 23 3 9 where
  e := ⟨_, Try.underlying25, by kernel_rfl⟩
  c := ⟨_, Try.underlying56, by kernel_rfl⟩
  es := Try.underlying22
  cs := Try.underlying23
  i := Try.underlying3
  s := Try.underlying9
  ce := by kernel_rfl
  cc := by kernel_rfl
  ci := by kernel_rfl
  cS := by kernel_rfl
  ces := by kernel_rfl
  ccs := by kernel_rfl
theorem ex_agg {w : World} {S : Nat → Prop} {d : Nat} {v : Value} {x : Ex} (h : HEx w S d v.cells.toList x) : ∃ cs : List Value, v = .agg cs.toArray ∧ HEx w S d cs x :=
  ⟨v.cells.toList, agg_of_cells rfl (by obtain ⟨_, _, _, _, _, _, _, _, _, _, e⟩ := HEx.shapeN h; rw [e]; simp), h⟩
theorem lenF (d : Nat) (x : Ex) (hw : wtEx (d + 1) x ≤ 1048576) : (sortS (allV (d + 1) x)).length ≤ 2097152 := by
  have h1 := sortS_len (allV (d + 1) x) (allV (d + 1) x).length
  rw [List.take_of_length_le (Nat.le_refl _)] at h1
  have h2 := (allV_nd (d + 1) x).len (allV_sub (d + 1) x)
  have h3 := varL_len (d + 1) x
  omega

set_option maxRecDepth 100000 in
theorem contract (H : Type) (enc : TypeId × Value → H) (W : World) (base : Nat) (args : Array Value) (ds gs : List (DataW H)) (before : List MemPlace)
    (hval : ∀ (j : Nat) t v, Try.f3.params[j]? = some t → args[j]? = some v → Value.okWide Try.prog W .any base t v)
    (hW : DataW.Whole enc Try.prog Try.f3.params.toList Rows.fnExactVarsSpec.vars false W args.toList ds gs before) :
    Calls Try.prog 3 args W fun e W' => ∃ v, e = .returned v ∧ Rows.fnExactVarsSpec.post enc Try.prog Try.f3 false true false false W args v W' := by
  have hW' := hW
  obtain ⟨p, q, hA0, hV, hps, hfz, hnd⟩ := hW
  have hA : DataW.TrodAll enc Try.prog W 0 (fun _ => true) true Try.f3.params.toList args.toList ds p := hA0
  rw [Try.params3] at hA hval
  clear hA0
  obtain ⟨v0, vs0, d0, ds0, p0, q0, hargs, rfl, hp, h0, r0⟩ := trodAll_cons hA
  obtain ⟨rfl, rfl, rfl⟩ := trodAll_nil r0
  obtain rfl : args = #[v0] := by cases args; simp_all
  obtain ⟨e0, h0⟩ := h0
  obtain ⟨m0, g0'⟩ := open_ex exTypes (e0 + 1) e0 (Nat.lt_succ_self _) _ _ h0
  obtain ⟨cs0, rfl, g0⟩ := ex_agg g0'
  refine (fnExactVars_walk W e0 _ m0 (sortS (allV (e0 + 1) m0)) g0 (lenF e0 m0) (fun w cs h hw => specVars_any w (e0 + 1) cs m0 h hw) (fun w cs h hw => implVars_any w (e0 + 1) cs m0 h hw)).mono fun e W' ⟨he, hb⟩ => ?_
  subst he
  have hlen := trodVars_length hV
  match gs, hlen with
  | [], _ => exact ⟨_, rfl, post_true laidOut (by kernel_rfl) (by kernel_rfl) Try.underlying4 (by kernel_rfl) hW' rfl hb⟩

set_option maxRecDepth 100000 in
theorem lifted (os : Os) (started : os.Started) (H : Type) (enc : TypeId × Value → H) (F : Stop.Interp) :
    ReturnsInHanded {} Try.checked os 3 .any ((OpenSpec.ofChange Rows.fnExactVarsSpec).preRow enc Try.prog Try.f3 Rows.fnExactVarsRow.domain false Rows.fnExactVarsRow.laid) (((OpenSpec.ofChange Rows.fnExactVarsSpec).at F).post enc Try.prog Try.f3 false true false false) := by
  refine returnsInHanded_of_row (C := Try.checked) (s := OpenSpec.ofChange Rows.fnExactVarsSpec) own started (by kernel_rfl) Try.func3
    (witness_row_shaped (enc := enc) (C := Try.checked) (World.holding Try.prog os ⟨#[], #[], []⟩) #[.agg #[.int .i64 0, .int .i64 0, .string ByteArray.empty, .string ByteArray.empty, .slice none 0 0, .slice none 0 0]] rfl (World.shaped_of_RefB (by kernel_rfl) (by kernel_rfl)) (by kernel_rfl)
      (preRow_of_bool 8 (fun _ _ => true) (fun k' hk' => by cases hk') (by kernel_rfl) (by kernel_rfl) (laidMetH_nil _ _))) ?_
  intro W base args ds gs before hval hW _ _ _ hL hsh _
  exact contract H enc W base args ds gs before hval hW

theorem said : Rows.FnExactVarsSaid :=
  OpenClaim.holds_of_cond 3 Try.f3 rfl rfl rfl rfl rfl rfl rfl ⟨rfl, rfl, rfl, rfl, rfl⟩ rfl rfl rfl rfl rfl (by kernel_rfl) Try.func3 (by kernel_rfl)
    (of_decide_eq_true (by kernel_rfl)) (by unfold Func.isWrapper; first | (rw [if_pos (by decide +kernel)]; kernel_rfl) | (rw [if_neg (by decide +kernel)]; exact ⟨rfl, rfl⟩))
    (fun os started H enc _ F => by rw [OpenClaim.pre_eq_preRow]; exact lifted os started H enc F)

end fnExactVars

/-- THE STATEMENT. -/
theorem fnExactVars_holds : Rows.FnExactVarsSaid := fnExactVars.said
#print axioms fnExactVars_holds
end Go.Proofs.Ytgmcjmmdhfbfpaa
