/-
  FnExactReadVal is proved: at every text ReadVal of the program answers as the specification's, a value and whether there is one, field by field; its answer lies in memory of its own, behind another call too; its argument is left as it was. Condition (the card ties it to the text): the program's table of the three words and the library's tables that strconv.Itoa reads hold what their initialisers lay.
-/
import Derived.Test.YtafehfpjogbmfaaDoorRvWalk
import Derived.Test.YtafehfpjogbmfaaDoorRvImplE
import Derived.Test.YtafehfpjogbmfaaDoorFrame
import Derived.Test.YtafehfpjogbmfaaDoorCards
import Derived.Test.YtafehfpjogbmfaaDoorTie
import Derived.ShutString
import Derived.MakeChecks
namespace Go.Proofs.YtafehfpjogbmfaaDoor
namespace fnExactReadVal
open Go.ChangeShapes Go.WideShapes Go.ChangeAt Go.RowKit
open Go.ChangeMaps (open_string shut_string)
set_option linter.unusedVariables false

theorem own : ownKnob Tryd.prog.godebug = none := by kernel_rfl
theorem laidOut : laidOutB Tryd.prog = true := by kernel_rfl

theorem gKeys : Tryd.prog.globalNamed "loop.example/g00377/impl.keywords" = some 0 := by kernel_rfl
theorem tKeys : (Tryd.prog.globals[0]?).map (·.type) = some 78 := by kernel_rfl
theorem gPow : Tryd.prog.globalNamed "internal/strconv.uint64pow10" = some 2 := by kernel_rfl
theorem tPow : (Tryd.prog.globals[2]?).map (·.type) = some 87 := by kernel_rfl

/-- What the row's list gives: the three words, and the table of powers. -/
theorem tabsAt {W : World} (h : laidMetH Tryd.prog Rows.fnExactReadValRow.laid W) : KeysAt W ∧ PowAt W := by
  rw [MakeChecks.laidMetH_plain _ _ _ (by kernel_rfl)] at h
  obtain ⟨ps, ⟨_, _, _, _, _, _, _, _, _, _, ⟨_, _, _, _, _, _, _, _, _, _, hv0, _⟩, _⟩, _⟩ := h
  obtain ⟨hpw, q0, hv1⟩ := tabIs_of_vars (zs := Lib.pow10Tab) (rest := [("loop.example/g00377/impl.keywords", Rows.laid_loop_example_g00377_impl_keywords)]) gPow tPow Tryd.underlying87 Tryd.underlying81 (by kernel_rfl) (by kernel_rfl) hv0
  have h1 := (strIs_of_vars (ss := [[99, 97, 115, 101], [111, 102], [101, 110, 100]]) (rest := []) gKeys tKeys Tryd.underlying78 Tryd.underlying9 (by kernel_rfl) (by kernel_rfl) hv1).1
  exact ⟨⟨h1.cell gKeys 0 (by decide), h1.cell gKeys 1 (by decide), h1.cell gKeys 2 (by decide)⟩, hpw⟩

set_option maxRecDepth 100000 in
theorem contract (H : Type) (enc : TypeId × Value → H) (W : World) (base : Nat) (args : Array Value) (ds gs : List (DataW H)) (before : List MemPlace)
    (hval : ∀ (j : Nat) t v, Tryd.f3.params[j]? = some t → args[j]? = some v → Value.okWide Tryd.prog W .any base t v)
    (hW : DataW.Whole enc Tryd.prog Tryd.f3.params.toList Rows.fnExactReadValSpec.vars false W args.toList ds gs before) (hL : laidMetH Tryd.prog Rows.fnExactReadValRow.laid W) :
    Calls Tryd.prog 3 args W fun e W' => ∃ v, e = .returned v ∧ Rows.fnExactReadValSpec.post enc Tryd.prog Tryd.f3 false true false false W args v W' := by
  have hW' := hW
  obtain ⟨p, q, hA0, hV, hps, hfz, hnd⟩ := hW
  have hA : DataW.TrodAll enc Tryd.prog W 0 (fun _ => true) true Tryd.f3.params.toList args.toList ds p := hA0
  rw [Tryd.params3] at hA hval
  clear hA0
  obtain ⟨v0, vs0, d0, ds0, p0, q0, hargs, rfl, hp, h0, r0⟩ := trodAll_cons hA
  obtain ⟨rfl, rfl, rfl⟩ := trodAll_nil r0
  obtain rfl : args = #[v0] := by cases args; simp_all
  obtain ⟨a0, rfl, rfl, -, w0⟩ := open_string Tryd.underlying9 (hval 0 9 v0 rfl rfl) h0
  refine (fnExactReadVal_walk W a0 w0 (fun hs w' hb => implReadVal_any hs w' ((tabsAt hL).1.below hb) (powAt_below (tabsAt hL).2 hb))).mono fun e W' ⟨he, hb⟩ => ?_
  subst he
  have hlen := trodVars_length hV
  match gs, hlen with
  | [g0], _ => exact ⟨_, rfl, post_true laidOut (by kernel_rfl) (by kernel_rfl) Tryd.underlying4 (by kernel_rfl) hW' rfl hb⟩

set_option maxRecDepth 100000 in
theorem laid_met (os : Os) : laidMetH Tryd.prog Rows.fnExactReadValRow.laid ((World.doorLaid Tryd.prog 100 os).forCall (fun _ _ => 0) ⟨#[], #[.string ByteArray.empty], []⟩).memory :=
  laidMetH_of_parts3 (fuel := 8) (laidMet_of_run' 8 (by kernel_rfl) (by kernel_rfl)) (by kernel_rfl) (by kernel_rfl)

set_option maxRecDepth 100000 in
theorem lifted (os : Os) (started : os.Started) (H : Type) (enc : TypeId × Value → H) (F : Stop.Interp) :
    ReturnsInHanded {} Tryd.checked os 3 .any ((OpenSpec.ofChange Rows.fnExactReadValSpec).preRow enc Tryd.prog Tryd.f3 Rows.fnExactReadValRow.domain false Rows.fnExactReadValRow.laid) (((OpenSpec.ofChange Rows.fnExactReadValSpec).at F).post enc Tryd.prog Tryd.f3 false true false false) := by
  refine returnsInHanded_of_row (C := Tryd.checked) (s := OpenSpec.ofChange Rows.fnExactReadValSpec) own started (by kernel_rfl) Tryd.func3
    (witness_row_shaped (enc := enc) (C := Tryd.checked) (World.doorLaid Tryd.prog 100 os) #[.string ByteArray.empty] rfl (World.shaped_of_RefB (by kernel_rfl) (by kernel_rfl)) (by kernel_rfl)
      (preRow_of_bool 8 (fun _ _ => true) (fun k' hk' => by cases hk') (by kernel_rfl) (by kernel_rfl) (laid_met os))) ?_
  intro W base args ds gs before hval hW _ _ _ hL hsh _
  exact contract H enc W base args ds gs before hval hW hL

theorem said : Rows.FnExactReadValSaid :=
  OpenClaim.holds_of_cond 3 Tryd.f3 rfl rfl rfl rfl rfl rfl rfl ⟨rfl, rfl, rfl, rfl, rfl⟩ rfl rfl rfl rfl rfl (by kernel_rfl) Tryd.func3 (by kernel_rfl)
    (of_decide_eq_true (by kernel_rfl)) (by unfold Func.isWrapper; first | (rw [if_pos (by decide +kernel)]; kernel_rfl) | (rw [if_neg (by decide +kernel)]; exact ⟨rfl, rfl⟩))
    (fun os started H enc _ F => by rw [OpenClaim.pre_eq_preRow]; exact lifted os started H enc F)

theorem plain (f : FuncId) (fn : Func) (hf : Tryd.pinned.checked.prog.funcNamed "loop.example/g00377/laws.FnExactReadVal" = some f) (hfn : Tryd.pinned.checked.prog.funcs[f]? = some fn) :
    true = Tryd.pinned.checked.prog.looks [] ∧ ∀ (j : Nat) t, fn.params[j]? = some t → Tryd.pinned.checked.prog.wantsStandIn t = false := by
  obtain rfl : f = 3 := Option.some.inj ((show Tryd.prog.funcNamed "loop.example/g00377/laws.FnExactReadVal" = some 3 by kernel_rfl).symm.trans hf) |>.symm
  obtain rfl : fn = Tryd.f3 := (Option.some.inj (Tryd.func3.symm.trans hfn)).symm
  refine ⟨by kernel_rfl, fun j t ht => ?_⟩
  rw [Tryd.params3] at ht
  have hm : t ∈ [9] := by simpa using Array.mem_of_getElem? ht
  have hall : ([9].all fun u => !Tryd.prog.wantsStandIn u) = true := by kernel_rfl
  exact (show Tryd.prog.wantsStandIn t = false by simpa using List.all_eq_true.1 hall t hm)
end fnExactReadVal

/-- THE CARD. -/
theorem fnExactReadVal_holds : Rows.FnExactReadValCardSaid :=
  Claim7.holds_tied_plain_at .later [] _ _ _ _ fnExactReadVal.said (fun _ h => by cases h) (by kernel_rfl) (fun _ h => by cases h) fnExactReadVal_row_tie rfl ⟨rfl, rfl⟩ (by kernel_rfl) rfl fnExactReadVal.plain (by kernel_rfl)
#print axioms fnExactReadVal_holds
end Go.Proofs.YtafehfpjogbmfaaDoor
