/-
  FnValue is proved: whatever code is drawn from, chapter 3 of the program answers as the specification, values are in one order, what fits a pattern fits it again with what was bound; the code is left as it was. Condition (the card ties it to the text): the program's table of the three words and the library's tables that strconv.Itoa reads hold what their initialisers lay.
-/
import Derived.Test.YtmnghlkkfkpjhaaGreatDoorPackT
import Derived.Test.YtmnghlkkfkpjhaaGreatDoorPackU
import Derived.Test.YtmnghlkkfkpjhaaGreatDoorCards
import Derived.Test.YtmnghlkkfkpjhaaGreatDoorTie
import Derived.ShutString
import Derived.MakeChecks
namespace Go.Proofs.YtmnghlkkfkpjhaaGreatDoor
namespace fnValue
open Go.ChangeShapes Go.WideShapes Go.ChangeAt Go.RowKit
open Go.ChangeMaps (open_string shut_string)
set_option linter.unusedVariables false

theorem own : ownKnob Tryz.prog.godebug = none := by kernel_rfl
theorem laidOut : laidOutB Tryz.prog = true := by kernel_rfl

theorem gKeys : Tryz.prog.globalNamed "loop.example/g00377/impl.keywords" = some 1 := by kernel_rfl
theorem tKeys : (Tryz.prog.globals[1]?).map (·.type) = some 107 := by kernel_rfl
theorem gPow : Tryz.prog.globalNamed "internal/strconv.uint64pow10" = some 2 := by kernel_rfl
theorem tPow : (Tryz.prog.globals[2]?).map (·.type) = some 117 := by kernel_rfl

/-- What the row's list gives: the three words, and the table of powers. -/
theorem tabsAt {W : World} (h : laidMetH Tryz.prog Rows.fnValueRow.laid W) : KeysAt W ∧ PowAt W := by
  rw [MakeChecks.laidMetH_plain _ _ _ (by kernel_rfl)] at h
  obtain ⟨ps, ⟨_, _, _, _, _, _, _, _, _, _, ⟨_, _, _, _, _, _, _, _, _, _, hv0, _⟩, _⟩, _⟩ := h
  obtain ⟨hpw, q0, hv1⟩ := tabIs_of_vars (zs := Lib.pow10Tab) (rest := [("loop.example/g00377/impl.keywords", Rows.laid_loop_example_g00377_impl_keywords)]) gPow tPow Tryz.underlying117 Tryz.underlying110 (by kernel_rfl) (by kernel_rfl) hv0
  have h1 := (strIs_of_vars (ss := [[99, 97, 115, 101], [111, 102], [101, 110, 100]]) (rest := []) gKeys tKeys Tryz.underlying107 Tryz.underlying9 (by kernel_rfl) (by kernel_rfl) hv1).1
  exact ⟨⟨h1.cell gKeys 0 (by decide), h1.cell gKeys 1 (by decide), h1.cell gKeys 2 (by decide)⟩, hpw⟩

set_option maxRecDepth 100000 in
theorem contract (H : Type) (enc : TypeId × Value → H) (W : World) (base : Nat) (args : Array Value) (ds gs : List (DataW H)) (before : List MemPlace)
    (hval : ∀ (j : Nat) t v, Tryz.f3.params[j]? = some t → args[j]? = some v → Value.okWide Tryz.prog W .any base t v)
    (hW : DataW.Whole enc Tryz.prog Tryz.f3.params.toList Rows.fnValueSpec.vars false W args.toList ds gs before) (hL : laidMetH Tryz.prog Rows.fnValueRow.laid W) :
    Calls Tryz.prog 3 args W fun e W' => ∃ v, e = .returned v ∧ Rows.fnValueSpec.post enc Tryz.prog Tryz.f3 false true false false W args v W' := by
  have hW' := hW
  obtain ⟨p, q, hA0, hV, hps, hfz, hnd⟩ := hW
  have hA : DataW.TrodAll enc Tryz.prog W 0 (fun _ => true) true Tryz.f3.params.toList args.toList ds p := hA0
  rw [Tryz.params3] at hA hval
  clear hA0
  obtain ⟨v0, vs0, d0, ds0, p0, q0, hargs, rfl, hp, h0, r0⟩ := trodAll_cons hA
  obtain ⟨rfl, rfl, rfl⟩ := trodAll_nil r0
  obtain rfl : args = #[v0] := by cases args; simp_all
  obtain ⟨a0, l0, c0, rfl⟩ := okWide_slice Tryz.underlying22 (hval 0 22 v0 rfl rfl)
  obtain ⟨m0, g0⟩ := open_bytes Tryz.underlying22 (by kernel_rfl) Tryz.underlying5 rfl h0
  refine (fnValue_walk _ m0 W ⟨(tabsAt hL).1, (tabsAt hL).2, g0⟩).mono fun e W' ⟨he, hb⟩ => ?_
  subst he
  have hlen := trodVars_length hV
  match gs, hlen with
  | [g0], _ => exact ⟨_, rfl, post_true laidOut (by kernel_rfl) (by kernel_rfl) Tryz.underlying4 (by kernel_rfl) hW' rfl hb⟩

set_option maxRecDepth 100000 in
theorem laid_met (os : Os) : laidMetH Tryz.prog Rows.fnValueRow.laid ((World.doorLaid Tryz.prog 200 os).forCall (fun _ _ => 0) ⟨#[], #[.slice none 0 0], []⟩).memory :=
  laidMetH_of_parts3 (fuel := 8) (laidMet_of_run' 8 (by kernel_rfl) (by kernel_rfl)) (by kernel_rfl) (by kernel_rfl)

set_option maxRecDepth 100000 in
theorem lifted (os : Os) (started : os.Started) (H : Type) (enc : TypeId × Value → H) (F : Stop.Interp) :
    ReturnsInHanded {} Tryz.checked os 3 .any ((OpenSpec.ofChange Rows.fnValueSpec).preRow enc Tryz.prog Tryz.f3 Rows.fnValueRow.domain false Rows.fnValueRow.laid) (((OpenSpec.ofChange Rows.fnValueSpec).at F).post enc Tryz.prog Tryz.f3 false true false false) := by
  refine returnsInHanded_of_row (C := Tryz.checked) (s := OpenSpec.ofChange Rows.fnValueSpec) own started (by kernel_rfl) Tryz.func3
    (witness_row_shaped (enc := enc) (C := Tryz.checked) (World.doorLaid Tryz.prog 200 os) #[.slice none 0 0] rfl (World.shaped_of_RefB (by kernel_rfl) (by kernel_rfl)) (by kernel_rfl)
      (preRow_of_bool 8 (fun _ _ => true) (fun k' hk' => by cases hk') (by kernel_rfl) (by kernel_rfl) (laid_met os))) ?_
  intro W base args ds gs before hval hW _ _ _ hL hsh _
  exact contract H enc W base args ds gs before hval hW hL

theorem said : Rows.FnValueSaid :=
  OpenClaim.holds_of_cond 3 Tryz.f3 rfl rfl rfl rfl rfl rfl rfl ⟨rfl, rfl, rfl, rfl, rfl⟩ rfl rfl rfl rfl rfl (by kernel_rfl) Tryz.func3 (by kernel_rfl)
    (of_decide_eq_true (by kernel_rfl)) (by unfold Func.isWrapper; first | (rw [if_pos (by decide +kernel)]; kernel_rfl) | (rw [if_neg (by decide +kernel)]; exact ⟨rfl, rfl⟩))
    (fun os started H enc _ F => by rw [OpenClaim.pre_eq_preRow]; exact lifted os started H enc F)

theorem plain (f : FuncId) (fn : Func) (hf : Tryz.pinned.checked.prog.funcNamed "loop.example/g00377/laws.FnValue" = some f) (hfn : Tryz.pinned.checked.prog.funcs[f]? = some fn) :
    true = Tryz.pinned.checked.prog.looks [] ∧ ∀ (j : Nat) t, fn.params[j]? = some t → Tryz.pinned.checked.prog.wantsStandIn t = false := by
  obtain rfl : f = 3 := Option.some.inj ((show Tryz.prog.funcNamed "loop.example/g00377/laws.FnValue" = some 3 by kernel_rfl).symm.trans hf) |>.symm
  obtain rfl : fn = Tryz.f3 := (Option.some.inj (Tryz.func3.symm.trans hfn)).symm
  refine ⟨by kernel_rfl, fun j t ht => ?_⟩
  rw [Tryz.params3] at ht
  have hm : t ∈ [22] := by simpa using Array.mem_of_getElem? ht
  have hall : ([22].all fun u => !Tryz.prog.wantsStandIn u) = true := by kernel_rfl
  exact (show Tryz.prog.wantsStandIn t = false by simpa using List.all_eq_true.1 hall t hm)
end fnValue

/-- THE CARD. -/
theorem fnValue_holds : Rows.FnValueCardSaid :=
  Claim7.holds_tied_plain_at .later [] _ _ _ _ fnValue.said (fun _ h => by cases h) (by kernel_rfl) (fun _ h => by cases h) fnValue_row_tie rfl ⟨rfl, rfl⟩ (by kernel_rfl) rfl fnValue.plain (by kernel_rfl)
#print axioms fnValue_holds
end Go.Proofs.YtmnghlkkfkpjhaaGreatDoor
