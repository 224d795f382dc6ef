/-
  FnLex is proved: whatever code is drawn from, chapter 1 of the program answers as the specification, words stand on lines that do not go back, a text with more blanks and a remark behind it has as many words, a number comes back from its text, and no text is an atom and a variable; the code is left as it was. Condition (the card ties it to the text): the program's tables of words, signs and lengths and the library's tables on the road hold what their initialisers lay.
-/
import Derived.Test.YtkomkhiinfdfmaaGreatDoorFnLexWalk
import Derived.Test.YtkomkhiinfdfmaaGreatDoorOpenBytes
import Derived.Test.YtkomkhiinfdfmaaGreatDoorFrame
import Derived.Test.YtkomkhiinfdfmaaGreatDoorCards
import Derived.Test.YtkomkhiinfdfmaaGreatDoorTie
import Derived.ShutString
import Derived.MakeChecks
namespace Go.Proofs.YtkomkhiinfdfmaaGreatDoor
namespace fnLex
open Go.ChangeShapes Go.WideShapes Go.ChangeAt Go.RowKit
open Go.ChangeMaps (open_string shut_string)
set_option linter.unusedVariables false

theorem own : ownKnob Tryz.prog.godebug = none := by kernel_rfl
theorem laidOut : laidOutB Tryz.prog = true := by kernel_rfl

theorem gKeys : Tryz.prog.globalNamed "loop.example/g00377/impl.keywords" = some 0 := by kernel_rfl
theorem tKeys : (Tryz.prog.globals[0]?).map (·.type) = some 137 := by kernel_rfl
theorem gSigns : Tryz.prog.globalNamed "loop.example/g00377/impl.signs" = some 3 := by kernel_rfl
theorem tSigns : (Tryz.prog.globals[3]?).map (·.type) = some 189 := by kernel_rfl
theorem gLens : Tryz.prog.globalNamed "loop.example/g00377/impl.signLengths" = some 1 := by kernel_rfl
theorem tLens : (Tryz.prog.globals[1]?).map (·.type) = some 155 := by kernel_rfl

theorem gPow : Tryz.prog.globalNamed "internal/strconv.uint64pow10" = some 4 := by kernel_rfl
theorem tPow : (Tryz.prog.globals[4]?).map (·.type) = some 192 := by kernel_rfl

/-- What the row's list gives: the program's three tables, and the powers of ten. -/
theorem tabsAt {W : World} (h : laidMetH Tryz.prog Rows.fnLexRow.laid W) : TabsAt W ∧ LensAt W ∧ PowAt W := by
  rw [MakeChecks.laidMetH_plain _ _ _ (by kernel_rfl)] at h
  obtain ⟨ps, ⟨_, _, _, _, _, _, _, _, _, _, ⟨_, _, _, _, _, _, _, _, _, _, hv0, _⟩, _⟩, _⟩ := h
  obtain ⟨hpw, q0, hv1⟩ := tabIs_of_vars (zs := Lib.pow10Tab) (rest := [("unicode/utf8.acceptRanges", Rows.laid_unicode_utf8_acceptRanges), ("loop.example/g00377/impl.keywords", Rows.laid_loop_example_g00377_impl_keywords), ("loop.example/g00377/impl.signs", Rows.laid_loop_example_g00377_impl_signs), ("loop.example/g00377/impl.signLengths", Rows.laid_loop_example_g00377_impl_signLengths), ("unicode/utf8.first", Rows.laid_unicode_utf8_first)]) gPow tPow Tryz.underlying192 Tryz.underlying174 (by kernel_rfl) (by kernel_rfl) hv0
  obtain ⟨_, _, _, _, _, _, _, _, _, _, hv2, _⟩ := hv1
  obtain ⟨h1, q1, hv3⟩ := strIs_of_vars (ss := keysL) (rest := [("loop.example/g00377/impl.signs", Rows.laid_loop_example_g00377_impl_signs), ("loop.example/g00377/impl.signLengths", Rows.laid_loop_example_g00377_impl_signLengths), ("unicode/utf8.first", Rows.laid_unicode_utf8_first)]) gKeys tKeys Tryz.underlying137 Tryz.underlying9 (by kernel_rfl) (by kernel_rfl) hv2
  obtain ⟨h2, q2, hv4⟩ := strIs_of_vars (ss := signsL) (rest := [("loop.example/g00377/impl.signLengths", Rows.laid_loop_example_g00377_impl_signLengths), ("unicode/utf8.first", Rows.laid_unicode_utf8_first)]) gSigns tSigns Tryz.underlying189 Tryz.underlying9 (by kernel_rfl) (by kernel_rfl) hv3
  have h3 := (tabIs_of_vars (zs := [2, 1]) (rest := [("unicode/utf8.first", Rows.laid_unicode_utf8_first)]) gLens tLens Tryz.underlying155 Tryz.underlying3 (by kernel_rfl) (by kernel_rfl) hv4).1
  exact ⟨⟨fun k hk => h1.cell gKeys k hk, fun k hk => h2.cell gSigns k hk⟩, ⟨h3.cell gLens 0 (by decide), h3.cell gLens 1 (by decide)⟩, hpw⟩

set_option maxRecDepth 100000 in
theorem contract (H : Type) (enc : TypeId × Value → H) (W : World) (base : Nat) (args : Array Value) (ds gs : List (DataW H)) (before : List MemPlace)
    (hval : ∀ (j : Nat) t v, Tryz.f4.params[j]? = some t → args[j]? = some v → Value.okWide Tryz.prog W .any base t v)
    (hW : DataW.Whole enc Tryz.prog Tryz.f4.params.toList Rows.fnLexSpec.vars false W args.toList ds gs before) (hL : laidMetH Tryz.prog Rows.fnLexRow.laid W) (hsh : W.ShapedOpen Tryz.prog) :
    Calls Tryz.prog 4 args W fun e W' => ∃ v, e = .returned v ∧ Rows.fnLexSpec.post enc Tryz.prog Tryz.f4 false true false false W args v W' := by
  have hW' := hW
  obtain ⟨p, q, hA0, hV, hps, hfz, hnd⟩ := hW
  have hA : DataW.TrodAll enc Tryz.prog W 0 (fun _ => true) true Tryz.f4.params.toList args.toList ds p := hA0
  rw [Tryz.params4] at hA hval
  clear hA0
  obtain ⟨v0, vs0, d0, ds0, p0, q0, hargs, rfl, hp, h0, r0⟩ := trodAll_cons hA
  obtain ⟨rfl, rfl, rfl⟩ := trodAll_nil r0
  obtain rfl : args = #[v0] := by cases args; simp_all
  obtain ⟨a0, l0, c0, rfl⟩ := okWide_slice Tryz.underlying35 (hval 0 35 v0 rfl rfl)
  obtain ⟨m0, g0⟩ := open_bytes Tryz.underlying35 (by kernel_rfl) Tryz.underlying5 rfl h0
  obtain ⟨m, hm⟩ := Tryz.laysM146.s1_3 W hsh
  refine (fnLex_walk _ m0 W ⟨(tabsAt hL).1, (tabsAt hL).2.1, (tabsAt hL).2.2, ⟨m, hm⟩, g0⟩).mono fun e W' ⟨he, hb⟩ => ?_
  subst he
  have hlen := trodVars_length hV
  match gs, hlen with
  | [g0, g1, g2], _ => exact ⟨_, rfl, post_true laidOut (by kernel_rfl) (by kernel_rfl) Tryz.underlying4 (by kernel_rfl) hW' rfl hb⟩

/-- A start: the heap that the door's run leaves, and the library's table of first bytes beside it. -/
noncomputable def laidWorld (os : Os) : World :=
  { World.doorLaid Tryz.prog 100 os with heap := (World.doorLaid Tryz.prog 100 os).heap.modify 5 fun
      | .cells _ t frozen => .cells (match Rows.laid_unicode_utf8_first with | .agg ds => (ds.map fun | .lit (.int k n) => Value.int k n | _ => undef).toArray | _ => #[]) t frozen
      | o => o }
set_option maxRecDepth 100000 in
theorem laid_met (os : Os) : laidMetH Tryz.prog Rows.fnLexRow.laid ((laidWorld os).forCall (fun _ _ => 0) ⟨#[], #[.slice none 0 0], []⟩).memory :=
  laidMetH_of_parts3 (fuel := 8) (laidMet_of_run' 8 (by kernel_rfl) (by kernel_rfl)) (by kernel_rfl) (by kernel_rfl)

set_option maxRecDepth 100000 in
theorem lifted (os : Os) (started : os.Started) (H : Type) (enc : TypeId × Value → H) (F : Stop.Interp) :
    ReturnsInHanded {} Tryz.checked os 4 .any ((OpenSpec.ofChange Rows.fnLexSpec).preRow enc Tryz.prog Tryz.f4 Rows.fnLexRow.domain false Rows.fnLexRow.laid) (((OpenSpec.ofChange Rows.fnLexSpec).at F).post enc Tryz.prog Tryz.f4 false true false false) := by
  refine returnsInHanded_of_row (C := Tryz.checked) (s := OpenSpec.ofChange Rows.fnLexSpec) own started (by kernel_rfl) Tryz.func4
    (witness_row_shaped (enc := enc) (C := Tryz.checked) (laidWorld os) #[.slice none 0 0] rfl (World.shaped_of_RefB (by kernel_rfl) (by kernel_rfl)) (by kernel_rfl)
      (preRow_of_bool 8 (fun _ _ => true) (fun k' hk' => by cases hk') (by kernel_rfl) (by kernel_rfl) (laid_met os))) ?_
  intro W base args ds gs before hval hW _ _ _ hL hsh _
  exact contract H enc W base args ds gs before hval hW hL hsh

theorem said : Rows.FnLexSaid :=
  OpenClaim.holds_of_cond 4 Tryz.f4 rfl rfl rfl rfl rfl rfl rfl ⟨rfl, rfl, rfl, rfl, rfl⟩ rfl rfl rfl rfl rfl (by kernel_rfl) Tryz.func4 (by kernel_rfl)
    (of_decide_eq_true (by kernel_rfl)) (by unfold Func.isWrapper; first | (rw [if_pos (by decide +kernel)]; kernel_rfl) | (rw [if_neg (by decide +kernel)]; exact ⟨rfl, rfl⟩))
    (fun os started H enc _ F => by rw [OpenClaim.pre_eq_preRow]; exact lifted os started H enc F)

theorem plain (f : FuncId) (fn : Func) (hf : Tryz.pinned.checked.prog.funcNamed "loop.example/g00377/laws.FnLex" = some f) (hfn : Tryz.pinned.checked.prog.funcs[f]? = some fn) :
    false = Tryz.pinned.checked.prog.looks [] ∧ ∀ (j : Nat) t, fn.params[j]? = some t → Tryz.pinned.checked.prog.wantsStandIn t = false := by
  obtain rfl : f = 4 := Option.some.inj ((show Tryz.prog.funcNamed "loop.example/g00377/laws.FnLex" = some 4 by kernel_rfl).symm.trans hf) |>.symm
  obtain rfl : fn = Tryz.f4 := (Option.some.inj (Tryz.func4.symm.trans hfn)).symm
  refine ⟨by kernel_rfl, fun j t ht => ?_⟩
  rw [Tryz.params4] at ht
  have hm : t ∈ [35] := by simpa using Array.mem_of_getElem? ht
  have hall : ([35].all fun u => !Tryz.prog.wantsStandIn u) = true := by kernel_rfl
  exact (show Tryz.prog.wantsStandIn t = false by simpa using List.all_eq_true.1 hall t hm)
end fnLex

/-- THE CARD. -/
theorem fnLex_holds : Rows.FnLexCardSaid :=
  Claim7.holds_tied_plain_at .later [] _ _ _ _ fnLex.said (fun _ h => by cases h) (by kernel_rfl) (fun _ h => by cases h) fnLex_row_tie rfl ⟨rfl, rfl⟩ (by kernel_rfl) rfl fnLex.plain (by kernel_rfl)
#print axioms fnLex_holds
end Go.Proofs.YtkomkhiinfdfmaaGreatDoor
