/-
  FnExactVarsAt is proved: at every row of modules and every place VarsAt of the program answers as the specification's, text by text; its answer lies in memory of its own, behind another call too; its arguments are left as they were. Condition (the card ties it to the program's text): the variable of the three words and the table of what a kind has hold what their initialisers lay.
-/
import Derived.Test.YtoknolophmhlgaaGreatDoorPackS
import Derived.Test.YtoknolophmhlgaaGreatDoorPackT
import Derived.Test.YtoknolophmhlgaaGreatDoorCards
import Derived.Test.YtoknolophmhlgaaGreatDoorTie
import Derived.ShutString
import Derived.MakeChecks
namespace Go.Proofs.YtoknolophmhlgaaGreatDoor
namespace fnExactVarsAt
open Go.ChangeShapes Go.WideShapes Go.ChangeAt Go.RowKit
open Go.ChangeMaps (open_string shut_string)
set_option linter.unusedVariables false

theorem own : ownKnob Tryz.prog.godebug = none := by kernel_rfl
theorem laidOut : laidOutB Tryz.prog = true := by kernel_rfl

theorem mdTypes : MdTypes Tryz.prog 156 131 133 93 3 9 91 39 95 40 42 where
  e := ⟨_, Tryz.underlying156, by kernel_rfl⟩
  c := ⟨_, Tryz.underlying133, by kernel_rfl⟩
  es := Tryz.underlying131
  cs := Tryz.underlying93
  i := Tryz.underlying3
  s := Tryz.underlying9
  ce := by kernel_rfl
  cc := by kernel_rfl
  ci := by kernel_rfl
  cS := by kernel_rfl
  ces := by kernel_rfl
  ccs := by kernel_rfl
  r := ⟨_, Tryz.underlying91, by kernel_rfl⟩
  f := ⟨_, Tryz.underlying95, by kernel_rfl⟩
  m := ⟨_, Tryz.underlying42, by kernel_rfl⟩
  rs := Tryz.underlying39
  fs := Tryz.underlying40
  cr := by kernel_rfl
  cf := by kernel_rfl
  cm := by kernel_rfl
  crs := by kernel_rfl
  cfs := by kernel_rfl
theorem gKeys : Tryz.prog.globalNamed "loop.example/g00377/impl.keywords" = some 0 := by kernel_rfl
theorem tKeys : (Tryz.prog.globals[0]?).map (·.type) = some 137 := by kernel_rfl
theorem gShapes : Tryz.prog.globalNamed "loop.example/g00377/impl.shapes" = some 2 := by kernel_rfl
theorem tShapes : (Tryz.prog.globals[2]?).map (·.type) = some 182 := by kernel_rfl
def grid : List (List Int) := [[0, 0, 0, 0, 0], [1, 0, 0, 0, 0], [2, 0, 0, 0, 0], [0, 0, 0, 0, 0], [0, 1, 20, 0, 0], [0, 0, 0, 0, 0], [0, 2, 2, 0, 0], [3, 2, 2, 0, 0], [1, 0, 6, 0, 0], [0, 2, 2, 0, 0], [0, 1, 1, 1, 20]]

/-- What the row's list gives. -/
theorem tabsAt {W : World} (h : laidMetH Tryz.prog Rows.fnExactVarsAtRow.laid W) : Tabs W := by
  rw [MakeChecks.laidMetH_plain _ _ _ (by kernel_rfl)] at h
  obtain ⟨ps, hv, _⟩ := h
  obtain ⟨h1, q, hq⟩ := strIs_of_vars (ss := [[99, 97, 115, 101], [111, 102], [101, 110, 100]]) (rest := [("loop.example/g00377/impl.shapes", gridTab grid)]) gKeys tKeys Tryz.underlying137 Tryz.underlying9 (by kernel_rfl) (by kernel_rfl) hv
  have h2 := gridIs_of_vars (rs := grid) (rest := []) gShapes tShapes Tryz.underlying182 Tryz.underlying181 Tryz.underlying3 (c := 5) (by kernel_rfl) (by kernel_rfl) (by kernel_rfl) hq
  refine ⟨⟨h1.cell gKeys 0 (by decide), h1.cell gKeys 1 (by decide), h1.cell gKeys 2 (by decide)⟩, fun k hk => ?_⟩
  match k, hk with
  | 0, _ => exact ⟨by simpa [txtK, kidLo, kidHi, clsLo, clsHi] using h2 0 _ 0 _ rfl rfl, by simpa [txtK, kidLo, kidHi, clsLo, clsHi] using h2 0 _ 1 _ rfl rfl, by simpa [txtK, kidLo, kidHi, clsLo, clsHi] using h2 0 _ 2 _ rfl rfl, by simpa [txtK, kidLo, kidHi, clsLo, clsHi] using h2 0 _ 3 _ rfl rfl, by simpa [txtK, kidLo, kidHi, clsLo, clsHi] using h2 0 _ 4 _ rfl rfl⟩
  | 1, _ => exact ⟨by simpa [txtK, kidLo, kidHi, clsLo, clsHi] using h2 1 _ 0 _ rfl rfl, by simpa [txtK, kidLo, kidHi, clsLo, clsHi] using h2 1 _ 1 _ rfl rfl, by simpa [txtK, kidLo, kidHi, clsLo, clsHi] using h2 1 _ 2 _ rfl rfl, by simpa [txtK, kidLo, kidHi, clsLo, clsHi] using h2 1 _ 3 _ rfl rfl, by simpa [txtK, kidLo, kidHi, clsLo, clsHi] using h2 1 _ 4 _ rfl rfl⟩
  | 2, _ => exact ⟨by simpa [txtK, kidLo, kidHi, clsLo, clsHi] using h2 2 _ 0 _ rfl rfl, by simpa [txtK, kidLo, kidHi, clsLo, clsHi] using h2 2 _ 1 _ rfl rfl, by simpa [txtK, kidLo, kidHi, clsLo, clsHi] using h2 2 _ 2 _ rfl rfl, by simpa [txtK, kidLo, kidHi, clsLo, clsHi] using h2 2 _ 3 _ rfl rfl, by simpa [txtK, kidLo, kidHi, clsLo, clsHi] using h2 2 _ 4 _ rfl rfl⟩
  | 3, _ => exact ⟨by simpa [txtK, kidLo, kidHi, clsLo, clsHi] using h2 3 _ 0 _ rfl rfl, by simpa [txtK, kidLo, kidHi, clsLo, clsHi] using h2 3 _ 1 _ rfl rfl, by simpa [txtK, kidLo, kidHi, clsLo, clsHi] using h2 3 _ 2 _ rfl rfl, by simpa [txtK, kidLo, kidHi, clsLo, clsHi] using h2 3 _ 3 _ rfl rfl, by simpa [txtK, kidLo, kidHi, clsLo, clsHi] using h2 3 _ 4 _ rfl rfl⟩
  | 4, _ => exact ⟨by simpa [txtK, kidLo, kidHi, clsLo, clsHi] using h2 4 _ 0 _ rfl rfl, by simpa [txtK, kidLo, kidHi, clsLo, clsHi] using h2 4 _ 1 _ rfl rfl, by simpa [txtK, kidLo, kidHi, clsLo, clsHi] using h2 4 _ 2 _ rfl rfl, by simpa [txtK, kidLo, kidHi, clsLo, clsHi] using h2 4 _ 3 _ rfl rfl, by simpa [txtK, kidLo, kidHi, clsLo, clsHi] using h2 4 _ 4 _ rfl rfl⟩
  | 5, _ => exact ⟨by simpa [txtK, kidLo, kidHi, clsLo, clsHi] using h2 5 _ 0 _ rfl rfl, by simpa [txtK, kidLo, kidHi, clsLo, clsHi] using h2 5 _ 1 _ rfl rfl, by simpa [txtK, kidLo, kidHi, clsLo, clsHi] using h2 5 _ 2 _ rfl rfl, by simpa [txtK, kidLo, kidHi, clsLo, clsHi] using h2 5 _ 3 _ rfl rfl, by simpa [txtK, kidLo, kidHi, clsLo, clsHi] using h2 5 _ 4 _ rfl rfl⟩
  | 6, _ => exact ⟨by simpa [txtK, kidLo, kidHi, clsLo, clsHi] using h2 6 _ 0 _ rfl rfl, by simpa [txtK, kidLo, kidHi, clsLo, clsHi] using h2 6 _ 1 _ rfl rfl, by simpa [txtK, kidLo, kidHi, clsLo, clsHi] using h2 6 _ 2 _ rfl rfl, by simpa [txtK, kidLo, kidHi, clsLo, clsHi] using h2 6 _ 3 _ rfl rfl, by simpa [txtK, kidLo, kidHi, clsLo, clsHi] using h2 6 _ 4 _ rfl rfl⟩
  | 7, _ => exact ⟨by simpa [txtK, kidLo, kidHi, clsLo, clsHi] using h2 7 _ 0 _ rfl rfl, by simpa [txtK, kidLo, kidHi, clsLo, clsHi] using h2 7 _ 1 _ rfl rfl, by simpa [txtK, kidLo, kidHi, clsLo, clsHi] using h2 7 _ 2 _ rfl rfl, by simpa [txtK, kidLo, kidHi, clsLo, clsHi] using h2 7 _ 3 _ rfl rfl, by simpa [txtK, kidLo, kidHi, clsLo, clsHi] using h2 7 _ 4 _ rfl rfl⟩
  | 8, _ => exact ⟨by simpa [txtK, kidLo, kidHi, clsLo, clsHi] using h2 8 _ 0 _ rfl rfl, by simpa [txtK, kidLo, kidHi, clsLo, clsHi] using h2 8 _ 1 _ rfl rfl, by simpa [txtK, kidLo, kidHi, clsLo, clsHi] using h2 8 _ 2 _ rfl rfl, by simpa [txtK, kidLo, kidHi, clsLo, clsHi] using h2 8 _ 3 _ rfl rfl, by simpa [txtK, kidLo, kidHi, clsLo, clsHi] using h2 8 _ 4 _ rfl rfl⟩
  | 9, _ => exact ⟨by simpa [txtK, kidLo, kidHi, clsLo, clsHi] using h2 9 _ 0 _ rfl rfl, by simpa [txtK, kidLo, kidHi, clsLo, clsHi] using h2 9 _ 1 _ rfl rfl, by simpa [txtK, kidLo, kidHi, clsLo, clsHi] using h2 9 _ 2 _ rfl rfl, by simpa [txtK, kidLo, kidHi, clsLo, clsHi] using h2 9 _ 3 _ rfl rfl, by simpa [txtK, kidLo, kidHi, clsLo, clsHi] using h2 9 _ 4 _ rfl rfl⟩
  | 10, _ => exact ⟨by simpa [txtK, kidLo, kidHi, clsLo, clsHi] using h2 10 _ 0 _ rfl rfl, by simpa [txtK, kidLo, kidHi, clsLo, clsHi] using h2 10 _ 1 _ rfl rfl, by simpa [txtK, kidLo, kidHi, clsLo, clsHi] using h2 10 _ 2 _ rfl rfl, by simpa [txtK, kidLo, kidHi, clsLo, clsHi] using h2 10 _ 3 _ rfl rfl, by simpa [txtK, kidLo, kidHi, clsLo, clsHi] using h2 10 _ 4 _ rfl rfl⟩
  | k + 11, hk => omega

set_option maxRecDepth 100000 in
theorem contract (H : Type) (enc : TypeId × Value → H) (W : World) (base : Nat) (args : Array Value) (ds gs : List (DataW H)) (before : List MemPlace)
    (hval : ∀ (j : Nat) t v, Tryz.f3.params[j]? = some t → args[j]? = some v → Value.okWide Tryz.prog W .any base t v)
    (hW : DataW.Whole enc Tryz.prog Tryz.f3.params.toList Rows.fnExactVarsAtSpec.vars false W args.toList ds gs before) (hL : laidMetH Tryz.prog Rows.fnExactVarsAtRow.laid W) :
    Calls Tryz.prog 3 args W fun e W' => ∃ v, e = .returned v ∧ Rows.fnExactVarsAtSpec.post enc Tryz.prog Tryz.f3 false true false false W args v W' := by
  have hW' := hW
  obtain ⟨p, q, hA0, hV, hps, hfz, hnd⟩ := hW
  have hA : DataW.TrodAll enc Tryz.prog W 0 (fun _ => true) true Tryz.f3.params.toList args.toList ds p := hA0
  rw [Tryz.params3] at hA hval
  clear hA0
  obtain ⟨v0, vs0, d0, ds0, p0, q0, hargs, rfl, hp, h0, r0⟩ := trodAll_cons hA
  obtain ⟨v1, vs1, d1, ds1, p1, q1, rfl, rfl, rfl, h1, r1⟩ := trodAll_cons r0
  obtain ⟨rfl, rfl, rfl⟩ := trodAll_nil r1
  obtain rfl : args = #[v0, v1] := by cases args; simp_all
  obtain ⟨a0, l0, c0, rfl⟩ := okWide_slice Tryz.underlying22 (hval 0 22 v0 rfl rfl)
  obtain ⟨e0, m0, g0⟩ := open_mds mdTypes Tryz.underlying22 rfl h0
  obtain ⟨m1, rfl, k10, k11, k12, k13⟩ := open_pl (by exact ⟨_, Tryz.underlying24, by kernel_rfl⟩) Tryz.underlying9 Tryz.underlying3 (by kernel_rfl) (by kernel_rfl) (by kernel_rfl) h1
  refine (fnExactVarsAt_walk W e0 _ m0 m1 g0 k10 k11 (tabsAt hL)).mono fun e W' ⟨he, hb⟩ => ?_
  subst he
  have hlen := trodVars_length hV
  match gs, hlen with
  | [g0, g1], _ => exact ⟨_, rfl, post_true laidOut (by kernel_rfl) (by kernel_rfl) Tryz.underlying4 (by kernel_rfl) hW' rfl hb⟩

set_option maxRecDepth 100000 in
theorem laid_met (os : Os) : laidMetH Tryz.prog Rows.fnExactVarsAtRow.laid ((World.doorLaid Tryz.prog 100 os).forCall (fun _ _ => 0) ⟨#[], #[.slice none 0 0, .agg #[.string ByteArray.empty, .string ByteArray.empty, .int .i64 0, .int .i64 0]], []⟩).memory :=
  laidMetH_of_parts3 (fuel := 8) (laidMet_of_run' 8 (by kernel_rfl) (by kernel_rfl)) (by kernel_rfl) (by kernel_rfl)

set_option maxRecDepth 100000 in
theorem lifted (os : Os) (started : os.Started) (H : Type) (enc : TypeId × Value → H) (F : Stop.Interp) :
    ReturnsInHanded {} Tryz.checked os 3 .any ((OpenSpec.ofChange Rows.fnExactVarsAtSpec).preRow enc Tryz.prog Tryz.f3 Rows.fnExactVarsAtRow.domain false Rows.fnExactVarsAtRow.laid) (((OpenSpec.ofChange Rows.fnExactVarsAtSpec).at F).post enc Tryz.prog Tryz.f3 false true false false) := by
  refine returnsInHanded_of_row (C := Tryz.checked) (s := OpenSpec.ofChange Rows.fnExactVarsAtSpec) own started (by kernel_rfl) Tryz.func3
    (witness_row_shaped (enc := enc) (C := Tryz.checked) (World.doorLaid Tryz.prog 100 os) #[.slice none 0 0, .agg #[.string ByteArray.empty, .string ByteArray.empty, .int .i64 0, .int .i64 0]] rfl (World.shaped_of_RefB (by kernel_rfl) (by kernel_rfl)) (by kernel_rfl)
      (preRow_of_bool 8 (fun _ _ => true) (fun k' hk' => by cases hk') (by kernel_rfl) (by kernel_rfl) (laid_met os))) ?_
  intro W base args ds gs before hval hW _ _ _ hL hsh _
  exact contract H enc W base args ds gs before hval hW hL

theorem said : Rows.FnExactVarsAtSaid :=
  OpenClaim.holds_of_cond 3 Tryz.f3 rfl rfl rfl rfl rfl rfl rfl ⟨rfl, rfl, rfl, rfl, rfl⟩ rfl rfl rfl rfl rfl (by kernel_rfl) Tryz.func3 (by kernel_rfl)
    (of_decide_eq_true (by kernel_rfl)) (by unfold Func.isWrapper; first | (rw [if_pos (by decide +kernel)]; kernel_rfl) | (rw [if_neg (by decide +kernel)]; exact ⟨rfl, rfl⟩))
    (fun os started H enc _ F => by rw [OpenClaim.pre_eq_preRow]; exact lifted os started H enc F)

theorem plain (f : FuncId) (fn : Func) (hf : Tryz.pinned.checked.prog.funcNamed "loop.example/g00377/laws.FnExactVarsAt" = some f) (hfn : Tryz.pinned.checked.prog.funcs[f]? = some fn) :
    false = Tryz.pinned.checked.prog.looks [] ∧ ∀ (j : Nat) t, fn.params[j]? = some t → Tryz.pinned.checked.prog.wantsStandIn t = false := by
  obtain rfl : f = 3 := Option.some.inj ((show Tryz.prog.funcNamed "loop.example/g00377/laws.FnExactVarsAt" = some 3 by kernel_rfl).symm.trans hf) |>.symm
  obtain rfl : fn = Tryz.f3 := (Option.some.inj (Tryz.func3.symm.trans hfn)).symm
  refine ⟨by kernel_rfl, fun j t ht => ?_⟩
  rw [Tryz.params3] at ht
  have hm : t ∈ [22, 24] := by simpa using Array.mem_of_getElem? ht
  have hall : ([22, 24].all fun u => !Tryz.prog.wantsStandIn u) = true := by kernel_rfl
  exact (show Tryz.prog.wantsStandIn t = false by simpa using List.all_eq_true.1 hall t hm)
end fnExactVarsAt

/-- THE CARD. -/
theorem fnExactVarsAt_holds : Rows.FnExactVarsAtCardSaid :=
  Claim7.holds_tied_plain_at .later [] _ _ _ _ fnExactVarsAt.said (fun _ h => by cases h) (by kernel_rfl) (fun _ h => by cases h) fnExactVarsAt_row_tie rfl ⟨rfl, rfl⟩ (by kernel_rfl) rfl fnExactVarsAt.plain (by kernel_rfl)
#print axioms fnExactVarsAt_holds
end Go.Proofs.YtoknolophmhlgaaGreatDoor
