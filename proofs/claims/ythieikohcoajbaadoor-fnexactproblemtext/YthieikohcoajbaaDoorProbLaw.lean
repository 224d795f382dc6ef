/-
  FnExactProblemText is proved: at every problem ProblemText of the program answers as the specification's, and its argument is left as it was. Condition (the card ties it to the library's text): the library's tables that strconv.Itoa reads hold what their initialisers lay.
-/
import Derived.Test.YthieikohcoajbaaDoorProbWalk
import Derived.Test.YthieikohcoajbaaDoorFrame
import Derived.Test.YthieikohcoajbaaDoorCards
import Derived.Test.YthieikohcoajbaaDoorTie
import Derived.ShutString
import Derived.MakeChecks
namespace Go.Proofs.YthieikohcoajbaaDoor
namespace fnExactProblemText
open Go.ChangeShapes Go.WideShapes Go.ChangeAt Go.RowKit
open Go.ChangeMaps (open_string shut_string)
set_option linter.unusedVariables false

theorem own : ownKnob Tryd.prog.godebug = none := by kernel_rfl
theorem laidOut : laidOutB Tryd.prog = true := by kernel_rfl

theorem gPow : Tryd.prog.globalNamed "internal/strconv.uint64pow10" = some 3 := by kernel_rfl
theorem tPow : (Tryd.prog.globals[3]?).map (·.type) = some 135 := by kernel_rfl

/-- What the row's list gives: the table of powers. -/
theorem pow10At {W : World} (h : laidMetH Tryd.prog Rows.fnExactProblemTextRow.laid W) : PowAt W := by
  rw [MakeChecks.laidMetH_plain _ _ _ (by kernel_rfl)] at h
  obtain ⟨ps, ⟨_, _, _, _, _, _, _, _, _, _, ⟨_, _, _, _, _, _, _, _, _, _, hv, _⟩, _⟩, _⟩ := h
  exact (tabIs_of_vars (zs := Lib.pow10Tab) (rest := []) gPow tPow Tryd.underlying135 Tryd.underlying123 (by kernel_rfl) (by kernel_rfl) hv).1

theorem len4 {cs : List Value} (h : cs.length = 4) : ∃ a b c d, cs = [a, b, c, d] := by
  match cs, h with
  | [a, b, c, d], _ => exact ⟨a, b, c, d, rfl⟩

theorem open_pb {H : Type} {enc : TypeId × Value → H} {P : Program} {w : World} {base : Nat} {sp : Nat → Bool} {held : Bool} {t tS tI : TypeId} {v : Value} {dd : DataW H} {ps : List MemPlace}
    (ht : ∃ fs, P.underlying t = some (.struct fs) ∧ (fs.toList.map fun f => (f.type, f.offset)) = [(tS, 0), (tS, 1), (tI, 2), (tS, 3)]) (hS : P.underlying tS = some .string) (hI : P.underlying tI = some (.int .i64)) (c0 : P.cellsOf t = 4) (c1 : P.cellsOf tS = 1) (c2 : P.cellsOf tI = 1)
    (h : DataW.Trod enc P w base sp held t v dd ps) : ∃ q : Pb, v = .agg #[.string q.mod, .string q.name, .int .i64 q.arity, .string q.code] ∧ okS q.mod ∧ okS q.name ∧ okS q.code ∧ okI q.arity := by
  obtain ⟨fuel, h⟩ := h
  cases fuel with
  | zero => simp [DataW.trod] at h
  | succ fuel =>
    obtain ⟨fs, hu, hfs⟩ := ht
    obtain ⟨hl, hat⟩ := open_fields hu hfs h
    rw [c0] at hl
    obtain ⟨a, b, c, d, hcs⟩ := len4 hl
    rw [hcs] at hat
    obtain ⟨y0, h0⟩ := hat 0 _ _ rfl
    obtain ⟨y1, h1⟩ := hat 1 _ _ rfl
    obtain ⟨y2, h2⟩ := hat 2 _ _ rfl
    obtain ⟨y3, h3⟩ := hat 3 _ _ rfl
    rw [c1] at h0 h1 h3
    rw [c2] at h2
    obtain ⟨s0, rfl, k0⟩ := open_str1 hS h0
    obtain ⟨s1, rfl, k1⟩ := open_str1 hS h1
    obtain ⟨n, rfl, k2⟩ := open_int1 hI h2
    obtain ⟨s3, rfl, k3⟩ := open_str1 hS h3
    exact ⟨⟨s0, s1, n, s3⟩, agg_of_cells (cs := [.string s0, .string s1, .int .i64 n, .string s3]) hcs (by simp), k0, k1, k3, k2⟩

set_option maxRecDepth 100000 in
theorem contract (H : Type) (enc : TypeId × Value → H) (W : World) (base : Nat) (args : Array Value) (ds gs : List (DataW H)) (before : List MemPlace)
    (hval : ∀ (j : Nat) t v, Tryd.f4.params[j]? = some t → args[j]? = some v → Value.okWide Tryd.prog W .any base t v)
    (hW : DataW.Whole enc Tryd.prog Tryd.f4.params.toList Rows.fnExactProblemTextSpec.vars false W args.toList ds gs before) (hL : laidMetH Tryd.prog Rows.fnExactProblemTextRow.laid W) :
    Calls Tryd.prog 4 args W fun e W' => ∃ v, e = .returned v ∧ Rows.fnExactProblemTextSpec.post enc Tryd.prog Tryd.f4 false true false false W args v W' := by
  have hW' := hW
  obtain ⟨p, q, hA0, hV, hps, hfz, hnd⟩ := hW
  have hA : DataW.TrodAll enc Tryd.prog W 0 (fun _ => true) true Tryd.f4.params.toList args.toList ds p := hA0
  rw [Tryd.params4] at hA hval
  clear hA0
  obtain ⟨v0, vs0, d0, ds0, p0, q0, hargs, rfl, hp, h0, r0⟩ := trodAll_cons hA
  obtain ⟨rfl, rfl, rfl⟩ := trodAll_nil r0
  obtain rfl : args = #[v0] := by cases args; simp_all
  obtain ⟨m0, rfl, k00, k01, k02, k03⟩ := open_pb (by exact ⟨_, Tryd.underlying30, by kernel_rfl⟩) Tryd.underlying9 Tryd.underlying3 (by kernel_rfl) (by kernel_rfl) (by kernel_rfl) h0
  refine (fnExactProblemText_walk W m0 k00 k01 k02 k03 (pow10At hL)).mono fun e W' ⟨he, hb⟩ => ?_
  subst he
  have hlen := trodVars_length hV
  match gs, hlen with
  | [], _ => exact ⟨_, rfl, post_true laidOut (by kernel_rfl) (by kernel_rfl) Tryd.underlying4 (by kernel_rfl) hW' rfl hb⟩

set_option maxRecDepth 100000 in
theorem laid_met (os : Os) : laidMetH Tryd.prog Rows.fnExactProblemTextRow.laid ((World.doorLaid Tryd.prog 100 os).forCall (fun _ _ => 0) ⟨#[], #[.agg #[.string ByteArray.empty, .string ByteArray.empty, .int .i64 0, .string ByteArray.empty]], []⟩).memory :=
  laidMetH_of_parts3 (fuel := 8) (laidMet_of_run' 8 (by kernel_rfl) (by kernel_rfl)) (by kernel_rfl) (by kernel_rfl)

set_option maxRecDepth 100000 in
theorem lifted (os : Os) (started : os.Started) (H : Type) (enc : TypeId × Value → H) (F : Stop.Interp) :
    ReturnsInHanded {} Tryd.checked os 4 .any ((OpenSpec.ofChange Rows.fnExactProblemTextSpec).preRow enc Tryd.prog Tryd.f4 Rows.fnExactProblemTextRow.domain false Rows.fnExactProblemTextRow.laid) (((OpenSpec.ofChange Rows.fnExactProblemTextSpec).at F).post enc Tryd.prog Tryd.f4 false true false false) := by
  refine returnsInHanded_of_row (C := Tryd.checked) (s := OpenSpec.ofChange Rows.fnExactProblemTextSpec) own started (by kernel_rfl) Tryd.func4
    (witness_row_shaped (enc := enc) (C := Tryd.checked) (World.doorLaid Tryd.prog 100 os) #[.agg #[.string ByteArray.empty, .string ByteArray.empty, .int .i64 0, .string ByteArray.empty]] rfl (World.shaped_of_RefB (by kernel_rfl) (by kernel_rfl)) (by kernel_rfl)
      (preRow_of_bool 8 (fun _ _ => true) (fun k' hk' => by cases hk') (by kernel_rfl) (by kernel_rfl) (laid_met os))) ?_
  intro W base args ds gs before hval hW _ _ _ hL hsh _
  exact contract H enc W base args ds gs before hval hW hL

theorem said : Rows.FnExactProblemTextSaid :=
  OpenClaim.holds_of_cond 4 Tryd.f4 rfl rfl rfl rfl rfl rfl rfl ⟨rfl, rfl, rfl, rfl, rfl⟩ rfl rfl rfl rfl rfl (by kernel_rfl) Tryd.func4 (by kernel_rfl)
    (of_decide_eq_true (by kernel_rfl)) (by unfold Func.isWrapper; first | (rw [if_pos (by decide +kernel)]; kernel_rfl) | (rw [if_neg (by decide +kernel)]; exact ⟨rfl, rfl⟩))
    (fun os started H enc _ F => by rw [OpenClaim.pre_eq_preRow]; exact lifted os started H enc F)

theorem plain (f : FuncId) (fn : Func) (hf : Tryd.pinned.checked.prog.funcNamed "loop.example/g00377/laws.FnExactProblemText" = some f) (hfn : Tryd.pinned.checked.prog.funcs[f]? = some fn) :
    false = Tryd.pinned.checked.prog.looks [] ∧ ∀ (j : Nat) t, fn.params[j]? = some t → Tryd.pinned.checked.prog.wantsStandIn t = false := by
  obtain rfl : f = 4 := Option.some.inj ((show Tryd.prog.funcNamed "loop.example/g00377/laws.FnExactProblemText" = some 4 by kernel_rfl).symm.trans hf) |>.symm
  obtain rfl : fn = Tryd.f4 := (Option.some.inj (Tryd.func4.symm.trans hfn)).symm
  refine ⟨by kernel_rfl, fun j t ht => ?_⟩
  rw [Tryd.params4] at ht
  have hm : t ∈ [30] := by simpa using Array.mem_of_getElem? ht
  have hall : ([30].all fun u => !Tryd.prog.wantsStandIn u) = true := by kernel_rfl
  exact (show Tryd.prog.wantsStandIn t = false by simpa using List.all_eq_true.1 hall t hm)
end fnExactProblemText

/-- THE CARD. -/
theorem fnExactProblemText_holds : Rows.FnExactProblemTextCardSaid :=
  Claim7.holds_tied_plain_at .later [] _ _ _ _ fnExactProblemText.said (fun _ h => by cases h) (by kernel_rfl) (fun _ h => by cases h) fnExactProblemText_row_tie rfl ⟨rfl, rfl⟩ (by kernel_rfl) rfl fnExactProblemText.plain (by kernel_rfl)
#print axioms fnExactProblemText_holds
end Go.Proofs.YthieikohcoajbaaDoor
