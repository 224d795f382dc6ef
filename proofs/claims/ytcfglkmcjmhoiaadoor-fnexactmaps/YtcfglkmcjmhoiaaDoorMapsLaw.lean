/-
  FnExactMaps is proved: at every command and every name Maps of the program answers as the specification's, and its arguments are left as they were. Condition (the card ties it to the library's text): the library's tables that strconv.Itoa reads hold what their initialisers lay.
-/
import Derived.Test.YtcfglkmcjmhoiaaDoorMapsWalk
import Derived.Test.YtcfglkmcjmhoiaaDoorFrame
import Derived.Test.YtcfglkmcjmhoiaaDoorCards
import Derived.Test.YtcfglkmcjmhoiaaDoorTie
import Derived.ShutString
import Derived.MakeChecks
namespace Go.Proofs.YtcfglkmcjmhoiaaDoor
namespace fnExactMaps
open Go.ChangeShapes Go.WideShapes Go.ChangeAt Go.RowKit
open Go.ChangeMaps (open_string shut_string)
set_option linter.unusedVariables false

theorem own : ownKnob Tryd.prog.godebug = none := by kernel_rfl
theorem laidOut : laidOutB Tryd.prog = true := by kernel_rfl

theorem gPow : Tryd.prog.globalNamed "internal/strconv.uint64pow10" = some 0 := by kernel_rfl
theorem tPow : (Tryd.prog.globals[0]?).map (·.type) = some 52 := by kernel_rfl

/-- What the row's list gives: the table of powers. -/
theorem pow10At {W : World} (h : laidMetH Tryd.prog Rows.fnExactMapsRow.laid W) : PowAt W := by
  rw [MakeChecks.laidMetH_plain _ _ _ (by kernel_rfl)] at h
  obtain ⟨ps, ⟨_, _, _, _, _, _, _, _, _, _, ⟨_, _, _, _, _, _, _, _, _, _, hv, _⟩, _⟩, _⟩ := h
  exact (tabIs_of_vars (zs := Lib.pow10Tab) (rest := []) gPow tPow Tryd.underlying52 Tryd.underlying44 (by kernel_rfl) (by kernel_rfl) hv).1

theorem len4 {cs : List Value} (h : cs.length = 4) : ∃ a b c d, cs = [a, b, c, d] := by
  match cs, h with
  | [a, b, c, d], _ => exact ⟨a, b, c, d, rfl⟩
theorem len9 {cs : List Value} (h : cs.length = 9) : ∃ a b c d e f g i j, cs = [a, b, c, d, e, f, g, i, j] := by
  match cs, h with
  | [a, b, c, d, e, f, g, i, j], _ => exact ⟨a, b, c, d, e, f, g, i, j, rfl⟩

theorem open_cm {H : Type} {enc : TypeId × Value → H} {P : Program} {w : World} {base : Nat} {sp : Nat → Bool} {held : Bool} {t tP tS tI : TypeId} {v : Value} {dd : DataW H} {ps : List MemPlace}
    (ht : ∃ fs, P.underlying t = some (.struct fs) ∧ (fs.toList.map fun f => (f.type, f.offset)) = [(tI, 0), (tP, 1), (tI, 5), (tI, 6), (tS, 7), (tS, 8)]) (hP : ∃ fs, P.underlying tP = some (.struct fs) ∧ (fs.toList.map fun f => (f.type, f.offset)) = [(tS, 0), (tS, 1), (tI, 2), (tI, 3)]) (hS : P.underlying tS = some .string) (hI : P.underlying tI = some (.int .i64)) (c0 : P.cellsOf t = 9) (cP : P.cellsOf tP = 4) (c1 : P.cellsOf tS = 1) (c2 : P.cellsOf tI = 1)
    (h : DataW.Trod enc P w base sp held t v dd ps) : ∃ q : Cm, v = .agg (cmCells q) ∧ okCm q := by
  obtain ⟨fuel, h⟩ := h
  cases fuel with
  | zero => simp [DataW.trod] at h
  | succ fuel =>
    obtain ⟨fs, hu, hfs⟩ := ht
    obtain ⟨hl, hat⟩ := open_fields hu hfs h
    rw [c0] at hl
    obtain ⟨a, b, c, d, e, f, g, i, j, hcs⟩ := len9 hl
    rw [hcs] at hat
    obtain ⟨y0, h0⟩ := hat 0 _ _ rfl
    obtain ⟨y1, h1⟩ := hat 1 _ _ rfl
    obtain ⟨y2, h2⟩ := hat 2 _ _ rfl
    obtain ⟨y3, h3⟩ := hat 3 _ _ rfl
    obtain ⟨y4, h4⟩ := hat 4 _ _ rfl
    obtain ⟨y5, h5⟩ := hat 5 _ _ rfl
    rw [c2] at h0 h2 h3
    rw [c1] at h4 h5
    rw [cP] at h1
    obtain ⟨n0, rfl, k0⟩ := open_int1 hI h0
    obtain ⟨n2, rfl, k2⟩ := open_int1 hI h2
    obtain ⟨n3, rfl, k3⟩ := open_int1 hI h3
    obtain ⟨s4, rfl, k4⟩ := open_str1 hS h4
    obtain ⟨s5, rfl, k5⟩ := open_str1 hS h5
    cases fuel with
    | zero => simp [DataW.trod] at h1
    | succ fuel =>
      obtain ⟨gs, gu, gfs⟩ := hP
      obtain ⟨_, gat⟩ := open_fields gu gfs h1
      obtain ⟨z0, g0⟩ := gat 0 _ _ rfl
      obtain ⟨z1, g1⟩ := gat 1 _ _ rfl
      obtain ⟨z2, g2⟩ := gat 2 _ _ rfl
      obtain ⟨z3, g3⟩ := gat 3 _ _ rfl
      rw [c1] at g0 g1
      rw [c2] at g2 g3
      obtain ⟨t0, rfl, l0⟩ := open_str1 hS g0
      obtain ⟨t1, rfl, l1⟩ := open_str1 hS g1
      obtain ⟨t2, rfl, l2⟩ := open_int1 hI g2
      obtain ⟨t3, rfl, l3⟩ := open_int1 hI g3
      exact ⟨⟨n0, ⟨t0, t1, t2, t3⟩, n2, n3, s4, s5⟩, agg_of_cells (cs := [.int .i64 n0, .string t0, .string t1, .int .i64 t2, .int .i64 t3, .int .i64 n2, .int .i64 n3, .string s4, .string s5]) hcs (by simp), k0, l0, l1, l2, l3, k2, k3, k4, k5⟩

set_option maxRecDepth 100000 in
theorem contract (H : Type) (enc : TypeId × Value → H) (W : World) (base : Nat) (args : Array Value) (ds gs : List (DataW H)) (before : List MemPlace)
    (hval : ∀ (j : Nat) t v, Tryd.f3.params[j]? = some t → args[j]? = some v → Value.okWide Tryd.prog W .any base t v)
    (hW : DataW.Whole enc Tryd.prog Tryd.f3.params.toList Rows.fnExactMapsSpec.vars false W args.toList ds gs before) (hL : laidMetH Tryd.prog Rows.fnExactMapsRow.laid W) :
    Calls Tryd.prog 3 args W fun e W' => ∃ v, e = .returned v ∧ Rows.fnExactMapsSpec.post enc Tryd.prog Tryd.f3 false true false false W args v W' := by
  have hW' := hW
  obtain ⟨p, q, hA0, hV, hps, hfz, hnd⟩ := hW
  have hA : DataW.TrodAll enc Tryd.prog W 0 (fun _ => true) true Tryd.f3.params.toList args.toList ds p := hA0
  rw [Tryd.params3] at hA hval
  clear hA0
  obtain ⟨v0, vs0, d0, ds0, p0, q0, hargs, rfl, hp, h0, r0⟩ := trodAll_cons hA
  obtain ⟨v1, vs1, d1, ds1, p1, q1, rfl, rfl, rfl, h1, r1⟩ := trodAll_cons r0
  obtain ⟨rfl, rfl, rfl⟩ := trodAll_nil r1
  obtain rfl : args = #[v0, v1] := by cases args; simp_all
  obtain ⟨m0, rfl, k0⟩ := open_cm (by exact ⟨_, Tryd.underlying25, by kernel_rfl⟩) (by exact ⟨_, Tryd.underlying23, by kernel_rfl⟩) Tryd.underlying9 Tryd.underlying3 (by kernel_rfl) (by kernel_rfl) (by kernel_rfl) (by kernel_rfl) h0
  obtain ⟨a1, rfl, rfl, -, w1⟩ := open_string Tryd.underlying9 (hval 1 9 v1 rfl rfl) h1
  refine (fnExactMaps_walk W m0 a1 k0 w1 (pow10At hL)).mono fun e W' ⟨he, hb⟩ => ?_
  subst he
  have hlen := trodVars_length hV
  match gs, hlen with
  | [], _ => exact ⟨_, rfl, post_true laidOut (by kernel_rfl) (by kernel_rfl) Tryd.underlying4 (by kernel_rfl) hW' rfl hb⟩

set_option maxRecDepth 100000 in
theorem laid_met (os : Os) : laidMetH Tryd.prog Rows.fnExactMapsRow.laid ((World.doorLaid Tryd.prog 100 os).forCall (fun _ _ => 0) ⟨#[], #[.agg #[.int .i64 0, .string ByteArray.empty, .string ByteArray.empty, .int .i64 0, .int .i64 0, .int .i64 0, .int .i64 0, .string ByteArray.empty, .string ByteArray.empty], .string ByteArray.empty], []⟩).memory :=
  laidMetH_of_parts3 (fuel := 8) (laidMet_of_run' 8 (by kernel_rfl) (by kernel_rfl)) (by kernel_rfl) (by kernel_rfl)

set_option maxRecDepth 100000 in
theorem lifted (os : Os) (started : os.Started) (H : Type) (enc : TypeId × Value → H) (F : Stop.Interp) :
    ReturnsInHanded {} Tryd.checked os 3 .any ((OpenSpec.ofChange Rows.fnExactMapsSpec).preRow enc Tryd.prog Tryd.f3 Rows.fnExactMapsRow.domain false Rows.fnExactMapsRow.laid) (((OpenSpec.ofChange Rows.fnExactMapsSpec).at F).post enc Tryd.prog Tryd.f3 false true false false) := by
  refine returnsInHanded_of_row (C := Tryd.checked) (s := OpenSpec.ofChange Rows.fnExactMapsSpec) own started (by kernel_rfl) Tryd.func3
    (witness_row_shaped (enc := enc) (C := Tryd.checked) (World.doorLaid Tryd.prog 100 os) #[.agg #[.int .i64 0, .string ByteArray.empty, .string ByteArray.empty, .int .i64 0, .int .i64 0, .int .i64 0, .int .i64 0, .string ByteArray.empty, .string ByteArray.empty], .string ByteArray.empty] rfl (World.shaped_of_RefB (by kernel_rfl) (by kernel_rfl)) (by kernel_rfl)
      (preRow_of_bool 8 (fun _ _ => true) (fun k' hk' => by cases hk') (by kernel_rfl) (by kernel_rfl) (laid_met os))) ?_
  intro W base args ds gs before hval hW _ _ _ hL hsh _
  exact contract H enc W base args ds gs before hval hW hL

theorem said : Rows.FnExactMapsSaid :=
  OpenClaim.holds_of_cond 3 Tryd.f3 rfl rfl rfl rfl rfl rfl rfl ⟨rfl, rfl, rfl, rfl, rfl⟩ rfl rfl rfl rfl rfl (by kernel_rfl) Tryd.func3 (by kernel_rfl)
    (of_decide_eq_true (by kernel_rfl)) (by unfold Func.isWrapper; first | (rw [if_pos (by decide +kernel)]; kernel_rfl) | (rw [if_neg (by decide +kernel)]; exact ⟨rfl, rfl⟩))
    (fun os started H enc _ F => by rw [OpenClaim.pre_eq_preRow]; exact lifted os started H enc F)

theorem plain (f : FuncId) (fn : Func) (hf : Tryd.pinned.checked.prog.funcNamed "loop.example/g00377/laws.FnExactMaps" = some f) (hfn : Tryd.pinned.checked.prog.funcs[f]? = some fn) :
    false = Tryd.pinned.checked.prog.looks [] ∧ ∀ (j : Nat) t, fn.params[j]? = some t → Tryd.pinned.checked.prog.wantsStandIn t = false := by
  obtain rfl : f = 3 := Option.some.inj ((show Tryd.prog.funcNamed "loop.example/g00377/laws.FnExactMaps" = some 3 by kernel_rfl).symm.trans hf) |>.symm
  obtain rfl : fn = Tryd.f3 := (Option.some.inj (Tryd.func3.symm.trans hfn)).symm
  refine ⟨by kernel_rfl, fun j t ht => ?_⟩
  rw [Tryd.params3] at ht
  have hm : t ∈ [25, 9] := by simpa using Array.mem_of_getElem? ht
  have hall : ([25, 9].all fun u => !Tryd.prog.wantsStandIn u) = true := by kernel_rfl
  exact (show Tryd.prog.wantsStandIn t = false by simpa using List.all_eq_true.1 hall t hm)
end fnExactMaps

/-- THE CARD. -/
theorem fnExactMaps_holds : Rows.FnExactMapsCardSaid :=
  Claim7.holds_tied_plain_at .later [] _ _ _ _ fnExactMaps.said (fun _ h => by cases h) (by kernel_rfl) (fun _ h => by cases h) fnExactMaps_row_tie rfl ⟨rfl, rfl⟩ (by kernel_rfl) rfl fnExactMaps.plain (by kernel_rfl)
#print axioms fnExactMaps_holds
end Go.Proofs.YtcfglkmcjmhoiaaDoor
