/-
  The law of ProgramOk, walked: at every row of modules.
-/
import Derived.Test.YthieikohcoajbaaDoorProgOkA
import Derived.Test.YthieikohcoajbaaDoorModsSz
import Derived.Test.YthieikohcoajbaaDoorModsEq
import Derived.Test.YthieikohcoajbaaDoorModsTo
namespace Go.Proofs.YthieikohcoajbaaDoor
open Go.ChangeShapes Go.WideShapes Go.ChangeAt Go.RowKit
set_option linter.unusedVariables false

set_option maxHeartbeats 8000000 in
theorem fnExactProgramOk_walk (w : World) (d : Nat) (v : Value) (ms : List Md) (h : Rows w (fun g => g < w.heap.size) 3 (HMd w (fun g => g < w.heap.size) d) v ms) (hT : Tabs w) :
    Calls Tryd.prog 3 #[v] w fun e w' => e = .returned (.bool true) ∧ Below w.heap.size w w' := by
  have HTAB : Hid (Tabs w) := hT
  clear hT
  have Z : Hid (Rows w (fun g => g < w.heap.size) 3 (HMd w (fun g => g < w.heap.size) d) v ms) := h
  have H : Hid (∀ w', Below w.heap.size w w' → Rows w' All 3 (HMd w' All d) v ms) := fun w' hw => h.mono (SameOn.of_below hw) (fun _ _ => trivial) (fun _ _ _ h => h.mono (SameOn.of_below hw) (fun _ _ => trivial))
  obtain ⟨p, cap, rfl, -⟩ := h
  generalize hx : wtS (wtMd d) ms = x at *
  have HX : Hid (wtS (wtMd d) ms = x) := hx
  generalize hr0 : leftOf 1048576 x = r at *
  have SZ : Hid (Calls Tryd.prog 5 #[.slice p ms.length cap, .int .i64 1048576] w fun e w' => e = .returned (.int .i64 r) ∧ Below w.heap.size w w') := by
    have := (szModuleS_all (N := w.heap.size) d).at ms (1048576 : Int) 1048576 rfl Z.out (Nat.le_refl _)
    rw [HX.out, hr0] at this
    exact this
  by_cases hw : 1048576 < x
  · have hr : r = -1 := by rw [← hr0]; exact leftOf_lt hw
    subst hr
    go_enter Tryd.func3, Tryd.ntmps3
    go_wp2_with fail
    refine SZ.out.mono ?_
    rintro e w1 ⟨rfl, hb⟩
    have B1 : Hid (Below w.heap.size w w1) := hb
    clear hb
    go_wp2_with fail
    go_ret
    exact ⟨rfl, B1.out⟩
  · obtain ⟨q, rfl⟩ : ∃ q : Nat, r = (q : Int) := ⟨1048576 - x, by rw [← hr0]; exact leftOf_ge (by omega)⟩
    have HW : Hid (wtS (wtMd d) ms ≤ 1048576) := by show _ ≤ _; rw [HX.out]; omega
    have TO : Hid (∀ w', Below w.heap.size w w' → Calls Tryd.prog 7 #[.slice p ms.length cap] w' fun e w'' => ∃ pu cu, e = .returned (.slice pu ms.length cu) ∧ (∀ w3, Below w''.heap.size w'' w3 → Rows w3 All 3 (HMd w3 All d) (.slice pu ms.length cu) ms) ∧ Below w'.heap.size w' w'') := fun w' hw => by
      refine (toModuleS_own d w' _ ms (H.out w' hw) HW.out).mono ?_
      rintro e w'' ⟨u, fp, rfl, ho, -, -, hb⟩
      obtain ⟨pu, cu, rfl, -⟩ := ho.shape
      exact ⟨pu, cu, rfl, fun w3 h3 => (oms_tree ho).mono (SameOn.of_below h3) (fun _ h => h) (fun _ _ _ h => h.mono (SameOn.of_below h3) (fun _ h => h)), hb⟩
    clear hr0 hx hw
    have hq : ¬ (q : Int) < 0 := by omega
    generalize hn : ms.length = n at *
    generalize ha : pgOk d ms = a at *
    have HA : Hid (pgOk d ms = a) := ha
    clear ha hn
    go_enter Tryd.func3, Tryd.ntmps3
    go_wp2_with fail
    refine SZ.out.mono ?_
    rintro e w1 ⟨rfl, hb⟩
    have B1 : Hid (Below w.heap.size w w1) := hb
    clear hb
    go_wp2_with fail
    refine (TO.out _ B1.out).mono ?_
    rintro e w2 ⟨p2, c2, rfl, R2, hb⟩
    have U2 : Hid (∀ w3, Below w2.heap.size w2 w3 → Rows w3 All 3 (HMd w3 All d) (.slice p2 n c2) ms) := R2
    have B2 : Hid (Below w.heap.size w w2) := B1.out.trans (hb.mono B1.out.size)
    clear hb R2
    go_wp2_with fail
    refine (specProgramOk_any d _ _ ms (U2.out _ (Below.refl _ _))).mono ?_
    rintro e w3 ⟨rfl, hb⟩
    rw [HA.out]
    have B3 : Hid (Below w.heap.size w w3) := B2.out.trans (hb.mono B2.out.size)
    clear hb
    go_wp2_with fail
    refine (TO.out _ B3.out).mono ?_
    rintro e w4 ⟨p4, c4, rfl, R4, hb⟩
    have U4 : Hid (∀ w3, Below w4.heap.size w4 w3 → Rows w3 All 3 (HMd w3 All d) (.slice p4 n c4) ms) := R4
    have B4 : Hid (Below w.heap.size w w4) := B3.out.trans (hb.mono B3.out.size)
    clear hb R4
    go_wp2_with fail
    refine (implProgramOk_any d _ _ ms (HTAB.out.below B4.out) (U4.out _ (Below.refl _ _))).mono ?_
    rintro e w5 ⟨rfl, hb⟩
    rw [HA.out]
    have B5 : Hid (Below w.heap.size w w5) := B4.out.trans (hb.mono B4.out.size)
    have K5 : Hid (Below w4.heap.size w4 w5) := hb
    clear hb
    go_wp2_with fail
    refine (TO.out _ (by first | exact B5.out | exact B5.out.drew)).mono ?_
    rintro e w6 ⟨p6, c6, rfl, R6, hb⟩
    have U6 : Hid (∀ w3, Below w6.heap.size w6 w3 → Rows w3 All 3 (HMd w3 All d) (.slice p6 n c6) ms) := R6
    have B6 : Hid (Below w.heap.size w w6) := B5.out.trans (Below.mono (by first | exact hb | exact ⟨hb.os, hb.tape, hb.output, hb.size, hb.block⟩) B5.out.size)
    have K6 : Hid (Below w4.heap.size w4 w6) := K5.out.trans (Below.mono (by first | exact hb | exact ⟨hb.os, hb.tape, hb.output, hb.size, hb.block⟩) K5.out.size)
    clear hb R6
    go_wp2_with fail
    refine (eqModuleS_all d _ _ _ ms (U4.out _ K6.out) (U6.out _ (Below.refl _ _))).mono ?_
    rintro e w7 ⟨rfl, hb⟩
    have B7 : Hid (Below w.heap.size w w7) := B6.out.trans (hb.mono B6.out.size)
    clear hb
    go_wp2_with fail
    go_ret
    exact ⟨rfl, B7.out⟩
end Go.Proofs.YthieikohcoajbaaDoor
