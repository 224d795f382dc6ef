/-
  The laws' eqResult: of two answers of a run that are the same tree it tells that they are.
-/
import Derived.Test.YthcdppdmiicelaaDoorResTree
import Derived.Test.YthcdppdmiicelaaDoorValEq
namespace Go.Proofs.YthcdppdmiicelaaDoor
open Go.ChangeShapes Go.WideShapes Go.ChangeAt Go.RowKit
set_option linter.unusedVariables false

set_option maxHeartbeats 2000000 in
theorem eqResult_all (d : Nat) : EqC 17 (fun w v e => ∃ cs, v = .agg cs.toArray ∧ HRe w All d cs e) := by
  have h0 := eqVal_all d
  have h1 := eqValS_of (eqVal_all d)
  intro w v1 v2 e i1 i2
  obtain ⟨cs, rfl, sk, sn, st, p1, n1, q1, ov, rfl, s0, s1, f0, f1⟩ := i1
  obtain ⟨cs, rfl, sk', sn', st', p1', n1', q1', ov', rfl, s0', s1', f0', f1'⟩ := i2
  have g0 : ∀ w', SameOn All w w' → HVa w' All d [.int .i64 sk, .int .i64 sn, .string st, .slice p1 n1 q1] e.val := fun w' hw => f0.mono hw (fun _ h => h)
  have g0' : ∀ w', SameOn All w w' → HVa w' All d [.int .i64 sk', .int .i64 sn', .string st', .slice p1' n1' q1'] e.val := fun w' hw => f0'.mono hw (fun _ h => h)
  have g1 : ∀ w', SameOn All w w' → Rows w' All 4 (HVa w' All d) ov e.out := fun w' hw => f1.mono hw (fun _ h => h) (fun _ _ _ => HVa.mono hw (fun _ h => h))
  have g1' : ∀ w', SameOn All w w' → Rows w' All 4 (HVa w' All d) ov' e.out := fun w' hw => f1'.mono hw (fun _ h => h) (fun _ _ _ => HVa.mono hw (fun _ h => h))
  clear f0 f0' f1 f1'
  have hal : Below w.heap.size w ((w.alloc (.cells #[.int .i64 e.code, .string e.why, .int .i64 sk, .int .i64 sn, .string st, .slice p1 n1 q1, ov] 39)).alloc (.cells #[.int .i64 e.code, .string e.why, .int .i64 sk', .int .i64 sn', .string st', .slice p1' n1' q1', ov'] 39)) := ((Below.refl _ _).alloc (Nat.le_refl _) _).alloc (by simp) _
  have HA : Hid (Below w.heap.size w ((w.alloc (.cells #[.int .i64 e.code, .string e.why, .int .i64 sk, .int .i64 sn, .string st, .slice p1 n1 q1, ov] 39)).alloc (.cells #[.int .i64 e.code, .string e.why, .int .i64 sk', .int .i64 sn', .string st', .slice p1' n1' q1', ov'] 39))) := hal
  clear hal
  go_enter Tryd.func17, Tryd.ntmps17
  go_wp2_with (first | (go_at_call 22; (refine (h1 _ _ _ e.out (g1 _ (SameOn.of_below (HA.out.trans (HB0.out.mono HA.out.size)))) (g1' _ (SameOn.of_below (HA.out.trans (HB0.out.mono HA.out.size))))).mono ?_; rintro e w1 ⟨rfl, hb1⟩; have HB1 : Hid _ := hb1; clear hb1)) | (go_at_call 10; (refine (h0 _ _ _ e.val ⟨_, rfl, g0 _ (SameOn.of_below HA.out)⟩ ⟨_, rfl, g0' _ (SameOn.of_below HA.out)⟩).mono ?_; rintro e w0 ⟨rfl, hb0⟩; have HB0 : Hid _ := hb0; have k0 := (hb0.cell (p := ⟨w.heap.size, 6, none⟩) (by simp only [alloc_hs]; omega)).trans ((World.cell?_of_block (a := ⟨w.heap.size, 6, none⟩) (Below.heap_alloc _ _ _ (by simp))).trans (cell_new _ _ _ 6 ov rfl)); have m0 := (hb0.cell (p := ⟨(w.alloc (.cells #[.int .i64 e.code, .string e.why, .int .i64 sk, .int .i64 sn, .string st, .slice p1 n1 q1, ov] 39)).heap.size, 6, none⟩) (by simp)).trans (cell_new _ _ _ 6 ov' rfl); simp only [alloc_hs] at m0; clear hb0)))
  go_ret
  exact ⟨rfl, ((HA.out.trans (HB0.out.mono HA.out.size)).trans (HB1.out.mono (HA.out.trans (HB0.out.mono HA.out.size)).size))⟩
end Go.Proofs.YthcdppdmiicelaaDoor
