/-
  How great what a run answers is.
-/
import Derived.Test.YthcdppdmiicelaaDoorResTree
import Derived.Test.YthcdppdmiicelaaDoorValSz
namespace Go.Proofs.YthcdppdmiicelaaDoor
open Go.ChangeShapes Go.WideShapes Go.ChangeAt Go.RowKit
set_option linter.unusedVariables false

def wtRe (d : Nat) (r : Re) : Nat := r.why.size + wtVa d r.val + wtS (wtVa d) r.out

variable {N : Nat}

set_option maxHeartbeats 2000000 in
theorem szResult_of {d : Nat} (h1 : SzC 6 (fun w v e => ∃ cs, v = .agg cs.toArray ∧ HVa w (fun g => g < N) d cs e) (wtVa d)) (h2 : SzC 18 (fun w v es => Rows w (fun g => g < N) 4 (HVa w (fun g => g < N) d) v es) (wtS (wtVa d))) :
    SzC 13 (fun w v e => ∃ cs, v = .agg cs.toArray ∧ HRe w (fun g => g < N) d cs e) (wtRe d) := by
  intro w v e left h hl
  obtain ⟨cs, rfl, sk, sn, st, p1, n1, q1, ov, rfl, hc, ht, hv, hks⟩ := h
  have hb0 : e.why.size ≤ 9223372036854775807 := by have := ht; unfold okS maxLen at this; omega
  have hal : SameOn (fun g => g < N) w (w.alloc (.cells #[.int .i64 e.code, .string e.why, .int .i64 sk, .int .i64 sn, .string st, .slice p1 n1 q1, ov] 35)) := SameOn.of_below ((Below.refl _ _).alloc (Nat.le_refl _) _)
  replace hv := hv.mono hal (fun _ h => h)
  replace hks := hks.mono hal (fun _ h => h) (fun _ _ _ => HVa.mono hal (fun _ h => h))
  have HW : Hid (wtRe d e = e.why.size + wtVa d e.val + wtS (wtVa d) e.out) := rfl
  generalize wtRe d e = W at *
  have hx0 : ∃ x0 : Nat, e.why.size = x0 := ⟨_, rfl⟩
  obtain ⟨x0, hx0⟩ := hx0
  rw [hx0] at hb0
  generalize hx1 : wtVa d e.val = x1 at *
  have HX1 : Hid (wtVa d e.val = x1) := hx1
  clear hx1
  generalize hx2 : wtS (wtVa d) e.out = x2 at *
  have HX2 : Hid (wtS (wtVa d) e.out = x2) := hx2
  clear hx2
  by_cases t0 : left < x0
  · have HR : Hid (leftOf left W = -1) := by
      have := HW.out
      show leftOf left W = _
      exact leftOf_lt (by omega)
    clear HW
    go_enter Tryd.func13, Tryd.ntmps13
    go_wp2
    go_ret
    exact ⟨by rw [HR.out]; first | rfl | (congr 2; omega) | (simp; omega), ((Below.refl _ _).alloc (Nat.le_refl _) _)⟩
  by_cases t1 : left - x0 < x1
  · have HR : Hid (leftOf left W = -1) := by
      have := HW.out
      show leftOf left W = _
      exact leftOf_lt (by omega)
    have hr1 : leftOf (left - x0) x1 = -1 := leftOf_lt t1
    clear HW
    go_enter Tryd.func13, Tryd.ntmps13
    go_wp2_with (first | (go_at_call 6; go_must (refine (h1.at (w := _) (v := _) e.val _ (left - x0) (by omega) ⟨_, rfl, hv⟩ (by omega)).mono ?_; rintro e w1 ⟨rfl, hb1⟩; rw [HX1.out, hr1]; have HB1 : Hid _ := hb1; have hk1 := (hb1.cell (p := ⟨w.heap.size, 6, none⟩) (by simp)).trans (cell_new _ _ _ 6 ov rfl); clear hb1)) )
    go_ret
    exact ⟨by rw [HR.out]; first | rfl | (congr 2; omega) | (simp; omega), (((Below.refl _ _).alloc (Nat.le_refl _) _).trans (HB1.out.mono ((Below.refl _ _).alloc (Nat.le_refl _) _).size))⟩
  by_cases t2 : left - x0 - x1 < x2
  · have HR : Hid (leftOf left W = -1) := by
      have := HW.out
      show leftOf left W = _
      exact leftOf_lt (by omega)
    have hr1 : leftOf (left - x0) x1 = ((left - x0 - x1 : Nat) : Int) := by rw [leftOf_ge (by omega)]
    have hr2 : leftOf (left - x0 - x1) x2 = -1 := leftOf_lt t2
    clear HW
    go_enter Tryd.func13, Tryd.ntmps13
    go_wp2_with (first | (go_at_call 18; go_must (refine (h2.at (w := _) (v := _) e.out _ (left - x0 - x1) (by omega) (hks.mono (SameOn.of_below HB1.out) (fun _ h => h) (fun _ _ _ => HVa.mono (SameOn.of_below HB1.out) (fun _ h => h))) (by omega)).mono ?_; rintro e w2 ⟨rfl, hb2⟩; rw [HX2.out, hr2]; have HB2 : Hid _ := hb2; clear hb2)) | (go_at_call 6; go_must (refine (h1.at (w := _) (v := _) e.val _ (left - x0) (by omega) ⟨_, rfl, hv⟩ (by omega)).mono ?_; rintro e w1 ⟨rfl, hb1⟩; rw [HX1.out, hr1]; have HB1 : Hid _ := hb1; have hk1 := (hb1.cell (p := ⟨w.heap.size, 6, none⟩) (by simp)).trans (cell_new _ _ _ 6 ov rfl); clear hb1)) )
    go_ret
    exact ⟨by rw [HR.out]; first | rfl | (congr 2; omega) | (simp; omega), ((((Below.refl _ _).alloc (Nat.le_refl _) _).trans (HB1.out.mono ((Below.refl _ _).alloc (Nat.le_refl _) _).size)).trans (HB2.out.mono (((Below.refl _ _).alloc (Nat.le_refl _) _).trans (HB1.out.mono ((Below.refl _ _).alloc (Nat.le_refl _) _).size)).size))⟩
  have HR : Hid (leftOf left W = ((left - x0 - x1 - x2 : Nat) : Int)) := by
    have := HW.out
    show leftOf left W = _
    rw [leftOf_ge (by omega)]; omega
  have hr1 : leftOf (left - x0) x1 = ((left - x0 - x1 : Nat) : Int) := by rw [leftOf_ge (by omega)]
  have hr2 : leftOf (left - x0 - x1) x2 = ((left - x0 - x1 - x2 : Nat) : Int) := by rw [leftOf_ge (by omega)]
  clear HW
  go_enter Tryd.func13, Tryd.ntmps13
  go_wp2_with (first | (go_at_call 18; go_must (refine (h2.at (w := _) (v := _) e.out _ (left - x0 - x1) (by omega) (hks.mono (SameOn.of_below HB1.out) (fun _ h => h) (fun _ _ _ => HVa.mono (SameOn.of_below HB1.out) (fun _ h => h))) (by omega)).mono ?_; rintro e w2 ⟨rfl, hb2⟩; rw [HX2.out, hr2]; have HB2 : Hid _ := hb2; clear hb2)) | (go_at_call 6; go_must (refine (h1.at (w := _) (v := _) e.val _ (left - x0) (by omega) ⟨_, rfl, hv⟩ (by omega)).mono ?_; rintro e w1 ⟨rfl, hb1⟩; rw [HX1.out, hr1]; have HB1 : Hid _ := hb1; have hk1 := (hb1.cell (p := ⟨w.heap.size, 6, none⟩) (by simp)).trans (cell_new _ _ _ 6 ov rfl); clear hb1)) )
  go_ret
  exact ⟨by rw [HR.out]; first | rfl | (congr 2; omega) | (simp; omega), ((((Below.refl _ _).alloc (Nat.le_refl _) _).trans (HB1.out.mono ((Below.refl _ _).alloc (Nat.le_refl _) _).size)).trans (HB2.out.mono (((Below.refl _ _).alloc (Nat.le_refl _) _).trans (HB1.out.mono ((Below.refl _ _).alloc (Nat.le_refl _) _).size)).size))⟩

theorem szResult_all (d : Nat) : SzC 13 (fun w v e => ∃ cs, v = .agg cs.toArray ∧ HRe w (fun g => g < N) d cs e) (wtRe d) := szResult_of (szVal_all d) (szValS_of (szVal_all d))
end Go.Proofs.YthcdppdmiicelaaDoor
