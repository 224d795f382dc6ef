/-
  The specification's reader of a value, by contract: names and numbers.
-/
import Derived.Test.YtafehfpjogbmfaaDoorRvMath
namespace Go.Proofs.YtafehfpjogbmfaaDoor
open Go.ChangeShapes Go.WideShapes Go.ChangeAt Go.RowKit
set_option linter.unusedVariables false
set_option maxRecDepth 100000

theorem byte_getD (s : ByteArray) (k : Nat) (h : k < s.size) : s.data.toList.getD k 0 = s[k] := by
  have hl : k < s.data.toList.length := by simpa using h
  rw [List.getD_eq_getElem?_getD, List.getElem?_eq_getElem hl]
  rfl
theorem nmB_of {c : UInt8} : nmB c = (signB (c.toNat : Int) || decide (c.toNat = 45)) := rfl
set_option maxHeartbeats 4000000 in
theorem l12Name_any (s : ByteArray) (w : World) (i : Nat) (hs : s.size ≤ maxLen) (hi : i ≤ s.size) :
    Calls Tryd.prog 17 #[.string s, .int .i64 (i : Nat)] w fun e w' => e = .returned (.int .i64 ((runEnd nmB s.data.toList i : Nat) : Int)) ∧ w' = w := by
  unfold maxLen at hs
  have hll : s.data.toList.length = s.size := by simp
  have HLL : Hid (s.data.toList.length = s.size) := hll
  obtain ⟨R, hR⟩ : ∃ R, R = runEnd nmB s.data.toList i := ⟨_, rfl⟩
  have HR : Hid (runEnd nmB s.data.toList i = R) := hR.symm
  rw [← hR]
  clear hll hR
  go_enter Tryd.func17, Tryd.ntmps17
  go_wp2
  go_loop [1] (fun iv => ∃ k : Nat, k ≤ s.size ∧ iv = .int .i64 k ∧ Hid (runEnd nmB s.data.toList k = R)) (fun iv => s.size - (intOf iv).toNat)
  case atStart => exact ⟨i, hi, rfl, HR.out⟩
  case round =>
    obtain ⟨k, hk, rfl, HK⟩ := hrel
    by_cases hlt : k < s.size
    · have hb := byte_lt s k hlt
      have HG : Hid (s.data.toList.getD k 0 = s[k]) := byte_getD s k hlt
      have HKL : Hid (k < s.data.toList.length) := by show _ < _; rw [HLL.out]; exact hlt
      have hc : signB (s[k].toNat : Int) = true ∨ signB (s[k].toNat : Int) = false := by cases signB (s[k].toNat : Int) <;> simp
      rcases hc with hc | hc
      · have HN : Hid (runEnd nmB s.data.toList (k + 1) = R) := by
          show _ = _
          rw [← HK.out, runEnd_step nmB _ k HKL.out (by rw [HG.out]; show (signB (s[k].toNat : Int) || _) = true; rw [hc]; rfl)]
        clear HK
        go_wp2_with (go_at_call 25; go_must (refine (l01Sign_any _ _ hb.1 hb.2).mono ?_; rintro e w' ⟨rfl, rfl⟩))
        go_round
        case rel => exact ⟨k + 1, by omega, by go_num, HN.out⟩
        case measure => simp [intOf]; omega
      · by_cases h45 : s[k].toNat = 45
        · have h45' : ((s[k].toNat : Int) == 45) = true := by simp [h45]
          have HN : Hid (runEnd nmB s.data.toList (k + 1) = R) := by
            show _ = _
            rw [← HK.out, runEnd_step nmB _ k HKL.out (by rw [HG.out]; show (_ || decide (s[k].toNat = 45)) = true; rw [decide_eq_true h45, Bool.or_true])]
          clear HK
          go_wp2_with (go_at_call 25; go_must (refine (l01Sign_any _ _ hb.1 hb.2).mono ?_; rintro e w' ⟨rfl, rfl⟩))
          all_goals try (exfalso; rename_i hx; first | exact hx h45' | exact Bool.false_ne_true (hc.symm.trans hx) | exact Bool.false_ne_true (h45'.symm.trans hx) | exact Bool.false_ne_true (hx.symm.trans h45'); done)
          go_round
          case rel => exact ⟨k + 1, by omega, by go_num, HN.out⟩
          case measure => simp [intOf]; omega
        · have h45' : ((s[k].toNat : Int) == 45) = false := by simp; omega
          have HN : Hid (k = R) := by
            show _ = _
            rw [← HK.out]
            exact (runEnd_stop nmB _ k (.inr (by rw [HG.out]; show (signB (s[k].toNat : Int) || decide (s[k].toNat = 45)) = false; rw [hc, decide_eq_false h45]; rfl))).symm
          clear HK
          go_wp2_with (go_at_call 25; go_must (refine (l01Sign_any _ _ hb.1 hb.2).mono ?_; rintro e w' ⟨rfl, rfl⟩))
          all_goals try (exfalso; rename_i hx; first | exact hx h45' | exact Bool.false_ne_true (hc.symm.trans hx) | exact Bool.false_ne_true (h45'.symm.trans hx) | exact Bool.false_ne_true (hx.symm.trans h45'); done)
          go_ret
          exact ⟨congrArg (fun (z : Nat) => Ending.returned (.int .i64 (z : Int))) HN.out, rfl⟩
    · have HN : Hid (k = R) := by
        show _ = _
        rw [← HK.out]
        exact (runEnd_stop nmB _ k (.inl (by rw [HLL.out]; omega))).symm
      clear HK
      go_wp2
      go_ret
      exact ⟨congrArg (fun (z : Nat) => Ending.returned (.int .i64 (z : Int))) HN.out, rfl⟩
end Go.Proofs.YtafehfpjogbmfaaDoor
