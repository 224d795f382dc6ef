/-
  What l01Name (specification) and nameOk, madeOf (program) answer: whether a text is 1 to 10 signs of names. Condition: the text is no longer than any text may be.
-/
import Derived.Test.YtafehfpjogbmfaaDoorChars
namespace Go.Proofs.YtafehfpjogbmfaaDoor
open Go.ChangeShapes Go.WideShapes Go.ChangeAt Go.RowKit
set_option linter.unusedVariables false

def allB (l : List UInt8) : Bool := l.all fun c => signB (c.toNat : Int)
def nameB (s : ByteArray) : Bool := allB s.data.toList && decide (1 ≤ s.size ∧ s.size ≤ 10)

theorem take_snoc (s : ByteArray) (k : Nat) (h : k < s.size) : s.data.toList.take (k + 1) = s.data.toList.take k ++ [s[k]] := by
  rw [List.take_succ_eq_append_getElem (by simpa using h)]; rfl
theorem allB_snoc (s : ByteArray) (k : Nat) (h : k < s.size) (ha : allB (s.data.toList.take k) = true) (hs : signB (s[k].toNat : Int) = true) :
    allB (s.data.toList.take (k + 1)) = true := by
  rw [take_snoc s k h]; unfold allB at *; rw [List.all_append, ha]; simp [hs]
theorem allB_no (s : ByteArray) (k : Nat) (h : k < s.size) (hs : signB (s[k].toNat : Int) = false) :
    allB s.data.toList = false := by
  unfold allB
  rw [List.all_eq_false]
  refine ⟨s[k], ?_, by simp [hs]⟩
  exact List.getElem_mem (by simpa using h)
theorem allB_all (s : ByteArray) (k : Nat) (h : s.size ≤ k) (ha : allB (s.data.toList.take k) = true) : allB s.data.toList = true := by
  rwa [List.take_of_length_le (by simpa using h)] at ha

theorem byte_lt (s : ByteArray) (k : Nat) (h : k < s.size) : 0 ≤ ((s[k].toNat : Nat) : Int) ∧ ((s[k].toNat : Nat) : Int) < 256 := by
  have := s[k].toNat_lt; omega

theorem inB_size (n : Nat) : inB (n : Int) 1 10 = decide (1 ≤ n ∧ n ≤ 10) := by
  unfold inB; rw [decide_eq_decide]; omega
theorem nameB_none (s : ByteArray) (h : ¬ 1 ≤ s.size ∨ ¬ s.size ≤ 10) : nameB s = false := by
  unfold nameB; rw [decide_eq_false (by omega), Bool.and_false]
theorem nameB_some (s : ByteArray) (h1 : 1 ≤ s.size) (h2 : s.size ≤ 10) : nameB s = allB s.data.toList := by
  unfold nameB; rw [decide_eq_true ⟨h1, h2⟩, Bool.and_true]

set_option maxHeartbeats 400000 in
theorem l01Name_any (s : ByteArray) (w : World) (hs : s.size ≤ maxLen) :
    Calls Tryd.prog 38 #[.string s] w fun e w' => e = .returned (.bool (nameB s)) ∧ w' = w := by
  unfold maxLen at hs
  go_enter Tryd.func38, Tryd.ntmps38
  go_wp2
  go_loop [3] (fun i => ∃ k : Nat, k ≤ s.size ∧ i = .int .i64 k ∧ allB (s.data.toList.take k) = true) (fun i => s.size - (intOf i).toNat)
  case atStart => exact ⟨0, Nat.zero_le _, rfl, rfl⟩
  case round =>
    obtain ⟨k, hk, rfl, ha⟩ := hrel
    by_cases hlt : k < s.size
    · have hb := byte_lt s k hlt
      have HA : Hid (allB (s.data.toList.take k) = true) := ha
      clear ha
      have hc : signB (s[k].toNat : Int) = true ∨ signB (s[k].toNat : Int) = false := by cases signB (s[k].toNat : Int) <;> simp
      rcases hc with hc | hc
      · go_wp2_with (go_at_call 25; go_must (refine (l01Sign_any _ _ hb.1 hb.2).mono ?_; rintro e w' ⟨rfl, rfl⟩))
        go_round
        case rel => exact ⟨k + 1, by omega, by go_num, allB_snoc s k hlt HA.out hc⟩
        case measure => simp [intOf]; omega
      · go_wp2_with (go_at_call 25; go_must (refine (l01Sign_any _ _ hb.1 hb.2).mono ?_; rintro e w' ⟨rfl, rfl⟩))
        go_ret
        exact ⟨ret_bool (by simp [nameB, allB_no s k hlt hc]), rfl⟩
    · have hall := allB_all s k (by omega) ha
      have HA : Hid (allB s.data.toList = true) := hall
      clear ha hall
      go_wp2_with (go_at_call 29; go_must (refine (l01In_any _ _ _ _).mono ?_; rintro e w' ⟨rfl, rfl⟩))
      go_ret
      exact ⟨ret_bool (by rw [nameB, HA.out, Bool.true_and, inB_size]), rfl⟩

/-- 'madeOf' of isNamePart. -/
theorem madeOf_name (s : ByteArray) (w : World) (hs : s.size ≤ maxLen) :
    Calls Tryd.prog 48 #[.string s, .func (.func 59) #[] #[]] w fun e w' => e = .returned (.bool (allB s.data.toList)) ∧ w' = w := by
  unfold maxLen at hs
  go_enter Tryd.func48, Tryd.ntmps48
  go_wp2
  go_loop [8] (fun i => ∃ k : Nat, k ≤ s.size ∧ i = .int .i64 k ∧ allB (s.data.toList.take k) = true) (fun i => s.size - (intOf i).toNat)
  case atStart => exact ⟨0, Nat.zero_le _, rfl, rfl⟩
  case round =>
    obtain ⟨k, hk, rfl, ha⟩ := hrel
    by_cases hlt : k < s.size
    · have hb := byte_lt s k hlt
      have HA : Hid (allB (s.data.toList.take k) = true) := ha
      clear ha
      have hc : signB (s[k].toNat : Int) = true ∨ signB (s[k].toNat : Int) = false := by cases signB (s[k].toNat : Int) <;> simp
      rcases hc with hc | hc
      · go_wp2_with (go_at_call 59; go_must (refine (isNamePart_any _ _ hb.1 hb.2).mono ?_; rintro e w' ⟨rfl, rfl⟩))
        go_round
        case rel => exact ⟨k + 1, by omega, by go_num, allB_snoc s k hlt HA.out hc⟩
        case measure => simp [intOf]; omega
      · go_wp2_with (go_at_call 59; go_must (refine (isNamePart_any _ _ hb.1 hb.2).mono ?_; rintro e w' ⟨rfl, rfl⟩))
        go_ret
        exact ⟨ret_bool (by rw [allB_no s k hlt hc]), rfl⟩
    · have hall := allB_all s k (by omega) ha
      have HA : Hid (allB s.data.toList = true) := hall
      clear ha hall
      go_wp2
      go_ret
      exact ⟨ret_bool (by rw [HA.out]), rfl⟩

theorem nameOk_any (s : ByteArray) (w : World) (hs : s.size ≤ maxLen) :
    Calls Tryd.prog 45 #[.string s] w fun e w' => e = .returned (.bool (nameB s)) ∧ w' = w := by
  have hs' := hs
  unfold maxLen at hs
  by_cases h1 : 1 ≤ s.size
  · by_cases h2 : s.size ≤ 10
    · go_enter Tryd.func45, Tryd.ntmps45
      go_wp2_with (go_at_call 48; go_must (refine (madeOf_name _ _ hs').mono ?_; rintro e w' ⟨rfl, rfl⟩))
      go_ret
      exact ⟨ret_bool (nameB_some s h1 h2).symm, rfl⟩
    · go_enter Tryd.func45, Tryd.ntmps45
      go_wp2
      go_ret
      exact ⟨ret_bool (nameB_none s (.inr h2)).symm, rfl⟩
  · go_enter Tryd.func45, Tryd.ntmps45
    go_wp2
    go_ret
    exact ⟨ret_bool (nameB_none s (.inl h1)).symm, rfl⟩
end Go.Proofs.YtafehfpjogbmfaaDoor
