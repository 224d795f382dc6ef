/-
  Digits, and the number that they write: by contract.
-/
import Derived.Test.YtafehfpjogbmfaaDoorDigM
namespace Go.Proofs.YtafehfpjogbmfaaDoor
open Go.ChangeShapes Go.WideShapes Go.ChangeAt Go.RowKit
set_option linter.unusedVariables false

/-- 'madeOf' of isDigit. -/
theorem madeOf_digit (s : ByteArray) (w : World) (hs : s.size ≤ maxLen) :
    Calls Tryd.prog 48 #[.string s, .func (.func 49) #[] #[]] w fun e w' => e = .returned (.bool (allDig s.data.toList)) ∧ w' = w := by
  unfold maxLen at hs
  go_enter Tryd.func48, Tryd.ntmps48
  go_wp2
  go_loop [8] (fun i => ∃ k : Nat, k ≤ s.size ∧ i = .int .i64 k ∧ allDig (s.data.toList.take k) = true) (fun i => s.size - (intOf i).toNat)
  case atStart => exact ⟨0, Nat.zero_le _, rfl, rfl⟩
  case round =>
    obtain ⟨k, hk, rfl, ha⟩ := hrel
    by_cases hlt : k < s.size
    · have hb := byte_lt s k hlt
      have HA : Hid (allDig (s.data.toList.take k) = true) := ha
      clear ha
      have hc : inB (s[k].toNat : Int) 48 57 = true ∨ inB (s[k].toNat : Int) 48 57 = false := by cases inB (s[k].toNat : Int) 48 57 <;> simp
      rcases hc with hc | hc
      · go_wp2_with (go_at_call 49; go_must (refine (isDigit_any _ _ hb.1 hb.2).mono ?_; rintro e w' ⟨rfl, rfl⟩))
        go_round
        case rel => exact ⟨k + 1, by omega, by go_num, allDig_snoc s k hlt HA.out hc⟩
        case measure => simp [intOf]; omega
      · go_wp2_with (go_at_call 49; go_must (refine (isDigit_any _ _ hb.1 hb.2).mono ?_; rintro e w' ⟨rfl, rfl⟩))
        go_ret
        exact ⟨ret_bool (by rw [allDig_no s k hlt hc]), rfl⟩
    · have HA : Hid (allDig s.data.toList = true) := allDig_all s k (by omega) ha
      clear ha
      go_wp2
      go_ret
      exact ⟨ret_bool (by rw [HA.out]), rfl⟩

/-- 'digitsValue' of at most nine digits. -/
theorem digitsValue_any (s : ByteArray) (w : World) (hs : s.size ≤ 9) (ha : allDig s.data.toList = true) :
    Calls Tryd.prog 50 #[.string s] w fun e w' => e = .returned (.int .i64 (valOf s.data.toList)) ∧ w' = w := by
  have hall : ∀ k, k < s.size → inB (s[k]!.toNat : Int) 48 57 = true := by
    intro k hk
    have := List.all_eq_true.1 ha s[k] (List.getElem_mem (by simpa using hk))
    rw [getElem!_pos s k hk]; exact this
  have HALL : Hid (∀ k, k < s.size → inB (s[k]!.toNat : Int) 48 57 = true) := hall
  have HA : Hid (allDig s.data.toList = true) := ha
  clear hall ha
  go_enter Tryd.func50, Tryd.ntmps50
  go_wp2
  go_loop [3, 7] (fun n i => ∃ k : Nat, k ≤ s.size ∧ i = .int .i64 k ∧ n = .int .i64 (valOf (s.data.toList.take k)) ∧ allDig (s.data.toList.take k) = true) (fun _ i => s.size - (intOf i).toNat)
  case atStart => exact ⟨0, Nat.zero_le _, rfl, rfl, rfl⟩
  case round =>
    obtain ⟨k, hk, rfl, rfl, hd⟩ := hrel
    have hv := valOf_le s k (by omega) hd
    have HD : Hid (allDig (s.data.toList.take k) = true) := hd
    clear hd
    by_cases hlt : k < s.size
    · have hc := HALL.out k hlt
      rw [getElem!_pos s k hlt] at hc
      have hb := dig_of _ hc
      have HC : Hid (inB (s[k].toNat : Int) 48 57 = true) := hc
      clear hc
      have hts := take_snoc s k hlt
      have HT : Hid (s.data.toList.take (k + 1) = s.data.toList.take k ++ [s[k]]) := hts
      clear hts
      obtain ⟨hv0, hv1⟩ := hv
      obtain ⟨hb0, hb1⟩ := hb
      go_wp2
      go_round
      case rel => exact ⟨k + 1, by omega, by go_num, by rw [HT.out, valOf_snoc]; congr 1; omega, allDig_snoc s k hlt HD.out HC.out⟩
      case measure => simp [intOf]; omega
    · go_wp2
      go_ret
      exact ⟨ret_int (by rw [List.take_of_length_le (by simp; omega)]), rfl⟩
end Go.Proofs.YtafehfpjogbmfaaDoor
