/-
  What the small tests of bytes answer: those of the program (isSmall, isGreat, isDigit, isNamePart) and those of the specification (l01In, l01Small, l01Great, l01Digit, l01Sign). No conditions but that a byte is one.
-/
import Derived.Test.YtafehfpjogbmfaaDoorRows
import Derived.WalkKit
import Derived.ProofKit
import Derived.OpenShut
import Derived.WalkSpells
namespace Go.Proofs.YtafehfpjogbmfaaDoor
open Go.ChangeShapes Go.WideShapes Go.ChangeAt Go.RowKit
set_option linter.unusedVariables false

def inB (x a b : Int) : Bool := decide (a ≤ x ∧ x ≤ b)
def signB (n : Int) : Bool := inB n 97 122 || inB n 65 90 || inB n 48 57 || n == 95

theorem ret_bool {a b : Bool} (h : a = b) : Ending.returned (.bool a) = .returned (.bool b) := by rw [h]

theorem l01In_any (x a b : Int) (w : World) :
    Calls Tryd.prog 29 #[.int .i64 x, .int .i64 a, .int .i64 b] w fun e w' => e = .returned (.bool (inB x a b)) ∧ w' = w := by
  by_cases h1 : a ≤ x <;> by_cases h2 : x ≤ b
  all_goals
    go_enter Tryd.func29, Tryd.ntmps29
    go_wp2
    go_ret
    exact ⟨ret_bool (by simp [inB, h1, h2]), rfl⟩

theorem l01Small_any (n : Int) (w : World) (h0 : 0 ≤ n) (h1 : n < 256) :
    Calls Tryd.prog 36 #[.int .u8 n] w fun e w' => e = .returned (.bool (inB n 97 122)) ∧ w' = w := by
  go_enter Tryd.func36, Tryd.ntmps36
  go_wp2_with (go_at_call 29; go_must (refine (l01In_any _ _ _ _).mono ?_; rintro e w' ⟨rfl, rfl⟩))
  go_ret
  exact ⟨rfl, rfl⟩

theorem l01Great_any (n : Int) (w : World) (h0 : 0 ≤ n) (h1 : n < 256) :
    Calls Tryd.prog 37 #[.int .u8 n] w fun e w' => e = .returned (.bool (inB n 65 90)) ∧ w' = w := by
  go_enter Tryd.func37, Tryd.ntmps37
  go_wp2_with (go_at_call 29; go_must (refine (l01In_any _ _ _ _).mono ?_; rintro e w' ⟨rfl, rfl⟩))
  go_ret
  exact ⟨rfl, rfl⟩

theorem l01Digit_any (n : Int) (w : World) (h0 : 0 ≤ n) (h1 : n < 256) :
    Calls Tryd.prog 27 #[.int .u8 n] w fun e w' => e = .returned (.bool (inB n 48 57)) ∧ w' = w := by
  go_enter Tryd.func27, Tryd.ntmps27
  go_wp2_with (go_at_call 29; go_must (refine (l01In_any _ _ _ _).mono ?_; rintro e w' ⟨rfl, rfl⟩))
  go_ret
  exact ⟨rfl, rfl⟩

theorem isSmall_any (n : Int) (w : World) (h0 : 0 ≤ n) (h1 : n < 256) :
    Calls Tryd.prog 46 #[.int .u8 n] w fun e w' => e = .returned (.bool (inB n 97 122)) ∧ w' = w := by
  by_cases h1 : 97 ≤ n <;> by_cases h2 : n ≤ 122
  all_goals
    go_enter Tryd.func46, Tryd.ntmps46
    go_wp2
    go_ret
    exact ⟨ret_bool (by simp [inB, h1, h2]), rfl⟩

theorem isGreat_any (n : Int) (w : World) (h0 : 0 ≤ n) (h1 : n < 256) :
    Calls Tryd.prog 62 #[.int .u8 n] w fun e w' => e = .returned (.bool (inB n 65 90)) ∧ w' = w := by
  by_cases h1 : 65 ≤ n <;> by_cases h2 : n ≤ 90
  all_goals
    go_enter Tryd.func62, Tryd.ntmps62
    go_wp2
    go_ret
    exact ⟨ret_bool (by simp [inB, h1, h2]), rfl⟩

theorem isDigit_any (n : Int) (w : World) (h0 : 0 ≤ n) (h1 : n < 256) :
    Calls Tryd.prog 49 #[.int .u8 n] w fun e w' => e = .returned (.bool (inB n 48 57)) ∧ w' = w := by
  by_cases h1 : 48 ≤ n <;> by_cases h2 : n ≤ 57
  all_goals
    go_enter Tryd.func49, Tryd.ntmps49
    go_wp2
    go_ret
    exact ⟨ret_bool (by simp [inB, h1, h2]), rfl⟩

theorem l01Sign_any (n : Int) (w : World) (h0 : 0 ≤ n) (h1 : n < 256) :
    Calls Tryd.prog 25 #[.int .u8 n] w fun e w' => e = .returned (.bool (signB n)) ∧ w' = w := by
  have hb1 : inB n 97 122 = true ∨ inB n 97 122 = false := by cases inB n 97 122 <;> simp
  have hb2 : inB n 65 90 = true ∨ inB n 65 90 = false := by cases inB n 65 90 <;> simp
  have hb3 : inB n 48 57 = true ∨ inB n 48 57 = false := by cases inB n 48 57 <;> simp
  rcases hb1 with hb1 | hb1 <;> rcases hb2 with hb2 | hb2 <;> rcases hb3 with hb3 | hb3
  all_goals
    go_enter Tryd.func25, Tryd.ntmps25
    go_wp2_with (first
      | (go_at_call 36; go_must (refine (l01Small_any _ _ h0 h1).mono ?_; rintro e w' ⟨rfl, rfl⟩))
      | (go_at_call 37; go_must (refine (l01Great_any _ _ h0 h1).mono ?_; rintro e w' ⟨rfl, rfl⟩))
      | (go_at_call 27; go_must (refine (l01Digit_any _ _ h0 h1).mono ?_; rintro e w' ⟨rfl, rfl⟩)))
    go_ret
    exact ⟨ret_bool (by simp [signB, hb1, hb2, hb3]), rfl⟩

theorem isNamePart_any (n : Int) (w : World) (h0 : 0 ≤ n) (h1 : n < 256) :
    Calls Tryd.prog 59 #[.int .u8 n] w fun e w' => e = .returned (.bool (signB n)) ∧ w' = w := by
  have hb1 : inB n 97 122 = true ∨ inB n 97 122 = false := by cases inB n 97 122 <;> simp
  have hb2 : inB n 65 90 = true ∨ inB n 65 90 = false := by cases inB n 65 90 <;> simp
  have hb3 : inB n 48 57 = true ∨ inB n 48 57 = false := by cases inB n 48 57 <;> simp
  rcases hb1 with hb1 | hb1 <;> rcases hb2 with hb2 | hb2 <;> rcases hb3 with hb3 | hb3
  all_goals
    go_enter Tryd.func59, Tryd.ntmps59
    go_wp2_with (first
      | (go_at_call 46; go_must (refine (isSmall_any _ _ h0 h1).mono ?_; rintro e w' ⟨rfl, rfl⟩))
      | (go_at_call 62; go_must (refine (isGreat_any _ _ h0 h1).mono ?_; rintro e w' ⟨rfl, rfl⟩))
      | (go_at_call 49; go_must (refine (isDigit_any _ _ h0 h1).mono ?_; rintro e w' ⟨rfl, rfl⟩)))
    go_ret
    exact ⟨ret_bool (by simp [signB, hb1, hb2, hb3]), rfl⟩
end Go.Proofs.YtafehfpjogbmfaaDoor
