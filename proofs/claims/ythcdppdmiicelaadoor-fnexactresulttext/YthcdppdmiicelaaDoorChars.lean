/-
  What the small tests of bytes answer: those of the program (isSmall, isGreat, isDigit, isNamePart) and those of the specification (l01In, l01Small, l01Great, l01Digit, l01Sign). No conditions but that a byte is one.
-/
import Derived.Test.YthcdppdmiicelaaDoorRows
import Derived.WalkKit
import Derived.ProofKit
import Derived.OpenShut
import Derived.WalkSpells
namespace Go.Proofs.YthcdppdmiicelaaDoor
open Go.ChangeShapes Go.WideShapes Go.ChangeAt Go.RowKit
set_option linter.unusedVariables false

def inB (x a b : Int) : Bool := decide (a ≤ x ∧ x ≤ b)
def signB (n : Int) : Bool := inB n 97 122 || inB n 65 90 || inB n 48 57 || n == 95

theorem ret_bool {a b : Bool} (h : a = b) : Ending.returned (.bool a) = .returned (.bool b) := by rw [h]

theorem l01In_any (x a b : Int) (w : World) :
    Calls Tryd.prog 27 #[.int .i64 x, .int .i64 a, .int .i64 b] w fun e w' => e = .returned (.bool (inB x a b)) ∧ w' = w := by
  by_cases h1 : a ≤ x <;> by_cases h2 : x ≤ b
  all_goals
    go_enter Tryd.func27, Tryd.ntmps27
    go_wp2
    go_ret
    exact ⟨ret_bool (by simp [inB, h1, h2]), rfl⟩

theorem l01Small_any (n : Int) (w : World) (h0 : 0 ≤ n) (h1 : n < 256) :
    Calls Tryd.prog 33 #[.int .u8 n] w fun e w' => e = .returned (.bool (inB n 97 122)) ∧ w' = w := by
  go_enter Tryd.func33, Tryd.ntmps33
  go_wp2_with (go_at_call 27; go_must (refine (l01In_any _ _ _ _).mono ?_; rintro e w' ⟨rfl, rfl⟩))
  go_ret
  exact ⟨rfl, rfl⟩

theorem l01Great_any (n : Int) (w : World) (h0 : 0 ≤ n) (h1 : n < 256) :
    Calls Tryd.prog 44 #[.int .u8 n] w fun e w' => e = .returned (.bool (inB n 65 90)) ∧ w' = w := by
  go_enter Tryd.func44, Tryd.ntmps44
  go_wp2_with (go_at_call 27; go_must (refine (l01In_any _ _ _ _).mono ?_; rintro e w' ⟨rfl, rfl⟩))
  go_ret
  exact ⟨rfl, rfl⟩

theorem l01Digit_any (n : Int) (w : World) (h0 : 0 ≤ n) (h1 : n < 256) :
    Calls Tryd.prog 45 #[.int .u8 n] w fun e w' => e = .returned (.bool (inB n 48 57)) ∧ w' = w := by
  go_enter Tryd.func45, Tryd.ntmps45
  go_wp2_with (go_at_call 27; go_must (refine (l01In_any _ _ _ _).mono ?_; rintro e w' ⟨rfl, rfl⟩))
  go_ret
  exact ⟨rfl, rfl⟩

theorem isSmall_any (n : Int) (w : World) (h0 : 0 ≤ n) (h1 : n < 256) :
    Calls Tryd.prog 41 #[.int .u8 n] w fun e w' => e = .returned (.bool (inB n 97 122)) ∧ w' = w := by
  by_cases h1 : 97 ≤ n <;> by_cases h2 : n ≤ 122
  all_goals
    go_enter Tryd.func41, Tryd.ntmps41
    go_wp2
    go_ret
    exact ⟨ret_bool (by simp [inB, h1, h2]), rfl⟩

theorem isGreat_any (n : Int) (w : World) (h0 : 0 ≤ n) (h1 : n < 256) :
    Calls Tryd.prog 49 #[.int .u8 n] w fun e w' => e = .returned (.bool (inB n 65 90)) ∧ w' = w := by
  by_cases h1 : 65 ≤ n <;> by_cases h2 : n ≤ 90
  all_goals
    go_enter Tryd.func49, Tryd.ntmps49
    go_wp2
    go_ret
    exact ⟨ret_bool (by simp [inB, h1, h2]), rfl⟩

theorem isDigit_any (n : Int) (w : World) (h0 : 0 ≤ n) (h1 : n < 256) :
    Calls Tryd.prog 50 #[.int .u8 n] w fun e w' => e = .returned (.bool (inB n 48 57)) ∧ w' = w := by
  by_cases h1 : 48 ≤ n <;> by_cases h2 : n ≤ 57
  all_goals
    go_enter Tryd.func50, Tryd.ntmps50
    go_wp2
    go_ret
    exact ⟨ret_bool (by simp [inB, h1, h2]), rfl⟩

theorem l01Sign_any (n : Int) (w : World) (h0 : 0 ≤ n) (h1 : n < 256) :
    Calls Tryd.prog 39 #[.int .u8 n] w fun e w' => e = .returned (.bool (signB n)) ∧ w' = w := by
  have hb1 : inB n 97 122 = true ∨ inB n 97 122 = false := by cases inB n 97 122 <;> simp
  have hb2 : inB n 65 90 = true ∨ inB n 65 90 = false := by cases inB n 65 90 <;> simp
  have hb3 : inB n 48 57 = true ∨ inB n 48 57 = false := by cases inB n 48 57 <;> simp
  rcases hb1 with hb1 | hb1 <;> rcases hb2 with hb2 | hb2 <;> rcases hb3 with hb3 | hb3
  all_goals
    go_enter Tryd.func39, Tryd.ntmps39
    go_wp2_with (first
      | (go_at_call 33; go_must (refine (l01Small_any _ _ h0 h1).mono ?_; rintro e w' ⟨rfl, rfl⟩))
      | (go_at_call 44; go_must (refine (l01Great_any _ _ h0 h1).mono ?_; rintro e w' ⟨rfl, rfl⟩))
      | (go_at_call 45; go_must (refine (l01Digit_any _ _ h0 h1).mono ?_; rintro e w' ⟨rfl, rfl⟩)))
    go_ret
    exact ⟨ret_bool (by simp [signB, hb1, hb2, hb3]), rfl⟩

theorem isNamePart_any (n : Int) (w : World) (h0 : 0 ≤ n) (h1 : n < 256) :
    Calls Tryd.prog 47 #[.int .u8 n] w fun e w' => e = .returned (.bool (signB n)) ∧ w' = w := by
  have hb1 : inB n 97 122 = true ∨ inB n 97 122 = false := by cases inB n 97 122 <;> simp
  have hb2 : inB n 65 90 = true ∨ inB n 65 90 = false := by cases inB n 65 90 <;> simp
  have hb3 : inB n 48 57 = true ∨ inB n 48 57 = false := by cases inB n 48 57 <;> simp
  rcases hb1 with hb1 | hb1 <;> rcases hb2 with hb2 | hb2 <;> rcases hb3 with hb3 | hb3
  all_goals
    go_enter Tryd.func47, Tryd.ntmps47
    go_wp2_with (first
      | (go_at_call 41; go_must (refine (isSmall_any _ _ h0 h1).mono ?_; rintro e w' ⟨rfl, rfl⟩))
      | (go_at_call 49; go_must (refine (isGreat_any _ _ h0 h1).mono ?_; rintro e w' ⟨rfl, rfl⟩))
      | (go_at_call 50; go_must (refine (isDigit_any _ _ h0 h1).mono ?_; rintro e w' ⟨rfl, rfl⟩)))
    go_ret
    exact ⟨ret_bool (by simp [signB, hb1, hb2, hb3]), rfl⟩
end Go.Proofs.YthcdppdmiicelaaDoor
