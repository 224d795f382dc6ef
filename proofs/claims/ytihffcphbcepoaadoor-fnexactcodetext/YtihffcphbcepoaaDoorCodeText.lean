/-
  What CodeText answers, of the program and of the specification, at every number. Condition: the program's variable of the seven texts holds them.
-/
import Derived.Test.YtihffcphbcepoaaDoorRows
import Derived.WalkKit
import Derived.ProofKit
import Derived.OpenShut
import Derived.WalkSpells
namespace Go.Proofs.YtihffcphbcepoaaDoor
open Go.ChangeShapes Go.WideShapes Go.ChangeAt Go.RowKit
set_option linter.unusedVariables false

def inB (x a b : Int) : Bool := decide (a ≤ x ∧ x ≤ b)

theorem l01In_any (x a b : Int) (w : World) :
    Calls Tryd.prog 6 #[.int .i64 x, .int .i64 a, .int .i64 b] w fun e w' => e = .returned (.bool (inB x a b)) ∧ w' = w := by
  by_cases h1 : a ≤ x <;> by_cases h2 : x ≤ b
  all_goals
    go_enter Tryd.func6, Tryd.ntmps6
    go_wp2
    go_ret
    exact ⟨by simp [inB, h1, h2], rfl⟩

theorem within_any (a b c : Int) (w : World) : Calls Tryd.prog 7 #[.int .i64 a, .int .i64 b, .int .i64 c] w fun e w' => e = .returned (.bool (inB a b c)) ∧ w' = w := by
  by_cases h1 : b ≤ a <;> by_cases h2 : a ≤ c
  all_goals
    go_enter Tryd.func7, Tryd.ntmps7
    go_wp2
    go_ret
    exact ⟨by simp [inB, h1, h2], rfl⟩

/-- The text of a code, 0 to 6. -/
def codeT (n : Nat) : ByteArray := ([⟨#[111, 107]⟩, ⟨#[98, 97, 100]⟩, ⟨#[110, 111, 110, 101]⟩, ⟨#[110, 97, 109, 101]⟩, ⟨#[116, 97, 107, 101, 110]⟩, ⟨#[115, 104, 97, 112, 101]⟩, ⟨#[102, 117, 108, 108]⟩] : List ByteArray).getD n ByteArray.empty
/-- The text of any number. -/
def codeZ (n : Int) : ByteArray := if inB n 0 6 then codeT n.toNat else ByteArray.empty

/-- The seven texts lie in the program's variable. -/
def CodesAt (w : World) : Prop := ∀ n, n < 7 → w.cell? ⟨0, n, none⟩ = some (.string (codeT n))

theorem specCodeText_any (n : Int) (w : World) :
    Calls Tryd.prog 4 #[.int .i64 n] w fun e w' => e = .returned (.string (codeZ n)) ∧ Below w.heap.size w w' := by
  by_cases h : inB n 0 6 = true
  · have hb := h
    simp only [inB, decide_eq_true_eq] at hb
    obtain ⟨k, rfl⟩ : ∃ k : Nat, n = k := ⟨n.toNat, by omega⟩
    have hc : codeZ k = codeT k := by simp [codeZ, h]
    rw [hc]
    clear hc
    rcases (by omega : k = 0 ∨ k = 1 ∨ k = 2 ∨ k = 3 ∨ k = 4 ∨ k = 5 ∨ k = 6) with rfl | rfl | rfl | rfl | rfl | rfl | rfl
    all_goals
      go_enter Tryd.func4, Tryd.ntmps4
      go_wp2_with (go_at_call 6; go_must (refine (l01In_any _ _ _ _).mono ?_; rintro e w' ⟨rfl, rfl⟩))
      go_ret
      exact ⟨rfl, (Below.refl _ _).alloc (Nat.le_refl _) _⟩
  · have h' : inB n 0 6 = false := by simpa using h
    have hc : codeZ n = ByteArray.empty := by simp [codeZ, h']
    rw [hc]
    clear hc
    go_enter Tryd.func4, Tryd.ntmps4
    go_wp2_with (go_at_call 6; go_must (refine (l01In_any _ _ _ _).mono ?_; rintro e w' ⟨rfl, rfl⟩))
    go_ret
    exact ⟨rfl, Below.refl _ _⟩

theorem implCodeText_any (n : Int) (w : World) (hk : CodesAt w) :
    Calls Tryd.prog 5 #[.int .i64 n] w fun e w' => e = .returned (.string (codeZ n)) ∧ w' = w := by
  by_cases h : inB n 0 6 = true
  · have hb := h
    simp only [inB, decide_eq_true_eq] at hb
    obtain ⟨k, rfl⟩ : ∃ k : Nat, n = k := ⟨n.toNat, by omega⟩
    have hc : codeZ k = codeT k := by simp [codeZ, h]
    rw [hc]
    have hk' := hk k (by omega)
    clear hc hk
    rcases (by omega : k = 0 ∨ k = 1 ∨ k = 2 ∨ k = 3 ∨ k = 4 ∨ k = 5 ∨ k = 6) with rfl | rfl | rfl | rfl | rfl | rfl | rfl
    all_goals
      go_enter Tryd.func5, Tryd.ntmps5
      go_wp2_with (go_at_call 7; go_must (refine (within_any _ _ _ _).mono ?_; rintro e w' ⟨rfl, rfl⟩))
      go_ret
      exact ⟨rfl, rfl⟩
  · have h' : inB n 0 6 = false := by simpa using h
    have hc : codeZ n = ByteArray.empty := by simp [codeZ, h']
    rw [hc]
    clear hc hk
    go_enter Tryd.func5, Tryd.ntmps5
    go_wp2_with (go_at_call 7; go_must (refine (within_any _ _ _ _).mono ?_; rintro e w' ⟨rfl, rfl⟩))
    go_ret
    exact ⟨rfl, rfl⟩
end Go.Proofs.YtihffcphbcepoaaDoor
