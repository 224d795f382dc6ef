/-
  The mathematics of a value that is read: where it ends.
-/
import Derived.Test.YtafehfpjogbmfaaDoorRvMath
namespace Go.Proofs.YtafehfpjogbmfaaDoor
open Go.ChangeShapes Go.WideShapes Go.ChangeAt Go.RowKit
set_option linter.unusedVariables false
set_option maxRecDepth 100000

/-- What a reader that begins at a place may say of the place behind: none, or one further on. -/
def EndsV (n : Nat) (V : Nat → Va × Int) : Prop := ∀ i, i ≤ n → (V i).2 = -1 ∨ ((i : Int) < (V i).2 ∧ (V i).2 ≤ n)
theorem rvT_ends {l : List UInt8} {V : Nat → Va × Int} (hV : EndsV l.length V) : ∀ k acc i, i ≤ l.length → (rvT l V k acc i).2 = -1 ∨ ((i : Int) < (rvT l V k acc i).2 ∧ (rvT l V k acc i).2 ≤ l.length)
  | 0, _, _, _ => .inl rfl
  | k + 1, acc, i, hi => by
    unfold rvT
    by_cases h1 : (V i).2 < 0 ∨ (l.length : Int) ≤ (V i).2 ∨ (l.getD (V i).2.toNat 0 ≠ 44 ∧ l.getD (V i).2.toNat 0 ≠ 125)
    · rw [if_pos h1]; exact .inl rfl
    · rw [if_neg h1]
      have := hV i hi
      by_cases h2 : l.getD (V i).2.toNat 0 = 125
      · rw [if_pos h2]
        exact .inr ⟨by show (i : Int) < (V i).2 + 1; omega, by show (V i).2 + 1 ≤ (l.length : Int); omega⟩
      · rw [if_neg h2]
        rcases rvT_ends hV k (acc ++ [(V i).1]) ((V i).2.toNat + 1) (by omega) with h | h
        · exact .inl h
        · exact .inr ⟨by omega, h.2⟩
theorem rvC_ends {l : List UInt8} {V : Nat → Va × Int} (hV : EndsV l.length V) {i : Nat} (hi : i < l.length) : (rvC l V i).2 = -1 ∨ ((i : Int) < (rvC l V i).2 ∧ (rvC l V i).2 ≤ l.length) := by
  unfold rvC
  by_cases h1 : (V (i + 1)).2 < 0 ∨ (l.length : Int) ≤ (V (i + 1)).2 ∨ l.getD (V (i + 1)).2.toNat 0 ≠ 124
  · rw [if_pos h1]; exact .inl rfl
  · rw [if_neg h1]
    by_cases h2 : (V ((V (i + 1)).2.toNat + 1)).2 < 0 ∨ (l.length : Int) ≤ (V ((V (i + 1)).2.toNat + 1)).2 ∨ l.getD (V ((V (i + 1)).2.toNat + 1)).2.toNat 0 ≠ 93
    · rw [if_pos h2]; exact .inl rfl
    · rw [if_neg h2]
      have a1 := hV (i + 1) (by omega)
      have a2 := hV ((V (i + 1)).2.toNat + 1) (by omega)
      exact .inr ⟨by show (i : Int) < _ + 1; omega, by show _ + 1 ≤ (l.length : Int); omega⟩
theorem rvV_ends {l : List UInt8} : ∀ d, EndsV l.length (rvV l d)
  | 0, i, _ => .inl rfl
  | d + 1, i, hi => by
    unfold rvV
    by_cases h0 : ¬ i < l.length
    · rw [if_pos h0]; exact .inl rfl
    · rw [if_neg h0]
      have hil : i < l.length := Decidable.not_not.1 h0
      by_cases h1 : l.getD i 0 = 123
      · rw [if_pos h1]
        rcases rvT_ends (rvV_ends d) (l.length + 1) [] (i + 1) hil with h | h
        · exact .inl h
        · exact .inr ⟨by omega, h.2⟩
      · rw [if_neg h1]
        by_cases h2 : l.getD i 0 = 91 ∧ i + 1 < l.length ∧ l.getD (i + 1) 0 = 93
        · rw [if_pos h2]
          exact .inr ⟨by show (i : Int) < (i : Int) + 2; omega, by show (i : Int) + 2 ≤ _; omega⟩
        · rw [if_neg h2]
          by_cases h3 : l.getD i 0 = 91
          · rw [if_pos h3]; exact rvC_ends (rvV_ends d) hil
          · rw [if_neg h3]
            have hg := runEnd_ge nmB l i
            have hl := runEnd_le nmB l i hi
            by_cases h4 : (plainV (cut l i (runEnd nmB l i))).2 = true
            · rw [if_pos h4]
              refine .inr ⟨?_, by show ((runEnd nmB l i : Nat) : Int) ≤ _; omega⟩
              show (i : Int) < ((runEnd nmB l i : Nat) : Int)
              by_cases he : runEnd nmB l i = i
              · exfalso
                rw [he] at h4
                have : cut l i i = [] := by unfold cut; simp
                rw [this, plainV_nil] at h4
                cases h4
              · omega
            · rw [if_neg h4]; exact .inl rfl
end Go.Proofs.YtafehfpjogbmfaaDoor
