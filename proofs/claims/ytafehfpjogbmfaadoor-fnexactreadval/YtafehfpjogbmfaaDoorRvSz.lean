/-
  A value that was read has no more places than thrice its text's bytes.
-/
import Derived.Test.YtafehfpjogbmfaaDoorRvMath2
import Derived.Test.YtafehfpjogbmfaaDoorRvSpecE
import Derived.Test.YtafehfpjogbmfaaDoorValMark
namespace Go.Proofs.YtafehfpjogbmfaaDoor
open Go.ChangeShapes Go.WideShapes Go.ChangeAt Go.RowKit
set_option linter.unusedVariables false
set_option maxRecDepth 100000

def CntV (n : Nat) (V : Nat → Va × Int) : Prop := ∀ (D i : Nat), i ≤ n → (V i).2 = -1 ∨ (cntV D (V i).1 : Int) + 3 * i ≤ 3 * (V i).2
theorem cntV_le (D : Nat) (k n : Int) (t : ByteArray) : cntV D (.mk k n t []) ≤ 3 := by
  cases D with
  | zero => exact Nat.zero_le _
  | succ D => simp [cntV, Va.kids]
theorem rvT_cnt {l : List UInt8} {V : Nat → Va × Int} (hV : EndsV l.length V) (hC : CntV l.length V) (D : Nat) : ∀ k acc i, i ≤ l.length → (rvT l V k acc i).2 = -1 ∨ (cntV (D + 1) (rvT l V k acc i).1 : Int) + 3 * i ≤ 3 * (rvT l V k acc i).2 + (acc.map (cntV D)).sum
  | 0, _, _, _ => .inl rfl
  | k + 1, acc, i, hi => by
    unfold rvT
    by_cases h1 : (V i).2 < 0 ∨ (l.length : Int) ≤ (V i).2 ∨ (l.getD (V i).2.toNat 0 ≠ 44 ∧ l.getD (V i).2.toNat 0 ≠ 125)
    · rw [if_pos h1]; exact .inl rfl
    · rw [if_neg h1]
      have a1 := hV i hi
      have a2 := hC D i hi
      have hs : ((acc ++ [(V i).1]).map (cntV D)).sum = (acc.map (cntV D)).sum + cntV D (V i).1 := by simp
      by_cases h2 : l.getD (V i).2.toNat 0 = 125
      · rw [if_pos h2]
        refine .inr ?_
        show ((3 + ((acc ++ [(V i).1]).map (cntV D)).sum : Nat) : Int) + 3 * i ≤ 3 * ((V i).2 + 1) + _
        rw [hs]
        omega
      · rw [if_neg h2]
        rcases rvT_cnt hV hC D k (acc ++ [(V i).1]) ((V i).2.toNat + 1) (by omega) with h | h
        · exact .inl h
        · rw [hs] at h
          exact .inr (by omega)
theorem rvC_cnt {l : List UInt8} {V : Nat → Va × Int} (hV : EndsV l.length V) (hC : CntV l.length V) {i : Nat} (hi : i < l.length) (D : Nat) : (rvC l V i).2 = -1 ∨ (cntV (D + 1) (rvC l V i).1 : Int) + 3 * i ≤ 3 * (rvC l V i).2 := by
  unfold rvC
  by_cases h1 : (V (i + 1)).2 < 0 ∨ (l.length : Int) ≤ (V (i + 1)).2 ∨ l.getD (V (i + 1)).2.toNat 0 ≠ 124
  · rw [if_pos h1]; exact .inl rfl
  · rw [if_neg h1]
    by_cases h2 : (V ((V (i + 1)).2.toNat + 1)).2 < 0 ∨ (l.length : Int) ≤ (V ((V (i + 1)).2.toNat + 1)).2 ∨ l.getD (V ((V (i + 1)).2.toNat + 1)).2.toNat 0 ≠ 93
    · rw [if_pos h2]; exact .inl rfl
    · rw [if_neg h2]
      have a1 := hV (i + 1) (by omega)
      have a2 := hV ((V (i + 1)).2.toNat + 1) (by omega)
      have b1 := hC D (i + 1) (by omega)
      have b2 := hC D ((V (i + 1)).2.toNat + 1) (by omega)
      refine .inr ?_
      show ((3 + (([(V (i + 1)).1, (V ((V (i + 1)).2.toNat + 1)).1]).map (cntV D)).sum : Nat) : Int) + 3 * i ≤ 3 * ((V ((V (i + 1)).2.toNat + 1)).2 + 1)
      simp only [List.map_cons, List.map_nil, List.sum_cons, List.sum_nil]
      omega
theorem rvV_cnt {l : List UInt8} : ∀ d, CntV l.length (rvV l d)
  | 0, _, i, _ => .inl rfl
  | d + 1, D, i, hi => by
    have he := rvV_ends (l := l) (d + 1) i hi
    cases D with
    | zero =>
      rcases he with he | he
      · exact .inl he
      · exact .inr (by show (0 : Int) + _ ≤ _; omega)
    | succ D =>
      unfold rvV at he ⊢
      by_cases h0 : ¬ i < l.length
      · rw [if_pos h0]; exact .inl rfl
      · rw [if_neg h0] at he ⊢
        have hil : i < l.length := Decidable.not_not.1 h0
        by_cases h1 : l.getD i 0 = 123
        · rw [if_pos h1] at he ⊢
          rcases rvT_cnt (rvV_ends d) (rvV_cnt d) D (l.length + 1) [] (i + 1) hil with h | h
          · exact .inl h
          · simp only [List.map_nil, List.sum_nil] at h
            exact .inr (by omega)
        · rw [if_neg h1] at he ⊢
          by_cases h2 : l.getD i 0 = 91 ∧ i + 1 < l.length ∧ l.getD (i + 1) 0 = 93
          · rw [if_pos h2]
            have := cntV_le (D + 1) 3 0 ⟨#[]⟩
            exact .inr (by show ((cntV (D + 1) (.mk 3 0 ⟨#[]⟩ []) : Nat) : Int) + 3 * i ≤ 3 * ((i : Int) + 2); omega)
          · rw [if_neg h2] at he ⊢
            by_cases h3 : l.getD i 0 = 91
            · rw [if_pos h3]; exact rvC_cnt (rvV_ends d) (rvV_cnt d) hil D
            · rw [if_neg h3] at he ⊢
              by_cases h4 : (plainV (cut l i (runEnd nmB l i))).2 = true
              · rw [if_pos h4] at he ⊢
                obtain ⟨a, b, t, hp⟩ := plainV_leaf (cut l i (runEnd nmB l i))
                have := cntV_le (D + 1) a b t
                rw [hp] at he ⊢
                simp only at he ⊢
                exact .inr (by omega)
              · rw [if_neg h4]; exact .inl rfl
theorem rdV_cnt (l : List UInt8) (D : Nat) : cntV D (rdV l).1 ≤ 3 * l.length + 3 := by
  unfold rdV
  by_cases h : (rvV l 61 0).2 = (l.length : Int) ∧ vaOk (SizeOf.sizeOf (rvV l 61 0).1) (rvV l 61 0).1 200 = true
  · rw [if_pos h]
    have := rvV_cnt (l := l) 61 D 0 (Nat.zero_le _)
    have h1 := h.1
    show cntV D (rvV l 61 0).1 ≤ _
    omega
  · rw [if_neg h]
    have := cntV_le D 0 0 ⟨#[]⟩
    show cntV D va0 ≤ _
    unfold va0
    omega
end Go.Proofs.YtafehfpjogbmfaaDoor
