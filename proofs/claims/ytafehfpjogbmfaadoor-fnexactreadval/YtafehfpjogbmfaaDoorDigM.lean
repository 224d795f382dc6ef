/-
  Digits, and the number that they write: the mathematics.
-/
import Derived.Test.YtafehfpjogbmfaaDoorNames
namespace Go.Proofs.YtafehfpjogbmfaaDoor
open Go.ChangeShapes Go.WideShapes Go.ChangeAt Go.RowKit
set_option linter.unusedVariables false

def digB (c : UInt8) : Bool := inB (c.toNat : Int) 48 57
def allDig (l : List UInt8) : Bool := l.all digB
def valOf (l : List UInt8) : Int := l.foldl (fun n c => 10 * n + (c.toNat : Int) - 48) 0

theorem valOf_snoc (l : List UInt8) (c : UInt8) : valOf (l ++ [c]) = 10 * valOf l + (c.toNat : Int) - 48 := by
  simp [valOf, List.foldl_append]
theorem allDig_snoc (s : ByteArray) (k : Nat) (h : k < s.size) (ha : allDig (s.data.toList.take k) = true) (hs : inB (s[k].toNat : Int) 48 57 = true) :
    allDig (s.data.toList.take (k + 1)) = true := by
  rw [take_snoc s k h]; unfold allDig at *; rw [List.all_append, ha]; simp [digB, hs]
theorem allDig_no (s : ByteArray) (k : Nat) (h : k < s.size) (hs : inB (s[k].toNat : Int) 48 57 = false) : allDig s.data.toList = false := by
  unfold allDig
  rw [List.all_eq_false]
  exact ⟨s[k], List.getElem_mem (by simpa using h), by simp [digB, hs]⟩
theorem allDig_all (s : ByteArray) (k : Nat) (h : s.size ≤ k) (ha : allDig (s.data.toList.take k) = true) : allDig s.data.toList = true := by
  rwa [List.take_of_length_le (by simpa using h)] at ha
theorem dig_of (n : Int) (h : inB n 48 57 = true) : 48 ≤ n ∧ n ≤ 57 := of_decide_eq_true h
theorem valOf_bd : ∀ (k : Nat) (l : List UInt8), l.length ≤ k → allDig l = true → 0 ≤ valOf l ∧ valOf l < 10 ^ k
  | 0, l, hl, ha => by
    obtain rfl : l = [] := List.length_eq_zero_iff.1 (by omega)
    exact ⟨by simp [valOf], by simp [valOf]⟩
  | m + 1, l, hl, ha => by
    rcases List.eq_nil_or_concat l with rfl | ⟨L, c, rfl⟩
    · exact ⟨by simp [valOf], by simp only [valOf, List.foldl_nil]; exact Int.pow_pos (by omega)⟩
    · rw [List.concat_eq_append] at hl ha ⊢
      have ha' : allDig L = true ∧ digB c = true := by simpa [allDig] using ha
      rw [List.length_append] at hl
      simp only [List.length_cons, List.length_nil] at hl
      have := valOf_bd m L (by omega) ha'.1
      have hd := dig_of _ ha'.2
      rw [valOf_snoc, Int.pow_succ]
      omega
theorem valOf_le (s : ByteArray) (k : Nat) (hk : k ≤ 9) (ha : allDig (s.data.toList.take k) = true) : 0 ≤ valOf (s.data.toList.take k) ∧ valOf (s.data.toList.take k) < 1000000000 := by
  have h := valOf_bd k (s.data.toList.take k) (List.length_take_le _ _) ha
  refine ⟨h.1, Int.lt_of_lt_of_le h.2 ?_⟩
  rcases (by omega : k = 0 ∨ k = 1 ∨ k = 2 ∨ k = 3 ∨ k = 4 ∨ k = 5 ∨ k = 6 ∨ k = 7 ∨ k = 8 ∨ k = 9) with rfl | rfl | rfl | rfl | rfl | rfl | rfl | rfl | rfl | rfl <;> decide
theorem ret_int {k : IntKind} {a b : Int} (h : a = b) : Ending.returned (.int k a) = .returned (.int k b) := by rw [h]
end Go.Proofs.YtafehfpjogbmfaaDoor
