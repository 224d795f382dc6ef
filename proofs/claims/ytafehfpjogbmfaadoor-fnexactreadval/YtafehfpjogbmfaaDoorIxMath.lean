/-
  Runes beyond ASCII: where they stand no ASCII byte is passed over, and their texts end in no ASCII byte. The mathematics, and the model's iterator over a text wherever it lies.
-/
import Derived.Test.YtafehfpjogbmfaaDoorLexMath
import Derived.Laws.RangeAny
import Derived.Lib.IndexAny
namespace Go.Proofs.YtafehfpjogbmfaaDoor
open Go.ChangeShapes Go.WideShapes Go.ChangeAt Go.RowKit
set_option linter.unusedVariables false
set_option maxRecDepth 100000

theorem getb_at (s : ByteArray) (p : Nat) (h : p < s.size) : s.get! p = s[p]'h := by
  show s.get! p = _
  simp [ByteArray.get!, getElem!_pos, h]
  rfl
/-- What a rune passes over are bytes of no ASCII sign. -/
theorem decode_skip (s : ByteArray) (i : Nat) (h : i < s.size) (hi : 128 ≤ (s[i]'h).toNat) (j : Nat) (hj : j < (Utf8.decode s i).2) : i + j < s.size ∧ 128 ≤ (s.get! (i + j)).toNat := by
  by_cases h0 : j = 0
  · subst h0
    exact ⟨h, by rw [get_at s i h]; exact hi⟩
  · have hn : ¬ (s[i]'h).toNat < 128 := by omega
    have c : ∀ k, (decide (i + k < s.size) && ((s.get! (i + k)).toNat / 64 == 2)) = true → i + k < s.size ∧ 128 ≤ (s.get! (i + k)).toNat := by
      intro k hk
      simp only [Bool.and_eq_true, decide_eq_true_eq, beq_iff_eq] at hk
      exact ⟨hk.1, by omega⟩
    revert hj
    unfold Utf8.decode
    simp only [get_at s i h, hn, if_false]
    split
    · rename_i hq
      simp only [Bool.and_eq_true] at hq
      split
      · intro hj
        obtain rfl : j = 1 := by simp only at hj; omega
        exact c 1 (by simp only [Bool.and_eq_true]; exact hq.2)
      · intro hj; simp only at hj; omega
    · split
      · rename_i hq
        simp only [Bool.and_eq_true] at hq
        split
        · intro hj
          rcases (by simp only at hj; omega : j = 1 ∨ j = 2) with rfl | rfl
          · exact c 1 (by simp only [Bool.and_eq_true]; exact hq.1.2)
          · exact c 2 (by simp only [Bool.and_eq_true]; exact hq.2)
        · intro hj; simp only at hj; omega
      · split
        · rename_i hq
          simp only [Bool.and_eq_true] at hq
          split
          · intro hj
            rcases (by simp only at hj; omega : j = 1 ∨ j = 2 ∨ j = 3) with rfl | rfl | rfl
            · exact c 1 (by simp only [Bool.and_eq_true]; exact hq.1.1.2)
            · exact c 2 (by simp only [Bool.and_eq_true]; exact hq.1.2)
            · exact c 3 (by simp only [Bool.and_eq_true]; exact hq.2)
          · intro hj; simp only at hj; omega
        · intro hj; simp only at hj; omega
theorem low_byte (n : Nat) : 128 ≤ (UInt8.ofNat (0x80 + n % 64)).toNat := by
  simp [UInt8.toNat_ofNat']; omega
/-- The text of a rune beyond ASCII. -/
theorem encode_high (r : Int) (h : 128 ≤ r) : (∃ a b, Utf8.encode r = ⟨#[a, b]⟩ ∧ 128 ≤ b.toNat) ∨ (∃ a b c, Utf8.encode r = ⟨#[a, b, c]⟩ ∧ 128 ≤ c.toNat) ∨ (∃ a b c d, Utf8.encode r = ⟨#[a, b, c, d]⟩ ∧ 128 ≤ d.toNat) := by
  unfold Utf8.encode
  have hc : 128 ≤ (if Utf8.valid r then r.toNat else Utf8.runeError) := by
    split
    · omega
    · decide
  generalize (if Utf8.valid r then r.toNat else Utf8.runeError) = c at hc
  simp only
  rw [if_neg (by omega)]
  split
  · exact .inl ⟨_, _, rfl, low_byte _⟩
  · split
    · exact .inr (.inl ⟨_, _, _, rfl, low_byte _⟩)
    · exact .inr (.inr ⟨_, _, _, _, rfl, low_byte _⟩)

/-- The iterator's next rune, wherever the iterator lies. -/
theorem next_at {P : Program} (w : World) (a : Nat) (s : ByteArray) (pos : Nat) (ty : TypeId) (hw : w.heap[a]? = some (.stringIter s pos)) (h : pos < s.size) :
    (Instr.next (.pointer (some ⟨a, 0, none⟩)) true ty).run P w = .ok (.tuple #[.bool true, .int .i64 pos, .int .i32 (Utf8.decode s pos).1]) { w with heap := w.heap.setIfInBounds a (.stringIter s (pos + (Utf8.decode s pos).2)) } := by
  simp only [Instr.next, getObj, setObj, Sem.run_bind, Sem.run, hw, Result.andThen, h, if_true]
  simp [goInt]
theorem next_end {P : Program} (w : World) (a : Nat) (s : ByteArray) (pos : Nat) (ty : TypeId) (hw : w.heap[a]? = some (.stringIter s pos)) (h : ¬ pos < s.size) :
    (Instr.next (.pointer (some ⟨a, 0, none⟩)) true ty).run P w = .ok (.tuple #[.bool false]) w := by
  simp [Instr.next, getObj, Sem.run, hw, h]
end Go.Proofs.YtafehfpjogbmfaaDoor
