/-
  What FnLex's walk leans on: what the world holds, whether two lists of texts are the same, and plain mathematics of its last tests.
-/
import Derived.Test.YtkomkhiinfdfmaaGreatDoorLexMore
import Derived.Test.YtkomkhiinfdfmaaGreatDoorImplWords
import Derived.Test.YtkomkhiinfdfmaaGreatDoorDrawC
import Derived.Test.YtkomkhiinfdfmaaGreatDoorDrawE
namespace Go.Proofs.YtkomkhiinfdfmaaGreatDoor
open Go.ChangeShapes Go.WideShapes Go.ChangeAt Go.RowKit
set_option linter.unusedVariables false
set_option maxRecDepth 100000

theorem big_any (sp : Option Addr) (n cap : Nat) (w : World) (hn : n ≤ maxLen) :
    Calls Tryz.prog 10 #[.slice sp n cap] w fun e w' => e = .returned (.bool (decide (1048576 < n))) ∧ w' = w := by
  unfold maxLen at hn
  go_enter Tryz.func10, Tryz.ntmps10
  go_wp2
  go_ret
  exact ⟨by simp; omega, rfl⟩

/-- The texts of a row that is owned, cell by cell. -/
theorem strV_cells {w : World} {B g n cap : Nat} {e : TypeId} {xs : List (List UInt8)} (h : w.ownsRow B e 1 (.slice (some ⟨g, 0, none⟩) n cap) n (xs.map strV)) (hn : xs.length = n) :
    ∀ i x, xs[i]? = some x → w.cell? ⟨g, i, none⟩ = some (.string ⟨x.toArray⟩) := by
  intro i x hi
  have hl : i < xs.length := (List.getElem?_eq_some_iff.1 hi).1
  rw [h.cellAt i (by omega)]
  simp [hi, strV]

set_option maxHeartbeats 1000000 in
theorem sameTexts_any (g1 g2 c1 c2 B1 B2 : Nat) (xs : List (List UInt8)) (w : World) (hl : xs.length ≤ 4194304) (hc1 : xs.length ≤ c1) (hc2 : xs.length ≤ c2)
    (h1 : w.ownsRow B1 9 1 (.slice (some ⟨g1, 0, none⟩) xs.length c1) xs.length (xs.map strV)) (h2 : w.ownsRow B2 9 1 (.slice (some ⟨g2, 0, none⟩) xs.length c2) xs.length (xs.map strV)) :
    Calls Tryz.prog 27 #[.slice (some ⟨g1, 0, none⟩) xs.length c1, .slice (some ⟨g2, 0, none⟩) xs.length c2] w fun e w' => e = .returned (.bool true) ∧ ∃ k, w' = w.drewN k := by
  have H1 : Hid (∀ i x, xs[i]? = some x → w.cell? ⟨g1, i, none⟩ = some (.string ⟨x.toArray⟩)) := strV_cells h1 rfl
  have H2 : Hid (∀ i x, xs[i]? = some x → w.cell? ⟨g2, i, none⟩ = some (.string ⟨x.toArray⟩)) := strV_cells h2 rfl
  clear h1 h2
  go_enter Tryz.func27, Tryz.ntmps27
  go_wp2
  go_loopw [5] (fun i wr => ∃ k m : Nat, k ≤ xs.length ∧ i = .int .i64 k ∧ wr = w.drewN m) (fun i _ => xs.length - (intOf i).toNat)
  case atStart => exact ⟨0, 0, Nat.zero_le _, rfl, rfl⟩
  case round =>
    obtain ⟨k, m, hk, rfl, rfl⟩ := hrel
    by_cases hlt : k < xs.length
    · obtain ⟨x, hx⟩ : ∃ x, xs[k]? = some x := ⟨_, List.getElem?_eq_getElem hlt⟩
      have e1 := H1.out k x hx
      have e2 := H2.out k x hx
      generalize (⟨x.toArray⟩ : ByteArray) = X at e1 e2
      go_wp2
      go_quiet (fail)
      go_wp2
      exact ⟨⟨k + 1, m + nq, by omega, by go_num, rfl⟩, by simp [intOf]; omega⟩
    · go_wp2
      go_ret
      exact ⟨rfl, m, rfl⟩

theorem atom_not_var (s : ByteArray) (h : atomB s = true) : varB s = false := by
  unfold atomB at h
  unfold varB
  rw [Bool.and_eq_true, Bool.and_eq_true] at h
  have h1 := of_decide_eq_true h.1.2
  rw [h.1.1, Bool.true_and]
  exact decide_eq_false (by omega)
theorem read_back (s : ByteArray) (h : 0 ≤ readN s) : (Lib.itoa (readN s)).toArray = s.data ∧ -9223372036854775808 ≤ readN s ∧ readN s ≤ 9223372036854775807 := by
  unfold readN at *
  split at h
  · rename_i hd
    rw [if_pos hd]
    have hd' := hd
    unfold decOk at hd
    rw [Bool.and_eq_true, Bool.and_eq_true] at hd
    have he := beq_iff_eq.1 hd.2
    have hz := of_decide_eq_true hd.1.1
    have hv := valOf_bd 6 s.data.toList (by simpa using hz) hd.1.2
    refine ⟨?_, by omega, by omega⟩
    rw [he]
  · omega
end Go.Proofs.YtkomkhiinfdfmaaGreatDoor
