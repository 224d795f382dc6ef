/-
  The specification's ModuleOk, by contract: an expression's own parts.
-/
import Derived.Test.YthieikohcoajbaaDoorModOkMath
namespace Go.Proofs.YthieikohcoajbaaDoor
open Go.ChangeShapes Go.WideShapes Go.ChangeAt Go.RowKit
set_option linter.unusedVariables false

set_option maxHeartbeats 1000000 in
theorem l01Has_any (w : World) (g cap : Nat) (ss : List ByteArray) (s : ByteArray) (hl : ss.length ≤ 1000) (h : ∀ i x, ss[i]? = some x → w.cell? ⟨g, i, none⟩ = some (.string x)) :
    Calls Tryd.prog 73 #[.slice (some ⟨g, 0, none⟩) ss.length cap, .string s] w fun e w' => e = .returned (.bool (ss.any fun x => x.toList == s.toList)) ∧ w' = w := by
  have HH : Hid (∀ i x, ss[i]? = some x → w.cell? ⟨g, i, none⟩ = some (.string x)) := h
  generalize hn : ss.length = n at *
  have HN : Hid (ss.length = n) := hn
  clear h hn
  go_enter Tryd.func73, Tryd.ntmps73
  go_wp2
  go_loop [5] (fun iv => ∃ k : Nat, k ≤ n ∧ iv = .int .i64 k ∧ Hid ((ss.take k).any (fun x => x.toList == s.toList) = false)) (fun iv => n - (intOf iv).toNat)
  case atStart => exact ⟨0, Nat.zero_le _, rfl, by show _ = _; simp⟩
  case round =>
    obtain ⟨k, hk, rfl, hno⟩ := hrel
    by_cases hlt : k < n
    · obtain ⟨x, hxk⟩ : ∃ x, ss[k]? = some x := ⟨ss[k]'(by rw [HN.out]; exact hlt), List.getElem?_eq_getElem _⟩
      have a0 := HH.out k x hxk
      have hki : (k : Int) < (n : Int) := by omega
      have hk0 : (0 : Int) ≤ (k : Int) := by omega
      cases hq : (x.toList == s.toList) with
      | true =>
        have HS : Hid ((ss.any fun x => x.toList == s.toList) = true) := anyT_at _ ss k x hxk hq
        go_wp2
        go_ret
        exact ⟨by rw [HS.out]; rfl, rfl⟩
      | false =>
        have HS : Hid ((ss.take (k + 1)).any (fun x => x.toList == s.toList) = false) := anyT_succ _ ss k x hxk hno.out hq
        go_wp2
        go_round
        case rel => exact ⟨k + 1, by omega, by go_num, HS⟩
        case measure => simp [intOf]; omega
    · have HS : Hid ((ss.any fun x => x.toList == s.toList) = false) := by
        have := hno.out
        rwa [List.take_of_length_le (by rw [HN.out]; omega)] at this
      go_wp2
      go_ret
      exact ⟨by rw [HS.out]; rfl, rfl⟩

/-- The five signs. -/
def opsL : List ByteArray := [⟨#[61, 61]⟩, ⟨#[60]⟩, ⟨#[43]⟩, ⟨#[45]⟩, ⟨#[42]⟩]
theorem opsL_any (t : ByteArray) : (opsL.any fun x => x.toList == t.toList) = opB t := by
  have h : ∀ l : List UInt8, (l == t.toList) = (t.toList == l) := fun l => by rw [Bool.eq_iff_iff]; simp; exact eq_comm
  have e0 : (⟨#[61, 61]⟩ : ByteArray).toList = [61, 61] := by rw [ByteArray.toList_eq]
  have e1 : (⟨#[60]⟩ : ByteArray).toList = [60] := by rw [ByteArray.toList_eq]
  have e2 : (⟨#[43]⟩ : ByteArray).toList = [43] := by rw [ByteArray.toList_eq]
  have e3 : (⟨#[45]⟩ : ByteArray).toList = [45] := by rw [ByteArray.toList_eq]
  have e4 : (⟨#[42]⟩ : ByteArray).toList = [42] := by rw [ByteArray.toList_eq]
  simp only [opsL, List.any_cons, List.any_nil, Bool.or_false, opB, e0, e1, e2, e3, e4, h, Bool.or_assoc]
end Go.Proofs.YthieikohcoajbaaDoor
