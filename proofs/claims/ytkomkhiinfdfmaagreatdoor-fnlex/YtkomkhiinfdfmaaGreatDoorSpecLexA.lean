/-
  What the specification's l01Has and l01NameTok answer.
-/
import Derived.Test.YtkomkhiinfdfmaaGreatDoorLexMath
namespace Go.Proofs.YtkomkhiinfdfmaaGreatDoor
open Go.ChangeShapes Go.WideShapes Go.ChangeAt Go.RowKit
set_option linter.unusedVariables false

theorem beq_symm_list (a b : List UInt8) : (a == b) = (b == a) := by
  rw [Bool.eq_iff_iff, beq_iff_eq, beq_iff_eq]; exact eq_comm

theorem has_yes {xs : List (List UInt8)} {i : Nat} {x t : List UInt8} (hlt : i < xs.length) (hx : x = xs.getD i []) (hc : x = t) : true = decide (t ∈ xs) := by
  symm
  rw [decide_eq_true_eq, ← hc, hx, List.getD, List.getElem?_eq_getElem hlt]
  exact List.getElem_mem hlt

set_option maxHeartbeats 1000000 in
theorem l01Has_any (b cap : Nat) (xs : List (List UInt8)) (s : ByteArray) (w : World) (hn : xs.length ≤ 4194304) (hcap : xs.length ≤ cap)
    (h : ∀ i, i < xs.length → w.cell? ⟨b, i, none⟩ = some (.string ⟨(xs.getD i []).toArray⟩)) :
    Calls Tryz.prog 94 #[.slice (some ⟨b, 0, none⟩) xs.length cap, .string s] w fun e w' => e = .returned (.bool (xs.contains s.data.toList)) ∧ w' = w := by
  have H : Hid (∀ i, i < xs.length → w.cell? ⟨b, i, none⟩ = some (.string ⟨(xs.getD i []).toArray⟩)) := h
  clear h
  go_enter Tryz.func94, Tryz.ntmps94
  go_wp2
  go_loop [5] (fun iv => ∃ i : Nat, i ≤ xs.length ∧ iv = .int .i64 i ∧ ∀ j, j < i → xs.getD j [] ≠ s.data.toList) (fun iv => xs.length - (intOf iv).toNat)
  case atStart => exact ⟨0, Nat.zero_le _, rfl, fun j hj => by omega⟩
  case round =>
    obtain ⟨i, hi, rfl, hno⟩ := hrel
    have HN : Hid (∀ j, j < i → xs.getD j [] ≠ s.data.toList) := hno
    clear hno
    by_cases hlt : i < xs.length
    · have e1 := H.out i hlt
      obtain ⟨x, hx⟩ : ∃ x, x = xs.getD i [] := ⟨_, rfl⟩
      rw [← hx] at e1
      have HX : Hid (x = xs.getD i []) := hx
      clear hx
      have hts := Lib.toList_data s
      by_cases hc : x = s.data.toList
      · have hb : (x == s.toList) = true := by rw [hts, hc]; simp
        have HC : Hid (x = s.data.toList) := hc
        clear hc hts
        go_wp2
        all_goals go_ret
        all_goals exact ⟨ret_bool (has_yes hlt HX.out HC.out), rfl⟩
      · have hb : (x == s.toList) = false := by rw [hts]; simpa using hc
        have HC : Hid (¬ x = s.data.toList) := hc
        clear hc hts
        go_wp2
        all_goals go_round
        case rel => exact ⟨i + 1, by omega, by go_num, fun j hj => by
          rcases Nat.lt_or_ge j i with h' | h'
          · exact HN.out j h'
          · obtain rfl : j = i := by omega
            rw [← HX.out]; exact HC.out⟩
        case measure => simp [intOf]; omega
    · go_wp2
      go_ret
      refine ⟨ret_bool ?_, rfl⟩
      symm
      rw [Bool.eq_false_iff]
      intro hcon
      obtain ⟨j, hj, he⟩ := List.getElem_of_mem (of_decide_eq_true hcon)
      exact HN.out j (by omega) (by rw [List.getD, List.getElem?_eq_getElem hj]; exact he)

def zeroTok : Value := .agg #[.int .i64 0, .string ⟨#[]⟩, .int .i64 0, .int .i64 0]
def nameTokV (k : Int) (s : ByteArray) : Value := .agg #[.int .i64 k, .string s, .int .i64 0, .int .i64 0]

set_option maxHeartbeats 1000000 in
theorem l01NameTok_any (s : ByteArray) (w : World) (hs : s.size ≤ maxLen) :
    Calls Tryz.prog 93 #[.string s] w fun e w' => (∃ k : Int, ∃ ok : Bool, e = .returned (.tuple #[.agg #[.int .i64 k, .string s, .int .i64 0, .int .i64 0], .bool ok]) ∧ nameKindM s.data.toList = (if ok = true then some k else none)) ∧ Below w.heap.size w w' := by
  have hs' := hs
  unfold maxLen at hs
  have eb : byteArr s.data.toList = s := by unfold byteArr; simp
  have ha : atomB s = true ∨ atomB s = false := by cases atomB s <;> simp
  rcases ha with ha | ha
  · go_enter Tryz.func93, Tryz.ntmps93
    go_wp2_with (go_at_call 20; go_must (refine (specAtomOk_any _ _ hs').mono ?_; rintro e w' ⟨rfl, rfl⟩))
    refine bodyPost_ret (v := .tuple #[.agg #[.int .i64 0, .string s, .int .i64 0, .int .i64 0], .bool true]) (by simp [results, Tryz.results93, go_sem]) rfl ⟨⟨0, true, rfl, by simp [nameKindM, eb, ha]⟩, ?_⟩
    exact (Below.refl _ _).alloc (Nat.le_refl _) _
  · have hv : varB s = true ∨ varB s = false := by cases varB s <;> simp
    rcases hv with hv | hv
    · go_enter Tryz.func93, Tryz.ntmps93
      go_wp2_with (first
        | (go_at_call 20; go_must (refine (specAtomOk_any _ _ hs').mono ?_; rintro e w' ⟨rfl, rfl⟩))
        | (go_at_call 22; go_must (refine (specVarOk_any _ _ hs').mono ?_; rintro e w' ⟨rfl, rfl⟩)))
      refine bodyPost_ret (v := .tuple #[.agg #[.int .i64 1, .string s, .int .i64 0, .int .i64 0], .bool true]) (by simp [results, Tryz.results93, go_sem]) rfl ⟨⟨1, true, rfl, by simp [nameKindM, eb, ha, hv]⟩, ?_⟩
      exact (Below.refl _ _).alloc (Nat.le_refl _) _
    · have hk : keyB s = true ∨ keyB s = false := by cases keyB s <;> simp
      rcases hk with hk | hk
      · go_enter Tryz.func93, Tryz.ntmps93
        go_wp2_with (first
          | (go_at_call 20; go_must (refine (specAtomOk_any _ _ hs').mono ?_; rintro e w' ⟨rfl, rfl⟩))
          | (go_at_call 22; go_must (refine (specVarOk_any _ _ hs').mono ?_; rintro e w' ⟨rfl, rfl⟩))
          | (go_at_call 57; go_must (refine (l01Key_any _ _).mono ?_; rintro e w' ⟨rfl, rfl⟩)))
        refine bodyPost_ret (v := .tuple #[.agg #[.int .i64 3, .string s, .int .i64 0, .int .i64 0], .bool true]) (by simp [results, Tryz.results93, go_sem]) rfl ⟨⟨3, true, rfl, by simp [nameKindM, eb, ha, hv, hk]⟩, ?_⟩
        exact (Below.refl _ _).alloc (Nat.le_refl _) _
      · have hts := Lib.toList_data s
        have hu : (s.toList == [95]) = true ∨ (s.toList == [95]) = false := by cases (s.toList == [95]) <;> simp
        rcases hu with hu | hu
        · have hu' : s.data.toList = [95] := by rw [hts] at hu; simpa using hu
          have HU : Hid (s.data.toList = [95]) := hu'
          clear hu' hts
          go_enter Tryz.func93, Tryz.ntmps93
          go_wp2_with (first
            | (go_at_call 20; go_must (refine (specAtomOk_any _ _ hs').mono ?_; rintro e w' ⟨rfl, rfl⟩))
            | (go_at_call 22; go_must (refine (specVarOk_any _ _ hs').mono ?_; rintro e w' ⟨rfl, rfl⟩))
            | (go_at_call 57; go_must (refine (l01Key_any _ _).mono ?_; rintro e w' ⟨rfl, rfl⟩)))
          refine bodyPost_ret (v := .tuple #[.agg #[.int .i64 3, .string s, .int .i64 0, .int .i64 0], .bool true]) (by simp [results, Tryz.results93, go_sem]) rfl ⟨⟨3, true, rfl, by rw [nameKindM, eb, ha, hv, hk]; simp [HU.out]⟩, ?_⟩
          exact (Below.refl _ _).alloc (Nat.le_refl _) _
        · have hu' : ¬ s.data.toList = [95] := by rw [hts] at hu; simpa using hu
          have HU : Hid (¬ s.data.toList = [95]) := hu'
          clear hu' hts
          go_enter Tryz.func93, Tryz.ntmps93
          go_wp2_with (first
            | (go_at_call 20; go_must (refine (specAtomOk_any _ _ hs').mono ?_; rintro e w' ⟨rfl, rfl⟩))
            | (go_at_call 22; go_must (refine (specVarOk_any _ _ hs').mono ?_; rintro e w' ⟨rfl, rfl⟩))
            | (go_at_call 57; go_must (refine (l01Key_any _ _).mono ?_; rintro e w' ⟨rfl, rfl⟩)))
          refine bodyPost_ret (v := .tuple #[.agg #[.int .i64 3, .string s, .int .i64 0, .int .i64 0], .bool false]) (by simp [results, Tryz.results93, go_sem]) rfl ⟨⟨3, false, rfl, by rw [nameKindM, eb, ha, hv, hk]; simp [HU.out]⟩, ?_⟩
          exact (Below.refl _ _).alloc (Nat.le_refl _) _
end Go.Proofs.YtkomkhiinfdfmaaGreatDoor
