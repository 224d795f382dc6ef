/-
  What the specification's l01Next answers: the word at a place, and the place behind it, or -1. Condition: the text has at most 4000 bytes, and the place is one of it.
-/
import Derived.Test.YtkomkhiinfdfmaaGreatDoorSpecLexA
namespace Go.Proofs.YtkomkhiinfdfmaaGreatDoor
open Go.ChangeShapes Go.WideShapes Go.ChangeAt Go.RowKit
set_option linter.unusedVariables false

theorem getD_byte (s : ByteArray) (k : Nat) (h : k < s.size) : s.data.toList.getD k 0 = s[k] := by
  have h' : k < s.data.toList.length := by simpa using h
  rw [List.getD, List.getElem?_eq_getElem h']; rfl
theorem cut_snoc (l : List UInt8) (i k : Nat) (hi : i ≤ k) (hk : k < l.length) : cut l i (k + 1) = cut l i k ++ [l.getD k 0] := by
  unfold cut
  rw [show k + 1 - i = (k - i) + 1 by omega, List.take_succ_eq_append_getElem (by rw [List.length_drop]; omega)]
  simp [List.getElem_drop, show i + (k - i) = k by omega, List.getD, hk]
theorem cut_self (l : List UInt8) (i : Nat) : cut l i i = [] := by simp [cut]
theorem cut_length (l : List UInt8) (i k : Nat) (hk : k ≤ l.length) : (cut l i k).length = k - i := by
  unfold cut; rw [List.length_take, List.length_drop]; omega
theorem extract_cut (s : ByteArray) (i k : Nat) : s.extract i k = byteArr (cut s.data.toList i k) := by
  unfold byteArr cut
  apply ByteArray.ext
  apply Array.ext'
  rw [ByteArray.data_extract, Array.toList_extract, List.extract_eq_take_drop]

/-- What l01Next hands back. -/
def NextIs (l : List UInt8) (i : Nat) (tv : Value) (k : Int) : Prop :=
  (∃ t k', tokAt l i 0 = some (t, k') ∧ tv = t.agg ∧ k = (k' : Int)) ∨ (tokAt l i 0 = none ∧ tv = .agg #[.int .i64 0, .string ⟨#[]⟩, .int .i64 0, .int .i64 0] ∧ k = -1)

theorem next_digit_no {l : List UInt8} {i : Nat} (hd : digB (l.getD i 0) = true) (h : ¬ runEnd digB l i - i ≤ 9) : tokAt l i 0 = none := by
  simp only [tokAt]; rw [if_pos hd, if_neg h]
theorem next_digit_yes {l : List UInt8} {i k : Nat} (hd : digB (l.getD i 0) = true) (h : runEnd digB l i = k) (h9 : k - i ≤ 9) : tokAt l i 0 = some (⟨2, [], valOf (cut l i k), 0⟩, k) := by
  simp only [tokAt]; rw [if_pos hd, h, if_pos h9]

set_option maxHeartbeats 2000000 in
theorem l01Next_digit (s : ByteArray) (i : Nat) (w : World) (hs : s.size ≤ 4000) (hi : i < s.size) (hd : inB (s[i].toNat : Int) 48 57 = true) :
    Calls Tryz.prog 49 #[.string s, .int .i64 i] w fun e w' => (∃ tv k, e = .returned (.tuple #[tv, .int .i64 k]) ∧ NextIs s.data.toList i tv k) ∧ Below w.heap.size w w' := by
  have hb := byte_lt s i hi
  have hd0 : digB (s.data.toList.getD i 0) = true := by rw [getD_byte s i hi]; exact hd
  have HD0 : Hid (digB (s.data.toList.getD i 0) = true) := hd0
  have hll : s.data.toList.length = s.size := by simp
  have HLL : Hid (s.data.toList.length = s.size) := hll
  clear hd0 hll
  go_enter Tryz.func49, Tryz.ntmps49
  go_wp2_with (go_at_call 64; go_must (refine (l01Digit_any _ _ hb.1 hb.2).mono ?_; rintro e w' ⟨rfl, rfl⟩))
  go_loopw [6, 7] (fun kv nv wr => ∃ k : Nat, i ≤ k ∧ k ≤ s.size ∧ k ≤ i + 10 ∧ kv = .int .i64 k ∧ nv = .int .i64 (valOf (cut s.data.toList i k)) ∧ allDig (cut s.data.toList i k) = true ∧ runEnd digB s.data.toList i = runEnd digB s.data.toList k ∧ wr = w.alloc (.cells #[.int .i64 0, .string ⟨#[]⟩, .int .i64 0, .int .i64 0] 49)) (fun kv _ _ => s.size - (intOf kv).toNat)
  case atStart => exact ⟨i, Nat.le_refl _, by omega, by omega, rfl, by rw [cut_self]; rfl, by rw [cut_self]; rfl, rfl, rfl⟩
  case round =>
    obtain ⟨k, hik, hk, hk10, rfl, rfl, hall, hrun, rfl⟩ := hrel
    have hv := valOf_bd 10 (cut s.data.toList i k) (by rw [cut_length _ _ _ (by rw [HLL.out]; exact hk)]; omega) hall
    have hv1 : valOf (cut s.data.toList i k) < 10000000000 := hv.2
    have hv0 : 0 ≤ valOf (cut s.data.toList i k) := hv.1
    have HA : Hid (allDig (cut s.data.toList i k) = true) := hall
    have HR : Hid (runEnd digB s.data.toList i = runEnd digB s.data.toList k) := hrun
    clear hv hall hrun
    by_cases hlt : k < s.size
    · have hbk := byte_lt s k hlt
      have hc : inB (s[k].toNat : Int) 48 57 = true ∨ inB (s[k].toNat : Int) 48 57 = false := by cases inB (s[k].toNat : Int) 48 57 <;> simp
      have HG : Hid (s.data.toList.getD k 0 = s[k]) := getD_byte s k hlt
      rcases hc with hc | hc
      · have hdb := dig_of _ hc
        have HC : Hid (inB (s[k].toNat : Int) 48 57 = true) := hc
        by_cases h10 : k < i + 10
        · have hst : cut s.data.toList i (k + 1) = cut s.data.toList i k ++ [s[k]] := by rw [cut_snoc _ _ _ hik (by rw [HLL.out]; exact hlt), HG.out]
          have HS : Hid (cut s.data.toList i (k + 1) = cut s.data.toList i k ++ [s[k]]) := hst
          clear hst
          go_wp2_with (go_at_call 64; go_must (refine (l01Digit_any _ _ hbk.1 hbk.2).mono ?_; rintro e w' ⟨rfl, rfl⟩))
          go_roundw
          case rel => exact ⟨k + 1, by omega, by omega, by omega, by go_num, by rw [HS.out, valOf_snoc], by rw [HS.out]; unfold allDig at *; rw [List.all_append, HA.out]; simp [digB, HC.out], by rw [HR.out]; exact runEnd_step _ _ _ (by rw [HLL.out]; exact hlt) (by rw [HG.out]; exact HC.out), (by first | rfl | trivial)⟩
          case measure => simp [intOf]; omega
        · have hno : ¬ runEnd digB s.data.toList i - i ≤ 9 := by have := runEnd_ge digB s.data.toList k; rw [HR.out]; omega
          have HT : Hid _ := next_digit_no HD0.out hno
          clear hno
          go_wp2_with (go_at_call 64; go_must (refine (l01Digit_any _ _ hbk.1 hbk.2).mono ?_; rintro e w' ⟨rfl, rfl⟩))
          refine bodyPost_ret (v := .tuple #[.agg #[.int .i64 0, .string ⟨#[]⟩, .int .i64 0, .int .i64 0], .int .i64 (-1)]) (by simp [results, Tryz.results49, go_sem]) rfl ⟨⟨_, _, rfl, .inr ⟨HT.out, rfl, rfl⟩⟩, (Below.refl _ _).alloc (Nat.le_refl _) _⟩
      · have hst : runEnd digB s.data.toList k = k := runEnd_stop _ _ _ (.inr (by rw [HG.out]; exact hc))
        by_cases h9 : k - i ≤ 9
        · have HT : Hid _ := next_digit_yes HD0.out (HR.out.trans hst) h9
          clear hst
          go_wp2_with (go_at_call 64; go_must (refine (l01Digit_any _ _ hbk.1 hbk.2).mono ?_; rintro e w' ⟨rfl, rfl⟩))
          refine bodyPost_ret (v := .tuple #[.agg #[.int .i64 2, .string ⟨#[]⟩, .int .i64 (valOf (cut s.data.toList i k)), .int .i64 0], .int .i64 k]) (by simp [results, Tryz.results49, go_sem]) rfl ⟨⟨_, _, rfl, .inl ⟨_, _, HT.out, rfl, rfl⟩⟩, (Below.refl _ _).alloc (Nat.le_refl _) _⟩
        · have HT : Hid _ := next_digit_no HD0.out (by rw [HR.out, hst]; exact h9)
          clear hst
          go_wp2_with (go_at_call 64; go_must (refine (l01Digit_any _ _ hbk.1 hbk.2).mono ?_; rintro e w' ⟨rfl, rfl⟩))
          refine bodyPost_ret (v := .tuple #[.agg #[.int .i64 0, .string ⟨#[]⟩, .int .i64 0, .int .i64 0], .int .i64 (-1)]) (by simp [results, Tryz.results49, go_sem]) rfl ⟨⟨_, _, rfl, .inr ⟨HT.out, rfl, rfl⟩⟩, (Below.refl _ _).alloc (Nat.le_refl _) _⟩
    · have hst : runEnd digB s.data.toList k = k := runEnd_stop _ _ _ (.inl (by rw [HLL.out]; omega))
      by_cases h9 : k - i ≤ 9
      · have HT : Hid _ := next_digit_yes HD0.out (HR.out.trans hst) h9
        clear hst
        go_wp2
        refine bodyPost_ret (v := .tuple #[.agg #[.int .i64 2, .string ⟨#[]⟩, .int .i64 (valOf (cut s.data.toList i k)), .int .i64 0], .int .i64 k]) (by simp [results, Tryz.results49, go_sem]) rfl ⟨⟨_, _, rfl, .inl ⟨_, _, HT.out, rfl, rfl⟩⟩, (Below.refl _ _).alloc (Nat.le_refl _) _⟩
      · have HT : Hid _ := next_digit_no HD0.out (by rw [HR.out, hst]; exact h9)
        clear hst
        go_wp2
        refine bodyPost_ret (v := .tuple #[.agg #[.int .i64 0, .string ⟨#[]⟩, .int .i64 0, .int .i64 0], .int .i64 (-1)]) (by simp [results, Tryz.results49, go_sem]) rfl ⟨⟨_, _, rfl, .inr ⟨HT.out, rfl, rfl⟩⟩, (Below.refl _ _).alloc (Nat.le_refl _) _⟩
end Go.Proofs.YtkomkhiinfdfmaaGreatDoor
