/-
  What ReadDec answers, of the program and of the specification. Conditions: the text is no longer than any text may be; for the program's: the library's table of powers of ten holds them.
-/
import Derived.Test.YtkomkhiinfdfmaaGreatDoorImplDec
namespace Go.Proofs.YtkomkhiinfdfmaaGreatDoor
open Go.ChangeShapes Go.WideShapes Go.ChangeAt Go.RowKit
set_option linter.unusedVariables false

def digB (c : UInt8) : Bool := inB (c.toNat : Int) 48 57
def allDig (l : List UInt8) : Bool := l.all digB
def valOf (l : List UInt8) : Int := l.foldl (fun n c => 10 * n + (c.toNat : Int) - 48) 0
def decOk (s : ByteArray) : Bool := decide (s.size ≤ 6) && allDig s.data.toList && (Lib.itoa (valOf s.data.toList) == s.data.toList)
def readN (s : ByteArray) : Int := if decOk s = true then valOf s.data.toList else -1

theorem valOf_snoc (l : List UInt8) (c : UInt8) : valOf (l ++ [c]) = 10 * valOf l + (c.toNat : Int) - 48 := by
  simp [valOf, List.foldl_append]
theorem allDig_snoc (s : ByteArray) (k : Nat) (h : k < s.size) (ha : allDig (s.data.toList.take k) = true) (hs : inB (s[k].toNat : Int) 48 57 = true) :
    allDig (s.data.toList.take (k + 1)) = true := by
  rw [take_snoc s k h]; unfold allDig at *; rw [List.all_append, ha]; simp [digB, hs]
theorem allDig_no (s : ByteArray) (k : Nat) (h : k < s.size) (hs : inB (s[k].toNat : Int) 48 57 = false) : allDig s.data.toList = false := by
  unfold allDig
  rw [List.all_eq_false]
  exact ⟨s[k], List.getElem_mem (by simpa using h), by simp [digB, hs]⟩
theorem allDig_all (s : ByteArray) (k : Nat) (h : s.size ≤ k) (ha : allDig (s.data.toList.take k) = true) : allDig s.data.toList = true := by
  rwa [List.take_of_length_le (by simpa using h)] at ha
theorem dig_of (n : Int) (h : inB n 48 57 = true) : 48 ≤ n ∧ n ≤ 57 := of_decide_eq_true h
theorem valOf_bd : ∀ (k : Nat) (l : List UInt8), l.length ≤ k → allDig l = true → 0 ≤ valOf l ∧ valOf l < 10 ^ k
  | 0, l, hl, ha => by
    obtain rfl : l = [] := List.length_eq_zero_iff.1 (by omega)
    exact ⟨by simp [valOf], by simp [valOf]⟩
  | m + 1, l, hl, ha => by
    rcases List.eq_nil_or_concat l with rfl | ⟨L, c, rfl⟩
    · exact ⟨by simp [valOf], by simp only [valOf, List.foldl_nil]; exact Int.pow_pos (by omega)⟩
    · rw [List.concat_eq_append] at hl ha ⊢
      have ha' : allDig L = true ∧ digB c = true := by simpa [allDig] using ha
      rw [List.length_append] at hl
      simp only [List.length_cons, List.length_nil] at hl
      have := valOf_bd m L (by omega) ha'.1
      have hd := dig_of _ ha'.2
      rw [valOf_snoc, Int.pow_succ]
      omega
theorem valOf_le (s : ByteArray) (k : Nat) (hk : k ≤ 9) (ha : allDig (s.data.toList.take k) = true) : 0 ≤ valOf (s.data.toList.take k) ∧ valOf (s.data.toList.take k) < 1000000000 := by
  have h := valOf_bd k (s.data.toList.take k) (List.length_take_le _ _) ha
  refine ⟨h.1, Int.lt_of_lt_of_le h.2 ?_⟩
  rcases (by omega : k = 0 ∨ k = 1 ∨ k = 2 ∨ k = 3 ∨ k = 4 ∨ k = 5 ∨ k = 6 ∨ k = 7 ∨ k = 8 ∨ k = 9) with rfl | rfl | rfl | rfl | rfl | rfl | rfl | rfl | rfl | rfl <;> decide
theorem ret_int {k : IntKind} {a b : Int} (h : a = b) : Ending.returned (.int k a) = .returned (.int k b) := by rw [h]

/-- 'madeOf' of isDigit. -/
theorem madeOf_digit (s : ByteArray) (w : World) (hs : s.size ≤ maxLen) :
    Calls Tryz.prog 61 #[.string s, .func (.func 62) #[] #[]] w fun e w' => e = .returned (.bool (allDig s.data.toList)) ∧ w' = w := by
  unfold maxLen at hs
  go_enter Tryz.func61, Tryz.ntmps61
  go_wp2
  go_loop [8] (fun i => ∃ k : Nat, k ≤ s.size ∧ i = .int .i64 k ∧ allDig (s.data.toList.take k) = true) (fun i => s.size - (intOf i).toNat)
  case atStart => exact ⟨0, Nat.zero_le _, rfl, rfl⟩
  case round =>
    obtain ⟨k, hk, rfl, ha⟩ := hrel
    by_cases hlt : k < s.size
    · have hb := byte_lt s k hlt
      have HA : Hid (allDig (s.data.toList.take k) = true) := ha
      clear ha
      have hc : inB (s[k].toNat : Int) 48 57 = true ∨ inB (s[k].toNat : Int) 48 57 = false := by cases inB (s[k].toNat : Int) 48 57 <;> simp
      rcases hc with hc | hc
      · go_wp2_with (go_at_call 62; go_must (refine (isDigit_any _ _ hb.1 hb.2).mono ?_; rintro e w' ⟨rfl, rfl⟩))
        go_round
        case rel => exact ⟨k + 1, by omega, by go_num, allDig_snoc s k hlt HA.out hc⟩
        case measure => simp [intOf]; omega
      · go_wp2_with (go_at_call 62; go_must (refine (isDigit_any _ _ hb.1 hb.2).mono ?_; rintro e w' ⟨rfl, rfl⟩))
        go_ret
        exact ⟨ret_bool (by rw [allDig_no s k hlt hc]), rfl⟩
    · have HA : Hid (allDig s.data.toList = true) := allDig_all s k (by omega) ha
      clear ha
      go_wp2
      go_ret
      exact ⟨ret_bool (by rw [HA.out]), rfl⟩

/-- 'digitsValue' of at most nine digits. -/
theorem digitsValue_any (s : ByteArray) (w : World) (hs : s.size ≤ 9) (ha : allDig s.data.toList = true) :
    Calls Tryz.prog 63 #[.string s] w fun e w' => e = .returned (.int .i64 (valOf s.data.toList)) ∧ w' = w := by
  have hall : ∀ k, k < s.size → inB (s[k]!.toNat : Int) 48 57 = true := by
    intro k hk
    have := List.all_eq_true.1 ha s[k] (List.getElem_mem (by simpa using hk))
    rw [getElem!_pos s k hk]; exact this
  have HALL : Hid (∀ k, k < s.size → inB (s[k]!.toNat : Int) 48 57 = true) := hall
  have HA : Hid (allDig s.data.toList = true) := ha
  clear hall ha
  go_enter Tryz.func63, Tryz.ntmps63
  go_wp2
  go_loop [3, 7] (fun n i => ∃ k : Nat, k ≤ s.size ∧ i = .int .i64 k ∧ n = .int .i64 (valOf (s.data.toList.take k)) ∧ allDig (s.data.toList.take k) = true) (fun _ i => s.size - (intOf i).toNat)
  case atStart => exact ⟨0, Nat.zero_le _, rfl, rfl, rfl⟩
  case round =>
    obtain ⟨k, hk, rfl, rfl, hd⟩ := hrel
    have hv := valOf_le s k (by omega) hd
    have HD : Hid (allDig (s.data.toList.take k) = true) := hd
    clear hd
    by_cases hlt : k < s.size
    · have hc := HALL.out k hlt
      rw [getElem!_pos s k hlt] at hc
      have hb := dig_of _ hc
      have HC : Hid (inB (s[k].toNat : Int) 48 57 = true) := hc
      clear hc
      have hts := take_snoc s k hlt
      have HT : Hid (s.data.toList.take (k + 1) = s.data.toList.take k ++ [s[k]]) := hts
      clear hts
      obtain ⟨hv0, hv1⟩ := hv
      obtain ⟨hb0, hb1⟩ := hb
      go_wp2
      go_round
      case rel => exact ⟨k + 1, by omega, by go_num, by rw [HT.out, valOf_snoc]; congr 1; omega, allDig_snoc s k hlt HD.out HC.out⟩
      case measure => simp [intOf]; omega
    · go_wp2
      go_ret
      exact ⟨ret_int (by rw [List.take_of_length_le (by simp; omega)]), rfl⟩

theorem dec_no {s : ByteArray} (h : (!Lib.itoa (valOf s.data.toList) == s.toList) = true) : decOk s = false := by
  rw [Lib.toList_data, Bool.not_eq_true'] at h
  rw [decOk, h, Bool.and_false]
theorem dec_yes {s : ByteArray} (h6 : s.size ≤ 6) (hd : allDig s.data.toList = true) (h : (!Lib.itoa (valOf s.data.toList) == s.toList) = false) : decOk s = true := by
  rw [Lib.toList_data, Bool.not_eq_false'] at h
  rw [decOk, h, hd, decide_eq_true h6]; rfl
theorem dec_empty {s : ByteArray} (h : s.toList = []) : decOk s = false := by
  rw [Lib.toList_data] at h
  simp [decOk, h, valOf, Lib.itoa, Lib.decDigits]
theorem pos_of {s : ByteArray} {k : Nat} (h : ¬ s.toList = []) (hk : s.size ≤ k) : 0 < k := by
  rcases Nat.eq_zero_or_pos k with rfl | h'
  · exfalso
    apply h
    rw [Lib.toList_data]
    exact List.length_eq_zero_iff.1 (by rw [Array.length_toList]; exact Nat.le_zero.1 hk)
  · exact h'
theorem readN_no {s : ByteArray} (h : decOk s = false) : readN s = -1 := by rw [readN, if_neg (by simp [h])]
theorem readN_yes {s : ByteArray} (h : decOk s = true) : readN s = valOf s.data.toList := by rw [readN, if_pos h]

theorem implReadDec_any (s : ByteArray) (w : World) (hs : s.size ≤ maxLen) (hp : PowAt w) :
    Calls Tryz.prog 25 #[.string s] w fun e w' => e = .returned (.int .i64 (readN s)) ∧ Below w.heap.size w w' := by
  have hs' := hs
  unfold maxLen at hs
  have HP : Hid (PowAt w) := hp
  clear hp
  by_cases h6 : s.size ≤ 6
  · have hd : allDig s.data.toList = true ∨ allDig s.data.toList = false := by cases allDig s.data.toList <;> simp
    rcases hd with hd | hd
    · have hv := valOf_bd 6 s.data.toList (by simpa using h6) hd
      go_enter Tryz.func25, Tryz.ntmps25
      go_wp2_with (first
        | (go_at_call 61; go_must (refine (madeOf_digit _ _ hs').mono ?_; rintro e w' ⟨rfl, rfl⟩))
        | (go_at_call 63; go_must (refine (digitsValue_any _ _ (by omega) hd).mono ?_; rintro e w' ⟨rfl, rfl⟩))
        | (go_at_call 23; go_must (refine (implDecText_any _ _ (by omega) (by omega) HP.out).mono ?_; rintro e w1 ⟨rfl, hb⟩)))
      all_goals go_ret
      · exact ⟨ret_int (readN_no (dec_no ‹_›)).symm, hb⟩
      · exact ⟨ret_int (readN_yes (dec_yes h6 hd ‹_›)).symm, hb⟩
    · go_enter Tryz.func25, Tryz.ntmps25
      go_wp2_with (go_at_call 61; go_must (refine (madeOf_digit _ _ hs').mono ?_; rintro e w' ⟨rfl, rfl⟩))
      go_ret
      exact ⟨ret_int (readN_no (by simp [decOk, hd])).symm, Below.refl _ _⟩
  · go_enter Tryz.func25, Tryz.ntmps25
    go_wp2
    go_ret
    exact ⟨ret_int (readN_no (by simp [decOk, h6])).symm, Below.refl _ _⟩

theorem specReadDec_any (s : ByteArray) (w : World) (hs : s.size ≤ maxLen) :
    Calls Tryz.prog 26 #[.string s] w fun e w' => e = .returned (.int .i64 (readN s)) ∧ w' = w := by
  have hs' := hs
  unfold maxLen at hs
  go_enter Tryz.func26, Tryz.ntmps26
  go_wp2
  go_loop [3, 4] (fun n i => ∃ k : Nat, k ≤ s.size ∧ i = .int .i64 k ∧ n = .int .i64 (valOf (s.data.toList.take k)) ∧ allDig (s.data.toList.take k) = true ∧ (0 < k → s.size ≤ 6)) (fun _ i => s.size - (intOf i).toNat)
  case atStart => exact ⟨0, Nat.zero_le _, rfl, rfl, rfl, by omega⟩
  case round =>
    obtain ⟨k, hk, rfl, rfl, hd, h6⟩ := hrel
    by_cases hlt : k < s.size
    · have hb := byte_lt s k hlt
      have hc : inB (s[k].toNat : Int) 48 57 = true ∨ inB (s[k].toNat : Int) 48 57 = false := by cases inB (s[k].toNat : Int) 48 57 <;> simp
      have hts := take_snoc s k hlt
      have HT : Hid (s.data.toList.take (k + 1) = s.data.toList.take k ++ [s[k]]) := hts
      clear hts
      rcases hc with hc | hc
      · by_cases hz : s.size ≤ 6
        · have hv := valOf_le s k (by omega) hd
          have hdb := dig_of _ hc
          have HD : Hid (allDig (s.data.toList.take k) = true) := hd
          have HC : Hid (inB (s[k].toNat : Int) 48 57 = true) := hc
          obtain ⟨hv0, hv1⟩ := hv
          clear hd h6
          go_wp2_with (go_at_call 64; go_must (refine (l01Digit_any _ _ hb.1 hb.2).mono ?_; rintro e w' ⟨rfl, rfl⟩))
          go_round
          case rel => exact ⟨k + 1, by omega, by go_num, by rw [HT.out, valOf_snoc], allDig_snoc s k hlt HD.out HC.out, fun _ => hz⟩
          case measure => simp [intOf]; omega
        · clear hd h6
          go_wp2_with (go_at_call 64; go_must (refine (l01Digit_any _ _ hb.1 hb.2).mono ?_; rintro e w' ⟨rfl, rfl⟩))
          go_ret
          exact ⟨ret_int (readN_no (by simp [decOk]; omega)).symm, rfl⟩
      · clear hd h6
        go_wp2_with (go_at_call 64; go_must (refine (l01Digit_any _ _ hb.1 hb.2).mono ?_; rintro e w' ⟨rfl, rfl⟩))
        go_ret
        exact ⟨ret_int (readN_no (by simp [decOk, allDig_no s k hlt hc])).symm, rfl⟩
    · have hall := allDig_all s k (by omega) hd
      have htk : s.data.toList.take k = s.data.toList := List.take_of_length_le (by simp; omega)
      have H6 : Hid (0 < k → s.size ≤ 6) := h6
      have hv := valOf_le s k (by omega) hd
      rw [htk] at hv hd
      clear h6
      have HD : Hid (allDig s.data.toList = true) := hd
      clear hall hd
      rw [htk]
      clear htk
      obtain ⟨hv0, hv1⟩ := hv
      go_wp2_with (go_at_call 24; go_must (refine (specDecText_any _ _ (by omega) (by omega)).mono ?_; rintro e w' ⟨rfl, rfl⟩))
      all_goals go_ret
      · exact ⟨ret_int (readN_no (dec_empty ‹_›)).symm, rfl⟩
      · rename_i hor
        rcases hor with hor | hor
        · exact ⟨ret_int (readN_no (dec_empty (by simpa using hor))).symm, rfl⟩
        · exact ⟨ret_int (readN_no (dec_no hor)).symm, rfl⟩
      · rename_i hor
        exact ⟨ret_int (readN_yes (dec_yes (H6.out (pos_of (s := s) ‹¬ s.toList = []› (by omega))) HD.out hor.2)).symm, rfl⟩
end Go.Proofs.YtkomkhiinfdfmaaGreatDoor
