/-
  Chapter 9, plain mathematics: the names I1, I2, .. that are not among used ones.
-/
import Derived.Test.YtompbdecdaaldaaDoorFrDec
import Derived.Test.YtompbdecdaaldaaDoorNameMath2
namespace Go.Proofs.YtompbdecdaaldaaDoor
open Go.ChangeShapes Go.WideShapes Go.ChangeAt Go.RowKit
set_option linter.unusedVariables false

/-- The name of a number. -/
def frN (i : Nat) : ByteArray := ⟨(73 :: Lib.itoa (i : Int)).toArray⟩
theorem frN_key (i : Nat) : keyS (frN i) = 73 :: Lib.decDigits i := by
  have h : Lib.itoa (i : Int) = Lib.decDigits i := by rw [itoa_pos _ (by omega)]; rfl
  show (frN i).toList = _
  rw [ByteArray.toList_eq]
  simp [frN, h]
/-- The number of a row of digits. -/
def valD (l : List UInt8) : Nat := l.foldl (fun a c => a * 10 + (c.toNat - 48)) 0
theorem valD_snoc (l : List UInt8) (c : UInt8) : valD (l ++ [c]) = valD l * 10 + (c.toNat - 48) := by simp [valD, List.foldl_append]
theorem dig_val (d : Nat) (h : d < 10) : (UInt8.ofNat (48 + d)).toNat - 48 = d := by
  rw [UInt8.toNat_ofNat_of_lt' (by show _ < 256; omega)]; omega
theorem valD_dec : ∀ (k n : Nat), n < 10 ^ (k + 1) → valD (Lib.decDigits n) = n
  | 0, n, h => by
    have h' : n < 10 := by simpa using h
    rw [Lib.decDigits, dif_pos h']
    have := dig_val n h'
    simpa [valD] using this
  | k + 1, n, h => by
    by_cases hn : n < 10
    · rw [Lib.decDigits, dif_pos hn]
      have := dig_val n hn
      simpa [valD] using this
    · rw [Lib.decDigits, dif_neg hn, valD_snoc, valD_dec k (n / 10) (by rw [Nat.div_lt_iff_lt_mul (by omega)]; rw [Nat.pow_succ] at h; exact h), dig_val _ (by omega)]
      omega
theorem lt_pow (n : Nat) : n < 10 ^ (n + 1) := by
  have h := Nat.lt_pow_self (n := n) (a := 10) (by omega)
  have h2 : 10 ^ n ≤ 10 ^ (n + 1) := Nat.pow_le_pow_right (by omega) (by omega)
  omega
theorem dec_inj {a b : Nat} (h : Lib.decDigits a = Lib.decDigits b) : a = b := by
  have h1 := valD_dec a a (lt_pow a)
  have h2 := valD_dec b b (lt_pow b)
  rw [h] at h1; omega
theorem frN_inj {a b : Nat} (h : keyS (frN a) = keyS (frN b)) : a = b := by
  rw [frN_key, frN_key] at h
  exact dec_inj (by simpa using h)
theorem okS_frN (i : Nat) (h : i ≤ 9223372036854775807) : (frN i).size ≤ 21 := by
  have h1 := decDigits_length_le 19 i (by omega)
  have h2 : (frN i).data.toList.length = (Lib.decDigits i).length + 1 := by
    rw [← ByteArray.toList_eq]; exact (congrArg List.length (frN_key i)).trans List.length_cons
  have h3 : (frN i).size = (frN i).data.toList.length := rfl
  omega

/-- The names of 1 .. i that are not used. -/
def frL (U : List ByteArray) : Nat → List ByteArray
  | 0 => []
  | i + 1 => if hasS U (frN (i + 1)) then frL U i else frL U i ++ [frN (i + 1)]
/-- The names of 1 .. i that are used. -/
def frU (U : List ByteArray) : Nat → List ByteArray
  | 0 => []
  | i + 1 => if hasS U (frN (i + 1)) then frU U i ++ [frN (i + 1)] else frU U i
theorem frU_mem (U : List ByteArray) : ∀ (i : Nat), ∀ x ∈ frU U i, (∃ j, 1 ≤ j ∧ j ≤ i ∧ x = frN j) ∧ hasS U x = true
  | 0, x, hx => by simp [frU] at hx
  | i + 1, x, hx => by
    unfold frU at hx
    split at hx
    · rename_i hu
      rcases List.mem_append.1 hx with h | h
      · obtain ⟨⟨j, h1, h2, h3⟩, h4⟩ := frU_mem U i x h
        exact ⟨⟨j, h1, by omega, h3⟩, h4⟩
      · obtain rfl : x = frN (i + 1) := by simpa using h
        exact ⟨⟨i + 1, by omega, Nat.le_refl _, rfl⟩, hu⟩
    · obtain ⟨⟨j, h1, h2, h3⟩, h4⟩ := frU_mem U i x hx
      exact ⟨⟨j, h1, by omega, h3⟩, h4⟩
theorem frU_nd (U : List ByteArray) : ∀ (i : Nat), NdK (frU U i)
  | 0 => by simp [frU, NdK]
  | i + 1 => by
    unfold frU
    split
    · have ih := frU_nd U i
      unfold NdK at ih ⊢
      rw [List.map_append, List.nodup_append]
      refine ⟨ih, by simp, fun a ha b hb e => ?_⟩
      obtain ⟨x, hx, rfl⟩ := List.mem_map.1 ha
      obtain ⟨⟨j, _, hj, rfl⟩, _⟩ := frU_mem U i x hx
      simp only [List.map_cons, List.map_nil, List.mem_singleton] at hb
      have := frN_inj (e.trans hb)
      omega
    · exact frU_nd U i
theorem frU_len (U : List ByteArray) (i : Nat) : (frU U i).length ≤ U.length := by
  have h := (frU_nd U i).len (m := U.map keyS) (fun s hs => (hasS_mem U s).1 (frU_mem U i s hs).2)
  simpa using h
theorem fr_sum (U : List ByteArray) : ∀ (i : Nat), (frL U i).length + (frU U i).length = i
  | 0 => by simp [frL, frU]
  | i + 1 => by
    have ih := fr_sum U i
    unfold frL frU
    split <;> simp only [List.length_append, List.length_cons, List.length_nil] <;> omega
theorem frL_len (U : List ByteArray) (i : Nat) : i ≤ (frL U i).length + U.length := by
  have h1 := fr_sum U i
  have h2 := frU_len U i
  omega
theorem frL_le (U : List ByteArray) (i : Nat) : (frL U i).length ≤ i := by have := fr_sum U i; omega
theorem frL_mono (U : List ByteArray) (i : Nat) : ∀ (k : Nat), ∃ m, frL U (i + k) = frL U i ++ m
  | 0 => ⟨[], by simp⟩
  | k + 1 => by
    obtain ⟨m, hm⟩ := frL_mono U i k
    show ∃ m, frL U (i + k + 1) = _
    have e : frL U (i + k + 1) = if hasS U (frN (i + k + 1)) then frL U (i + k) else frL U (i + k) ++ [frN (i + k + 1)] := rfl
    rw [e]
    split
    · exact ⟨m, hm⟩
    · exact ⟨m ++ [frN (i + k + 1)], by rw [hm, List.append_assoc]⟩
theorem frL_one {U : List ByteArray} {i j : Nat} (h : (frL U i).length = (frL U j).length) : frL U i = frL U j := by
  rcases Nat.le_total i j with hl | hl
  · obtain ⟨m, hm⟩ := frL_mono U i (j - i)
    rw [show i + (j - i) = j by omega] at hm
    rw [hm] at h ⊢
    have : m = [] := List.length_eq_zero_iff.1 (by simpa using h.symm)
    simp [this]
  · obtain ⟨m, hm⟩ := frL_mono U j (i - j)
    rw [show j + (i - j) = i by omega] at hm
    rw [hm] at h ⊢
    have : m = [] := List.length_eq_zero_iff.1 (by simpa using h)
    simp [this]
theorem frL_mem (U : List ByteArray) : ∀ (i : Nat), ∀ x ∈ frL U i, ∃ j, 1 ≤ j ∧ j ≤ i ∧ x = frN j
  | 0, x, hx => by simp [frL] at hx
  | i + 1, x, hx => by
    unfold frL at hx
    split at hx
    · obtain ⟨j, h1, h2, h3⟩ := frL_mem U i x hx
      exact ⟨j, h1, by omega, h3⟩
    · rcases List.mem_append.1 hx with h | h
      · obtain ⟨j, h1, h2, h3⟩ := frL_mem U i x h
        exact ⟨j, h1, by omega, h3⟩
      · exact ⟨i + 1, by omega, Nat.le_refl _, by simpa using h⟩

/-- So many of them, where there are so many asked for. -/
def freshOf (U : List ByteArray) (n : Int) : List ByteArray := if 0 ≤ n ∧ n ≤ 60 then (frL U (U.length + 60)).take n.toNat else []
theorem freshOf_out {U : List ByteArray} {n : Int} (h : ¬ (0 ≤ n ∧ n ≤ 60)) : freshOf U n = [] := if_neg h
theorem freshOf_at {U : List ByteArray} {n i : Nat} (hn : n ≤ 60) (h : (frL U i).length = n) : frL U i = freshOf U (n : Int) := by
  unfold freshOf
  rw [if_pos ⟨by omega, by omega⟩, Int.toNat_natCast]
  have hM := frL_len U (U.length + 60)
  rcases Nat.le_total i (U.length + 60) with hl | hl
  · obtain ⟨m, hm⟩ := frL_mono U i (U.length + 60 - i)
    rw [show i + (U.length + 60 - i) = U.length + 60 by omega] at hm
    rw [hm, ← h, List.take_left]
  · obtain ⟨m, hm⟩ := frL_mono U (U.length + 60) (i - (U.length + 60))
    rw [show U.length + 60 + (i - (U.length + 60)) = i by omega] at hm
    have h1 : (frL U i).length = (frL U (U.length + 60)).length + m.length := by rw [hm]; simp
    have h2 : m = [] := List.length_eq_zero_iff.1 (by omega)
    rw [h2, List.append_nil] at hm
    rw [← hm, ← h, List.take_of_length_le (Nat.le_refl _)]
theorem freshOf_len (U : List ByteArray) (n : Int) : (freshOf U n).length ≤ 60 := by
  unfold freshOf
  split
  · rw [List.length_take]; omega
  · simp
theorem freshOf_ok (U : List ByteArray) (n : Int) (hU : U.length ≤ 1048576) : ∀ x ∈ freshOf U n, x.size ≤ 21 := by
  intro x hx
  unfold freshOf at hx
  split at hx
  · obtain ⟨j, _, hj, rfl⟩ := frL_mem U _ x (List.mem_of_mem_take hx)
    exact okS_frN j (by omega)
  · cases hx
end Go.Proofs.YtompbdecdaaldaaDoor
