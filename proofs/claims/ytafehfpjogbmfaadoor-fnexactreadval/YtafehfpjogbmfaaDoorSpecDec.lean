/-
  What the specification's DecText answers: the decimal text of a number. Condition: the number is one of 64 bits.
-/
import Derived.Test.YtafehfpjogbmfaaDoorNames
import Derived.Lib.ItoaNum
namespace Go.Proofs.YtafehfpjogbmfaaDoor
open Go.ChangeShapes Go.WideShapes Go.ChangeAt Go.RowKit
set_option linter.unusedVariables false

theorem ret_str {a b : List UInt8} (h : a = b) : Ending.returned (.string ⟨a.toArray⟩) = .returned (.string ⟨b.toArray⟩) := by rw [h]

theorem decDigits_length_le : ∀ (k u : Nat), u < 10 ^ (k + 1) → (Lib.decDigits u).length ≤ k + 1
  | 0, u, h => by
    rw [Lib.decDigits, dif_pos (by simpa using h)]; simp
  | k + 1, u, h => by
    by_cases hu : u < 10
    · rw [Lib.decDigits, dif_pos hu]; simp
    · rw [Lib.decDigits, dif_neg hu, List.length_append]
      have := decDigits_length_le k (u / 10) (by rw [Nat.div_lt_iff_lt_mul (by omega)]; rw [Nat.pow_succ] at h; exact h)
      simp only [List.length_cons, List.length_nil]; omega
theorem dec_step (x : Int) (d : Nat) (l D : List UInt8) (hd : x.natAbs % 10 = d) (h : Lib.decDigits x.natAbs ++ l = D) :
    (x.tdiv 10 ≠ 0 → Lib.decDigits (x.tdiv 10).natAbs ++ (UInt8.ofNat (48 + d) :: l) = D) ∧ (x.tdiv 10 = 0 → UInt8.ofNat (48 + d) :: l = D) := by
  have e : (x.tdiv 10).natAbs = x.natAbs / 10 := by rw [Int.natAbs_tdiv]; rfl
  refine ⟨fun h0 => ?_, fun h0 => ?_⟩
  · have hq : ¬ x.natAbs < 10 := by intro hlt; exact h0 (Int.natAbs_eq_zero.1 (by rw [e]; omega))
    rw [Lib.decDigits, dif_neg hq, hd] at h
    rw [e, ← h]; simp
  · have hq : x.natAbs < 10 := by have := congrArg Int.natAbs h0; rw [e] at this; simp at this; omega
    rw [Lib.decDigits, dif_pos hq] at h
    rw [← h, ← hd, Nat.mod_eq_of_lt hq]; rfl
theorem tmod_neg_ten (x : Int) (h : x < 0) : x.tmod 10 = -((x.natAbs % 10 : Nat) : Int) := by
  obtain ⟨u, rfl⟩ : ∃ u : Nat, x = -(u : Int) := ⟨x.natAbs, by omega⟩
  rw [Int.neg_tmod, Int.natAbs_neg, Int.natAbs_natCast]; rfl
theorem tmod_pos_ten (x : Int) (h : ¬ x < 0) : x.tmod 10 = ((x.natAbs % 10 : Nat) : Int) := by
  obtain ⟨u, rfl⟩ : ∃ u : Nat, x = (u : Int) := ⟨x.natAbs, by omega⟩
  rw [Int.natAbs_natCast]; rfl
theorem tdiv_ten_bounds (x : Int) (h0 : -9223372036854775808 ≤ x) (h1 : x ≤ 9223372036854775807) : -9223372036854775808 ≤ x.tdiv 10 ∧ x.tdiv 10 ≤ 9223372036854775807 := by
  have e : (x.tdiv 10).natAbs = x.natAbs / 10 := by rw [Int.natAbs_tdiv]; rfl
  omega
theorem tdiv_ten_less (x : Int) (h : x ≠ 0) : (x.tdiv 10).natAbs < x.natAbs := by
  have e : (x.tdiv 10).natAbs = x.natAbs / 10 := by rw [Int.natAbs_tdiv]; rfl
  omega
theorem str_cons (c : UInt8) (l : List UInt8) : ((⟨#[c]⟩ : ByteArray) ++ ⟨l.toArray⟩) = ⟨(c :: l).toArray⟩ := by
  apply ByteArray.ext; simp
theorem str_digit (d : Nat) (hd : d < 10) (l : List UInt8) : Value.string ((⟨#[48, 49, 50, 51, 52, 53, 54, 55, 56, 57]⟩ : ByteArray).extract d (d + 1) ++ ⟨l.toArray⟩) = Value.string ⟨(UInt8.ofNat (48 + d) :: l).toArray⟩ := by
  have e : (⟨#[48, 49, 50, 51, 52, 53, 54, 55, 56, 57]⟩ : ByteArray).extract d (d + 1) = ⟨#[UInt8.ofNat (48 + d)]⟩ := by
    rcases (by omega : d = 0 ∨ d = 1 ∨ d = 2 ∨ d = 3 ∨ d = 4 ∨ d = 5 ∨ d = 6 ∨ d = 7 ∨ d = 8 ∨ d = 9) with rfl | rfl | rfl | rfl | rfl | rfl | rfl | rfl | rfl | rfl <;> rfl
  rw [e, str_cons]
theorem digits_le (n : Int) (h0 : -9223372036854775808 ≤ n) (h1 : n ≤ 9223372036854775807) : (Lib.decDigits n.natAbs).length ≤ 20 :=
  decDigits_length_le 19 _ (by omega)
theorem itoa_neg (n : Int) (h : n < 0) : Lib.itoa n = 45 :: Lib.decDigits n.natAbs := by rw [Lib.itoa, if_pos h]
theorem itoa_pos (n : Int) (h : 0 ≤ n) : Lib.itoa n = Lib.decDigits n.natAbs := by rw [Lib.itoa, if_neg (by omega)]; congr 1; omega

set_option maxHeartbeats 4000000 in
theorem specDecText_any (n : Int) (w : World) (h0 : -9223372036854775808 ≤ n) (h1 : n ≤ 9223372036854775807) :
    Calls Tryd.prog 28 #[.int .i64 n] w fun e w' => e = .returned (.string ⟨(Lib.itoa n).toArray⟩) ∧ w' = w := by
  by_cases hz : n = 0
  · subst hz
    go_enter Tryd.func28, Tryd.ntmps28
    go_wp2
    go_ret
    exact ⟨ret_str (by simp [Lib.itoa, Lib.decDigits]), rfl⟩
  · have hz' : (n == 0) = false := by simpa using hz
    go_enter Tryd.func28, Tryd.ntmps28
    go_wp2
    go_loop [3, 4] (fun o m => ∃ (x : Int) (l : List UInt8), m = .int .i64 x ∧ o = .string ⟨l.toArray⟩ ∧ -9223372036854775808 ≤ x ∧ x ≤ 9223372036854775807 ∧ (x ≠ 0 → Lib.decDigits x.natAbs ++ l = Lib.decDigits n.natAbs) ∧ (x = 0 → l = Lib.decDigits n.natAbs)) (fun _ m => (intOf m).natAbs)
    case atStart => exact ⟨n, [], rfl, rfl, h0, h1, fun _ => by simp, fun h => absurd h hz⟩
    case round =>
      obtain ⟨x, l, rfl, rfl, hx0, hx1, hr1, hr2⟩ := hrel
      have H1 : Hid (x ≠ 0 → Lib.decDigits x.natAbs ++ l = Lib.decDigits n.natAbs) := hr1
      have H2 : Hid (x = 0 → l = Lib.decDigits n.natAbs) := hr2
      clear hr1 hr2
      have hD := digits_le n h0 h1
      by_cases hxz : x = 0
      · have hl : l = Lib.decDigits n.natAbs := H2.out hxz
        have hxb : (x != 0) = false := by simpa using hxz
        have hll : l.length ≤ 20 := by rw [hl]; exact hD
        have HL : Hid (l = Lib.decDigits n.natAbs) := hl
        have HX : Hid (x = 0) := hxz
        clear hl hD hxz
        by_cases hneg : n < 0
        · go_wp2
          go_ret
          exact ⟨by rw [str_cons]; exact ret_str (by rw [itoa_neg n hneg, HL.out]), rfl⟩
        · go_wp2
          go_ret
          exact ⟨ret_str (by rw [itoa_pos n hneg, HL.out]), rfl⟩
      · have hxb : (x != 0) = true := by simpa using hxz
        have hcat := H1.out hxz
        have hll : l.length ≤ 20 := by have := congrArg List.length hcat; rw [List.length_append] at this; omega
        have hst : ∀ d, x.natAbs % 10 = d → _ := fun d hd => dec_step x d l _ hd hcat
        have HS : Hid (∀ d, x.natAbs % 10 = d → (x.tdiv 10 ≠ 0 → Lib.decDigits (x.tdiv 10).natAbs ++ (UInt8.ofNat (48 + d) :: l) = Lib.decDigits n.natAbs) ∧ (x.tdiv 10 = 0 → UInt8.ofNat (48 + d) :: l = Lib.decDigits n.natAbs)) := hst
        have hb := tdiv_ten_bounds x hx0 hx1
        have HB : Hid (-9223372036854775808 ≤ x.tdiv 10 ∧ x.tdiv 10 ≤ 9223372036854775807) := hb
        have HM : Hid ((x.tdiv 10).natAbs < x.natAbs) := tdiv_ten_less x hxz
        have htn := tmod_neg_ten x
        have htp := tmod_pos_ten x
        have hm9 : x.natAbs % 10 < 10 := Nat.mod_lt _ (by omega)
        clear hcat hst hb hD H1 H2
        by_cases hneg : x < 0
        · have ht0 := htn hneg
          clear htn htp
          rcases (by omega : (x.tmod 10 = 0 ∧ x.natAbs % 10 = 0) ∨ (x.tmod 10 = -1 ∧ x.natAbs % 10 = 1) ∨ (x.tmod 10 = -2 ∧ x.natAbs % 10 = 2) ∨ (x.tmod 10 = -3 ∧ x.natAbs % 10 = 3) ∨ (x.tmod 10 = -4 ∧ x.natAbs % 10 = 4) ∨ (x.tmod 10 = -5 ∧ x.natAbs % 10 = 5) ∨ (x.tmod 10 = -6 ∧ x.natAbs % 10 = 6) ∨ (x.tmod 10 = -7 ∧ x.natAbs % 10 = 7) ∨ (x.tmod 10 = -8 ∧ x.natAbs % 10 = 8) ∨ (x.tmod 10 = -9 ∧ x.natAbs % 10 = 9)) with ⟨ht, hd⟩ | ⟨ht, hd⟩ | ⟨ht, hd⟩ | ⟨ht, hd⟩ | ⟨ht, hd⟩ | ⟨ht, hd⟩ | ⟨ht, hd⟩ | ⟨ht, hd⟩ | ⟨ht, hd⟩ | ⟨ht, hd⟩
          all_goals
            have hs := HS.out _ hd
            have HS' : Hid ((x.tdiv 10 ≠ 0 → Lib.decDigits (x.tdiv 10).natAbs ++ (UInt8.ofNat _ :: l) = Lib.decDigits n.natAbs) ∧ (x.tdiv 10 = 0 → UInt8.ofNat _ :: l = Lib.decDigits n.natAbs)) := hs
            clear hs HS hd hm9 ht0
            go_wp2
            refine ⟨⟨_, _, rfl, str_digit _ (by omega) l, HB.out.1, HB.out.2, HS'.out.1, HS'.out.2⟩, HM.out⟩
        · have ht0 := htp hneg
          clear htn htp
          have et : x.tdiv 10 = x / 10 := Int.tdiv_eq_ediv_of_nonneg (by omega)
          rw [et] at HB HM HS
          clear et
          rcases (by omega : (x.tmod 10 = 0 ∧ x.natAbs % 10 = 0) ∨ (x.tmod 10 = 1 ∧ x.natAbs % 10 = 1) ∨ (x.tmod 10 = 2 ∧ x.natAbs % 10 = 2) ∨ (x.tmod 10 = 3 ∧ x.natAbs % 10 = 3) ∨ (x.tmod 10 = 4 ∧ x.natAbs % 10 = 4) ∨ (x.tmod 10 = 5 ∧ x.natAbs % 10 = 5) ∨ (x.tmod 10 = 6 ∧ x.natAbs % 10 = 6) ∨ (x.tmod 10 = 7 ∧ x.natAbs % 10 = 7) ∨ (x.tmod 10 = 8 ∧ x.natAbs % 10 = 8) ∨ (x.tmod 10 = 9 ∧ x.natAbs % 10 = 9)) with ⟨ht, hd⟩ | ⟨ht, hd⟩ | ⟨ht, hd⟩ | ⟨ht, hd⟩ | ⟨ht, hd⟩ | ⟨ht, hd⟩ | ⟨ht, hd⟩ | ⟨ht, hd⟩ | ⟨ht, hd⟩ | ⟨ht, hd⟩
          all_goals
            have hs := HS.out _ hd
            have HS' : Hid ((x / 10 ≠ 0 → Lib.decDigits (x / 10).natAbs ++ (UInt8.ofNat _ :: l) = Lib.decDigits n.natAbs) ∧ (x / 10 = 0 → UInt8.ofNat _ :: l = Lib.decDigits n.natAbs)) := hs
            clear hs HS hd hm9 ht0
            go_wp2
            refine ⟨⟨_, _, rfl, str_digit _ (by omega) l, HB.out.1, HB.out.2, HS'.out.1, HS'.out.2⟩, HM.out⟩
end Go.Proofs.YtafehfpjogbmfaaDoor
