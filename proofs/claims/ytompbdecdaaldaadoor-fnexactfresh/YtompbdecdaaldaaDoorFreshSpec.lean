/-
  What the specification's Fresh answers, by contract. Conditions: the row of used names is a row, of at most 1048576.
-/
import Derived.Test.YtompbdecdaaldaaDoorFreshMath
import Derived.Test.YtompbdecdaaldaaDoorHasS
import Derived.Test.YtompbdecdaaldaaDoorOwnStr
namespace Go.Proofs.YtompbdecdaaldaaDoor
open Go.ChangeShapes Go.WideShapes Go.ChangeAt Go.RowKit
set_option linter.unusedVariables false
set_option maxRecDepth 100000

def inF (x a b : Int) : Bool := decide (a ≤ x ∧ x ≤ b)
theorem ret_boolF {a b : Bool} (h : a = b) : Ending.returned (.bool a) = .returned (.bool b) := by rw [h]
theorem inF_any (x a b : Int) (w : World) :
    Calls Tryd.prog 11 #[.int .i64 x, .int .i64 a, .int .i64 b] w fun e w' => e = .returned (.bool (inF x a b)) ∧ w' = w := by
  by_cases h1 : a ≤ x <;> by_cases h2 : x ≤ b
  all_goals
    go_enter Tryd.func11, Tryd.ntmps11
    go_wp2
    go_ret
    exact ⟨ret_boolF (by simp [inF, h1, h2]), rfl⟩
theorem fr_str (i : Nat) (k : Int) (h : k = ((i + 1 : Nat) : Int)) : ((⟨#[73]⟩ : ByteArray) ++ ⟨(Lib.itoa k).toArray⟩) = frN (i + 1) := by subst h; exact str_cons _ _

set_option maxHeartbeats 4000000 in
theorem specFresh_any (w : World) (v : Value) (U : List ByteArray) (n : Int) (h : StrR w v U) (hU : U.length ≤ 1048576) :
    Calls Tryd.prog 5 #[v, .int .i64 n] w fun e w' => ∃ u, e = .returned u ∧ OwnS w' w.heap.size u (freshOf U n) ∧ Below w.heap.size w w' := by
  obtain ⟨ti, hi, hz0, hz1, hz2⟩ := info_parts info_str
  have O0 : Hid (OwnS (w.alloc (.cells #[] 9)) w.heap.size (.slice (some ⟨w.heap.size, 0, none⟩) 0 0) []) := OwnS.fresh
  have BL : Hid (Below w.heap.size w (w.alloc (.cells #[] 9))) := (Below.refl _ _).alloc (Nat.le_refl _) _
  have HS : Hid (StrR w v U) := h
  clear h
  by_cases hin : 0 ≤ n ∧ n ≤ 60
  · obtain ⟨m, rfl⟩ : ∃ m : Nat, n = m := ⟨n.toNat, by omega⟩
    have hm : m ≤ 60 := by omega
    have CI : Hid (∀ w', Calls Tryd.prog 11 #[.int .i64 (m : Int), .int .i64 0, .int .i64 60] w' fun e w'' => e = .returned (.bool true) ∧ w'' = w') := fun w' => (inF_any _ _ _ w').mono fun e w'' ⟨he, hw⟩ => ⟨he.trans (ret_boolF (by simp [inF]; omega)), hw⟩
    clear hin
    go_enter Tryd.func5, Tryd.ntmps5
    go_wp2_with fail
    go_loopw [5, 6] (fun ov iv wr => ∃ i : Nat, i ≤ U.length + 60 ∧ iv = .int .i64 ((i : Int) + 1) ∧ Hid ((frL U i).length ≤ m) ∧ Hid (OwnS wr w.heap.size ov (frL U i)) ∧ Hid (Below w.heap.size w wr)) (fun _ iv _ => U.length + 62 - (intOf iv).toNat)
    case atStart => exact ⟨0, Nat.zero_le _, rfl, by show _ ≤ _; simp [frL], O0.out, BL.out⟩
    case round =>
      obtain ⟨i, hil, rfl, hlm, ho, hb⟩ := hrel
      obtain ⟨ap, cap, hsl, hcap⟩ := ho.out.slice
      subst hsl
      have SR : Hid (StrR wr v U) := HS.out.mono ⟨hb.out.size, fun g _ hl => hb.out.block g hl⟩
      have hle := frL_len U i
      have hlm' := hlm.out
      have DT : Hid (∀ w', Calls Tryd.prog 12 #[.int .i64 ((i : Int) + 1)] w' fun e w'' => e = .returned (.string ⟨(Lib.itoa ((i : Int) + 1)).toArray⟩) ∧ w'' = w') := fun w' => specDecText_any _ w' (by omega) (by omega)
      have hLI : (Lib.itoa ((i : Int) + 1)).length ≤ 20 := by rw [itoa_pos _ (by omega)]; exact digits_le _ (by omega) (by omega)
      have ES : ((⟨#[73]⟩ : ByteArray) ++ ⟨(Lib.itoa ((i : Int) + 1)).toArray⟩) = frN (i + 1) := fr_str i _ (by omega)
      have FA : Hid ((frL U i).length = m → frL U i = freshOf U (m : Int)) := fun h => freshOf_at hm h
      generalize hJ : frL U i = J at *
      have HJ : Hid (frL U i = J) := hJ
      clear hJ
      by_cases hlt : J.length < m
      · have hlti : (J.length : Int) < (m : Int) := by omega
        cases hq : hasS U (frN (i + 1)) with
        | true =>
          have HJ2 : Hid (frL U (i + 1) = J) := by show _ = _; rw [frL, hq, if_pos rfl]; exact HJ.out
          go_wp2_with (first
            | (go_at_call 11; go_must (refine (CI.out _).mono ?_; rintro e w9 ⟨rfl, hw9⟩; rw [hw9]; clear hw9 w9))
            | (go_at_call 12; go_must (refine (DT.out _).mono ?_; rintro e w9 ⟨rfl, hw9⟩; rw [hw9]; clear hw9 w9))
            | (go_at_call 13; go_must (refine (hasS_any _ _ _ _ SR.out).mono ?_; rintro e w9 ⟨rfl, hw9⟩; rw [hw9]; clear hw9 w9)))
          exact ⟨⟨i + 1, by omega, by go_num, by show _ ≤ _; rw [HJ2.out]; omega, by show OwnS _ _ _ _; rw [HJ2.out]; exact ho.out, hb⟩, by simp [intOf]; omega⟩
        | false =>
          have HJ2 : Hid (frL U (i + 1) = J ++ [frN (i + 1)]) := by show _ = _; rw [frL, hq, if_neg (by simp)]; rw [HJ.out]
          have OA : Hid (OwnS (wr.alloc (.cells #[.string (frN (i + 1))] 9)) w.heap.size (.slice ap J.length cap) J) := ho.out.next ((Below.refl _ _).alloc (Nat.le_refl _) _)
          have N1 : Hid (∀ j u, (strs [frN (i + 1)])[j]? = some u → (wr.alloc (.cells #[.string (frN (i + 1))] 9)).cell? ((⟨wr.heap.size, 0, none⟩ : Addr).add j) = some u) := one_str wr _ _ rfl
          have BA : Hid (Below w.heap.size w (wr.alloc (.cells #[.string (frN (i + 1))] 9))) := hb.out.alloc hb.out.size _
          go_wp2_with (first
            | (go_at_call 11; go_must (refine (CI.out _).mono ?_; rintro e w9 ⟨rfl, hw9⟩; rw [hw9]; clear hw9 w9))
            | (go_at_call 12; go_must (refine (DT.out _).mono ?_; rintro e w9 ⟨rfl, hw9⟩; rw [hw9]; clear hw9 w9))
            | (go_at_call 13; go_must (refine (hasS_any _ _ _ _ SR.out).mono ?_; rintro e w9 ⟨rfl, hw9⟩; rw [hw9]; clear hw9 w9))
            | (at_builtin; refine wpList_append_own _ rfl _ _ 22 rfl w.heap.size 9 ti (.string ⟨#[]⟩) 1 16 Tryd.underlying22 hi hz0 hz1 hz2 rfl (by decide) (.slice ap J.length cap) _ _ rfl OA.out.1 _ 1 1 (strs [frN (i + 1)]) rfl rfl N1.out (strs_oneCell _) (by unfold maxLen; omega) (by omega) OA.out.2 ?_))
          intro u2 w2 hown2 hgr2 _
          have HO2 : Hid (OwnS w2 w.heap.size u2 (J ++ [frN (i + 1)])) := OwnS.of hown2 (by simp) rfl (Nat.le_trans OA.out.2 hgr2.size)
          have HB2 : Hid (Below w.heap.size w w2) := BA.out.trans (OA.out.below hgr2)
          clear hown2 hgr2
          go_wp2_with fail
          exact ⟨⟨i + 1, by omega, by go_num, by show _ ≤ _; rw [HJ2.out]; simp; omega, by show OwnS _ _ _ _; rw [HJ2.out]; exact HO2.out, HB2⟩, by simp [intOf]; omega⟩
      · have HF : Hid (J = freshOf U (m : Int)) := FA.out (by omega)
        have hlti : ¬ (J.length : Int) < (m : Int) := by omega
        go_wp2_with (first
            | (go_at_call 11; go_must (refine (CI.out _).mono ?_; rintro e w9 ⟨rfl, hw9⟩; rw [hw9]; clear hw9 w9)))
        go_ret
        exact ⟨_, rfl, by rw [← HF.out]; exact ho.out, hb.out⟩
  · have CI : Hid (∀ w', Calls Tryd.prog 11 #[.int .i64 n, .int .i64 0, .int .i64 60] w' fun e w'' => e = .returned (.bool false) ∧ w'' = w') := fun w' => (inF_any _ _ _ w').mono fun e w'' ⟨he, hw⟩ => ⟨he.trans (ret_boolF (by simp only [inF, decide_eq_false_iff_not]; exact hin)), hw⟩
    have HF : Hid ([] = freshOf U n) := (freshOf_out hin).symm
    clear hin
    go_enter Tryd.func5, Tryd.ntmps5
    go_wp2_with fail
    go_loopw [5, 6] (fun ov iv wr => ov = .slice (some ⟨w.heap.size, 0, none⟩) 0 0 ∧ iv = .int .i64 1 ∧ wr = w.alloc (.cells #[] 9)) (fun _ _ _ => 0)
    case atStart => exact ⟨rfl, rfl, rfl⟩
    case round =>
      obtain ⟨rfl, rfl, rfl⟩ := hrel
      go_wp2_with (first
            | (go_at_call 11; go_must (refine (CI.out _).mono ?_; rintro e w9 ⟨rfl, hw9⟩; rw [hw9]; clear hw9 w9)))
      go_ret
      exact ⟨_, rfl, by rw [← HF.out]; exact O0.out, BL.out⟩
end Go.Proofs.YtompbdecdaaldaaDoor
