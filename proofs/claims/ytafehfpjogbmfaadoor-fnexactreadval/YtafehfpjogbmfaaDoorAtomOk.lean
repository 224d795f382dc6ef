/-
  What AtomOk answers, of the program and of the specification. Conditions: the text is no longer than any text may be; the program's variable of the three words holds them.
-/
import Derived.Test.YtafehfpjogbmfaaDoorFirstN
namespace Go.Proofs.YtafehfpjogbmfaaDoor
open Go.ChangeShapes Go.WideShapes Go.ChangeAt Go.RowKit
set_option linter.unusedVariables false

def keyB (s : ByteArray) : Bool := s.toList == [99, 97, 115, 101] || s.toList == [111, 102] || s.toList == [101, 110, 100]
/-- The three words lie in the program's variable. -/
def KeysAt (w : World) : Prop :=
  w.cell? ⟨0, 0, none⟩ = some (.string ⟨#[99, 97, 115, 101]⟩) ∧ w.cell? ⟨0, 1, none⟩ = some (.string ⟨#[111, 102]⟩) ∧ w.cell? ⟨0, 2, none⟩ = some (.string ⟨#[101, 110, 100]⟩)
def atomB (s : ByteArray) : Bool := nameB s && inB (firstN s) 97 122 && !keyB s

theorem keyB_not {s : ByteArray} (h0 : (s.toList == [99, 97, 115, 101]) = false) (h1 : (s.toList == [111, 102]) = false) (h2 : (s.toList == [101, 110, 100]) = false) : keyB s = false := by
  rw [keyB, h0, h1, h2]; rfl

theorem key0_yes {s : ByteArray} (h : ([99, 97, 115, 101] == s.toList) = true) : keyB s = true := by
  have e := (beq_iff_eq.1 h).symm
  simp [keyB, e]
theorem key0_no {s : ByteArray} (h : ([99, 97, 115, 101] == s.toList) = false) : (s.toList == [99, 97, 115, 101]) = false := by
  rw [beq_eq_false_iff_ne] at h ⊢
  exact fun e => h e.symm
theorem key1_yes {s : ByteArray} (h : ([111, 102] == s.toList) = true) : keyB s = true := by
  have e := (beq_iff_eq.1 h).symm
  simp [keyB, e]
theorem key1_no {s : ByteArray} (h : ([111, 102] == s.toList) = false) : (s.toList == [111, 102]) = false := by
  rw [beq_eq_false_iff_ne] at h ⊢
  exact fun e => h e.symm
theorem key2_yes {s : ByteArray} (h : ([101, 110, 100] == s.toList) = true) : keyB s = true := by
  have e := (beq_iff_eq.1 h).symm
  simp [keyB, e]
theorem key2_no {s : ByteArray} (h : ([101, 110, 100] == s.toList) = false) : (s.toList == [101, 110, 100]) = false := by
  rw [beq_eq_false_iff_ne] at h ⊢
  exact fun e => h e.symm

theorem l01Key_any (s : ByteArray) (w : World) :
    Calls Tryd.prog 39 #[.string s] w fun e w' => e = .returned (.bool (keyB s)) ∧ w' = w := by
  go_enter Tryd.func39, Tryd.ntmps39
  go_wp2
  all_goals go_ret
  · exact ⟨ret_bool (by simp [keyB, *]), rfl⟩
  · exact ⟨ret_bool (by simp [keyB, *]), rfl⟩
  · exact ⟨ret_bool (by simp [keyB]), rfl⟩

theorem keys_at0 (w : World) : Sem.run Tryd.prog (Instr.index 78 (.agg #[.string ⟨#[99, 97, 115, 101]⟩, .string ⟨#[111, 102]⟩, .string ⟨#[101, 110, 100]⟩]) (.int .i64 0)) w = .ok (.string ⟨#[99, 97, 115, 101]⟩) w := by kernel_rfl
theorem keys_at1 (w : World) : Sem.run Tryd.prog (Instr.index 78 (.agg #[.string ⟨#[99, 97, 115, 101]⟩, .string ⟨#[111, 102]⟩, .string ⟨#[101, 110, 100]⟩]) (.int .i64 1)) w = .ok (.string ⟨#[111, 102]⟩) w := by kernel_rfl
theorem keys_at2 (w : World) : Sem.run Tryd.prog (Instr.index 78 (.agg #[.string ⟨#[99, 97, 115, 101]⟩, .string ⟨#[111, 102]⟩, .string ⟨#[101, 110, 100]⟩]) (.int .i64 2)) w = .ok (.string ⟨#[101, 110, 100]⟩) w := by kernel_rfl
set_option maxRecDepth 100000 in
theorem isKeyword_any (s : ByteArray) (w : World) (hk : KeysAt w) :
    Calls Tryd.prog 47 #[.string s] w fun e w' => e = .returned (.bool (keyB s)) ∧ w' = w := by
  obtain ⟨h0, h1, h2⟩ := hk
  go_enter Tryd.func47, Tryd.ntmps47
  go_wp2
  go_loop [6] (fun i => ∃ k : Nat, k ≤ 3 ∧ i = .int .i64 k ∧ (1 ≤ k → (s.toList == [99, 97, 115, 101]) = false) ∧ (2 ≤ k → (s.toList == [111, 102]) = false) ∧ (3 ≤ k → (s.toList == [101, 110, 100]) = false)) (fun i => 3 - (intOf i).toNat)
  case atStart => exact ⟨0, by omega, rfl, by omega, by omega, by omega⟩
  case round =>
    obtain ⟨k, hk, rfl, n0, n1, n2⟩ := hrel
    have H0 : Hid (1 ≤ k → (s.toList == [99, 97, 115, 101]) = false) := n0
    have H1 : Hid (2 ≤ k → (s.toList == [111, 102]) = false) := n1
    have H2 : Hid (3 ≤ k → (s.toList == [101, 110, 100]) = false) := n2
    clear n0 n1 n2 h0 h1 h2
    rcases (by omega : k = 0 ∨ k = 1 ∨ k = 2 ∨ k = 3) with rfl | rfl | rfl | rfl
    · have r0 := keys_at0
      go_wp2
      · go_ret
        exact ⟨ret_bool (key0_yes ‹_›).symm, rfl⟩
      · go_round
        case rel => exact ⟨1, by omega, rfl, fun _ => key0_no ‹_›, by omega, by omega⟩
        case measure => simp [intOf]
    · have r1 := keys_at1
      go_wp2
      · go_ret
        exact ⟨ret_bool (key1_yes ‹_›).symm, rfl⟩
      · go_round
        case rel => exact ⟨2, by omega, rfl, fun _ => H0.out (by omega), fun _ => key1_no ‹_›, by omega⟩
        case measure => simp [intOf]
    · have r2 := keys_at2
      go_wp2
      · go_ret
        exact ⟨ret_bool (key2_yes ‹_›).symm, rfl⟩
      · go_round
        case rel => exact ⟨3, by omega, rfl, fun _ => H0.out (by omega), fun _ => H1.out (by omega), fun _ => key2_no ‹_›⟩
        case measure => simp [intOf]
    · go_wp2
      go_ret
      exact ⟨ret_bool (keyB_not (H0.out (by omega)) (H1.out (by omega)) (H2.out (by omega))).symm, rfl⟩

theorem specAtomOk_any (s : ByteArray) (w : World) (hs : s.size ≤ maxLen) :
    Calls Tryd.prog 26 #[.string s] w fun e w' => e = .returned (.bool (atomB s)) ∧ w' = w := by
  have hs' := hs
  unfold maxLen at hs
  have hn : nameB s = true ∨ nameB s = false := by cases nameB s <;> simp
  rcases hn with hn | hn
  · have hz := nameB_size s hn
    have hb := byte_lt s 0 hz
    have hf := first_eq s hz
    have HF : Hid ((s[0].toNat : Int) = firstN s) := hf
    clear hf
    have hi : inB (s[0].toNat : Int) 97 122 = true ∨ inB (s[0].toNat : Int) 97 122 = false := by cases inB (s[0].toNat : Int) 97 122 <;> simp
    rcases hi with hi | hi
    · go_enter Tryd.func26, Tryd.ntmps26
      go_wp2_with (first
        | (go_at_call 38; go_must (refine (l01Name_any _ _ hs').mono ?_; rintro e w' ⟨rfl, rfl⟩))
        | (go_at_call 36; go_must (refine (l01Small_any _ _ hb.1 hb.2).mono ?_; rintro e w' ⟨rfl, rfl⟩))
        | (go_at_call 39; go_must (refine (l01Key_any _ _).mono ?_; rintro e w' ⟨rfl, rfl⟩)))
      go_ret
      exact ⟨ret_bool (by rw [HF.out] at hi; simp [atomB, hn, hi]), rfl⟩
    · go_enter Tryd.func26, Tryd.ntmps26
      go_wp2_with (first
        | (go_at_call 38; go_must (refine (l01Name_any _ _ hs').mono ?_; rintro e w' ⟨rfl, rfl⟩))
        | (go_at_call 36; go_must (refine (l01Small_any _ _ hb.1 hb.2).mono ?_; rintro e w' ⟨rfl, rfl⟩)))
      go_ret
      exact ⟨ret_bool (by rw [HF.out] at hi; simp [atomB, hi]), rfl⟩
  · go_enter Tryd.func26, Tryd.ntmps26
    go_wp2_with (go_at_call 38; go_must (refine (l01Name_any _ _ hs').mono ?_; rintro e w' ⟨rfl, rfl⟩))
    go_ret
    exact ⟨ret_bool (by simp [atomB, hn]), rfl⟩

theorem implAtomOk_any (s : ByteArray) (w : World) (hs : s.size ≤ maxLen) (hk : KeysAt w) :
    Calls Tryd.prog 32 #[.string s] w fun e w' => e = .returned (.bool (atomB s)) ∧ w' = w := by
  have hs' := hs
  unfold maxLen at hs
  have hn : nameB s = true ∨ nameB s = false := by cases nameB s <;> simp
  rcases hn with hn | hn
  · have hz := nameB_size s hn
    have hb := byte_lt s 0 hz
    have hf := first_eq s hz
    have HF : Hid ((s[0].toNat : Int) = firstN s) := hf
    clear hf
    have hi : inB (s[0].toNat : Int) 97 122 = true ∨ inB (s[0].toNat : Int) 97 122 = false := by cases inB (s[0].toNat : Int) 97 122 <;> simp
    rcases hi with hi | hi
    · go_enter Tryd.func32, Tryd.ntmps32
      go_wp2_with (first
        | (go_at_call 45; go_must (refine (nameOk_any _ _ hs').mono ?_; rintro e w' ⟨rfl, rfl⟩))
        | (go_at_call 46; go_must (refine (isSmall_any _ _ hb.1 hb.2).mono ?_; rintro e w' ⟨rfl, rfl⟩))
        | (go_at_call 47; go_must (refine (isKeyword_any _ _ hk).mono ?_; rintro e w' ⟨rfl, rfl⟩)))
      go_ret
      exact ⟨ret_bool (by rw [HF.out] at hi; simp [atomB, hn, hi]), rfl⟩
    · go_enter Tryd.func32, Tryd.ntmps32
      go_wp2_with (first
        | (go_at_call 45; go_must (refine (nameOk_any _ _ hs').mono ?_; rintro e w' ⟨rfl, rfl⟩))
        | (go_at_call 46; go_must (refine (isSmall_any _ _ hb.1 hb.2).mono ?_; rintro e w' ⟨rfl, rfl⟩)))
      go_ret
      exact ⟨ret_bool (by rw [HF.out] at hi; simp [atomB, hi]), rfl⟩
  · go_enter Tryd.func32, Tryd.ntmps32
    go_wp2_with (go_at_call 45; go_must (refine (nameOk_any _ _ hs').mono ?_; rintro e w' ⟨rfl, rfl⟩))
    go_ret
    exact ⟨ret_bool (by simp [atomB, hn]), rfl⟩
end Go.Proofs.YtafehfpjogbmfaaDoor
