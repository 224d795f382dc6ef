/-
  strings.IndexRune in the six signs that end a name or a number, of a rune beyond ASCII: by contract.
-/
import Derived.Test.YtafehfpjogbmfaaDoorIxMath
import Derived.Test.YtafehfpjogbmfaaDoorShelf
namespace Go.Proofs.YtafehfpjogbmfaaDoor
open Go.ChangeShapes Go.WideShapes Go.ChangeAt Go.RowKit
set_option linter.unusedVariables false
set_option linter.unusedSimpArgs false
set_option maxRecDepth 100000

def dlB : ByteArray := ⟨#[123, 125, 91, 93, 124, 44]⟩
theorem iter_below (w : World) (s : ByteArray) (p : Nat) : Below w.heap.size w (w.iter s p) := (Below.refl _ _).alloc (Nat.le_refl _) _
theorem ix_no {c : UInt8} (h : 128 ≤ c.toNat) {l : List UInt8} (hl : ∀ x ∈ l, x.toNat < 128) : Lib.indexByte l c = -1 := by
  induction l with
  | nil => rfl
  | cons a l ih =>
    have ha : a.toNat < 128 := hl a (by simp)
    have hne : (a == c) = false := by
      apply beq_eq_false_iff_ne.2
      intro e
      rw [e] at ha
      omega
    unfold Lib.indexByte
    rw [ih (fun x hx => hl x (by simp [hx]))]
    simp [hne]

set_option maxHeartbeats 4000000 in
theorem indexRune_err (w : World) :
    Calls Tryd.prog 41 #[.string dlB, .int .i32 65533] w fun e w' => e = .returned (.int .i64 (-1)) ∧ Below w.heap.size w w' := by
  go_enter Tryd.func41, Tryd.ntmps41
  go_wp2
  go_loopg [5, 6] 6 (fun g _ _ wx => ∃ i : Nat, i + g = 6 ∧ wx = w.iter dlB i)
  case atStart => exact ⟨0, by omega, rfl⟩
  case round =>
    obtain ⟨i, hig, rfl⟩ := hrel
    cases gk with
    | zero =>
      obtain rfl : i = 6 := by omega
      have hnx := fun ty => run_next_end (P := Tryd.prog) w dlB 6 ty (by decide)
      go_wp2
      go_ret
      exact ⟨rfl, iter_below w dlB 6⟩
    | succ g =>
      have hi : i < dlB.size := by show i < 6; omega
      have hal : ∀ x ∈ dlB.data.toList, x.toNat < 128 := by decide
      obtain ⟨x, hx⟩ : ∃ x : UInt8, dlB[i]'hi = x := ⟨_, rfl⟩
      have hx128 : x.toNat < 128 := hal x (by rw [← hx]; exact List.getElem_mem (by simpa using hi))
      have hnx := fun ty => run_next_ascii (P := Tryd.prog) w dlB i ty hi (by rw [hx]; exact hx128)
      rw [hx] at hnx
      have hne : ((x.toNat : Int) == 65533) = false := by simp; omega
      clear hx hal
      go_wp2
      go_roundg g
      case measure => omega
      case rel => exact ⟨i + 1, by omega, rfl⟩
theorem ixb_no (i : Nat) (c : UInt8) (w : World) (h : 128 ≤ c.toNat) : Calls Tryd.prog 55 #[.string (dlB.extract i 6), .int .u8 (c.toNat : Nat)] w fun e w' => e = .returned (.int .i64 (-1)) ∧ w' = w := by
  refine (Tryd.strings_IndexByte _ _ _).mono ?_
  rintro e w' ⟨rfl, rfl⟩
  refine ⟨?_, rfl⟩
  have hc : ((c.toNat : Nat) : Int).toNat.toUInt8 = c := by simp
  rw [hc, ix_no h]
  intro x hx
  have hm : x ∈ dlB.data.toList := by
    have h1 : (dlB.extract i 6).data.toList = (dlB.data.toList.take 6).drop i := by simp [ByteArray.data_extract, List.drop_take]
    rw [h1] at hx
    exact List.mem_of_mem_take (List.mem_of_mem_drop hx)
  have hal : ∀ x ∈ dlB.data.toList, x.toNat < 128 := by decide
  exact hal x hm
set_option maxHeartbeats 4000000 in
theorem indexRune_2 (r : Int) (w : World) (h0 : 128 ≤ r) (he : ¬ r = 65533) (hv : Lib.validRune r = true) {a b : UInt8} (hE : Utf8.encode r = ⟨#[a, b]⟩) (hb : 128 ≤ b.toNat) :
    Calls Tryd.prog 41 #[.string dlB, .int .i32 r] w fun e w' => e = .returned (.int .i64 (-1)) ∧ Below w.heap.size w w' := by
  have g1 : ¬ r < 128 := by omega
  have g2 : (r == 65533) = false := by simp; exact he
  have g3 : (0 : Int) ≤ r := by omega
  have hsz : dlB.size = 6 := rfl
  have hsz2 : (⟨#[a, b]⟩ : ByteArray).size = 2 := rfl
  have hix : (⟨#[a, b]⟩ : ByteArray)[1]'(by rw [hsz2]; decide) = b := rfl
  have hi6 : dlB[1]'(by rw [hsz]; decide) = 125 := rfl
  have hne : ((125 : Int) != (b.toNat : Int)) = true := by simp; omega
  have IX : Hid (∀ w, Calls Tryd.prog 55 #[.string (dlB.extract 2 6), .int .u8 (b.toNat : Nat)] w fun e w' => e = .returned (.int .i64 (-1)) ∧ w' = w) := fun w => ixb_no 2 b w hb
  go_enter Tryd.func41, Tryd.ntmps41
  go_wp2_with (go_at_call 56; go_must (refine (Tryd.utf8_ValidRune _ _).mono ?_; rintro e w' ⟨rfl, rfl⟩; rw [hv]))
  go_step3
  go_wp2_with (rw [hE])
  go_loopg [9, 10, 11, 12] 0 (fun g u9 u10 _ _ wx => u9 = .int .i64 1 ∧ u10 = .int .i64 0 ∧ wx = w')
  case atStart => exact ⟨rfl, rfl, rfl⟩
  case round =>
    obtain ⟨rfl, rfl, rfl⟩ := hrel
    go_wp2_with fail
    go_step3
    go_wp2_with fail
    go_quiet (fail)
    go_wp2_with fail
    go_region_with (go_at_call 55; refine (IX.out _).mono ?_; rintro e w' ⟨rfl, rfl⟩)
    all_goals go_wp2_with fail
    all_goals
      rw [Exit.noGoto_ret]
      try go_wp2_with fail
      try rw [Exit.noGoto_ret]
      go_ret
      exact ⟨rfl, rfl, rfl, rfl, Nat.le_refl _, fun _ _ => rfl⟩
set_option maxHeartbeats 4000000 in
theorem indexRune_3 (r : Int) (w : World) (h0 : 128 ≤ r) (he : ¬ r = 65533) (hv : Lib.validRune r = true) {a b c : UInt8} (hE : Utf8.encode r = ⟨#[a, b, c]⟩) (hb : 128 ≤ c.toNat) :
    Calls Tryd.prog 41 #[.string dlB, .int .i32 r] w fun e w' => e = .returned (.int .i64 (-1)) ∧ Below w.heap.size w w' := by
  have g1 : ¬ r < 128 := by omega
  have g2 : (r == 65533) = false := by simp; exact he
  have g3 : (0 : Int) ≤ r := by omega
  have hsz : dlB.size = 6 := rfl
  have hsz2 : (⟨#[a, b, c]⟩ : ByteArray).size = 3 := rfl
  have hix : (⟨#[a, b, c]⟩ : ByteArray)[2]'(by rw [hsz2]; decide) = c := rfl
  have hi6 : dlB[2]'(by rw [hsz]; decide) = 91 := rfl
  have hne : ((91 : Int) != (c.toNat : Int)) = true := by simp; omega
  have IX : Hid (∀ w, Calls Tryd.prog 55 #[.string (dlB.extract 3 6), .int .u8 (c.toNat : Nat)] w fun e w' => e = .returned (.int .i64 (-1)) ∧ w' = w) := fun w => ixb_no 3 c w hb
  go_enter Tryd.func41, Tryd.ntmps41
  go_wp2_with (go_at_call 56; go_must (refine (Tryd.utf8_ValidRune _ _).mono ?_; rintro e w' ⟨rfl, rfl⟩; rw [hv]))
  go_step3
  go_wp2_with (rw [hE])
  go_loopg [9, 10, 11, 12] 0 (fun g u9 u10 _ _ wx => u9 = .int .i64 2 ∧ u10 = .int .i64 0 ∧ wx = w')
  case atStart => exact ⟨rfl, rfl, rfl⟩
  case round =>
    obtain ⟨rfl, rfl, rfl⟩ := hrel
    go_wp2_with fail
    go_step3
    go_wp2_with fail
    go_quiet (fail)
    go_wp2_with fail
    go_region_with (go_at_call 55; refine (IX.out _).mono ?_; rintro e w' ⟨rfl, rfl⟩)
    all_goals go_wp2_with fail
    all_goals
      rw [Exit.noGoto_ret]
      try go_wp2_with fail
      try rw [Exit.noGoto_ret]
      go_ret
      exact ⟨rfl, rfl, rfl, rfl, Nat.le_refl _, fun _ _ => rfl⟩
set_option maxHeartbeats 4000000 in
theorem indexRune_4 (r : Int) (w : World) (h0 : 128 ≤ r) (he : ¬ r = 65533) (hv : Lib.validRune r = true) {a b c d : UInt8} (hE : Utf8.encode r = ⟨#[a, b, c, d]⟩) (hb : 128 ≤ d.toNat) :
    Calls Tryd.prog 41 #[.string dlB, .int .i32 r] w fun e w' => e = .returned (.int .i64 (-1)) ∧ Below w.heap.size w w' := by
  have g1 : ¬ r < 128 := by omega
  have g2 : (r == 65533) = false := by simp; exact he
  have g3 : (0 : Int) ≤ r := by omega
  have hsz : dlB.size = 6 := rfl
  have hsz2 : (⟨#[a, b, c, d]⟩ : ByteArray).size = 4 := rfl
  have hix : (⟨#[a, b, c, d]⟩ : ByteArray)[3]'(by rw [hsz2]; decide) = d := rfl
  have hi6 : dlB[3]'(by rw [hsz]; decide) = 93 := rfl
  have hne : ((93 : Int) != (d.toNat : Int)) = true := by simp; omega
  have IX : Hid (∀ w, Calls Tryd.prog 55 #[.string (dlB.extract 4 6), .int .u8 (d.toNat : Nat)] w fun e w' => e = .returned (.int .i64 (-1)) ∧ w' = w) := fun w => ixb_no 4 d w hb
  go_enter Tryd.func41, Tryd.ntmps41
  go_wp2_with (go_at_call 56; go_must (refine (Tryd.utf8_ValidRune _ _).mono ?_; rintro e w' ⟨rfl, rfl⟩; rw [hv]))
  go_step3
  go_wp2_with (rw [hE])
  go_loopg [9, 10, 11, 12] 0 (fun g u9 u10 _ _ wx => u9 = .int .i64 3 ∧ u10 = .int .i64 0 ∧ wx = w')
  case atStart => exact ⟨rfl, rfl, rfl⟩
  case round =>
    obtain ⟨rfl, rfl, rfl⟩ := hrel
    go_wp2_with fail
    go_step3
    go_wp2_with fail
    go_quiet (fail)
    go_wp2_with fail
    go_region_with (go_at_call 55; refine (IX.out _).mono ?_; rintro e w' ⟨rfl, rfl⟩)
    all_goals go_wp2_with fail
    all_goals
      rw [Exit.noGoto_ret]
      try go_wp2_with fail
      try rw [Exit.noGoto_ret]
      go_ret
      exact ⟨rfl, rfl, rfl, rfl, Nat.le_refl _, fun _ _ => rfl⟩
theorem indexRune_high (r : Int) (w : World) (h0 : 128 ≤ r) :
    Calls Tryd.prog 41 #[.string dlB, .int .i32 r] w fun e w' => e = .returned (.int .i64 (-1)) ∧ Below w.heap.size w w' := by
  by_cases he : r = 65533
  · subst he; exact indexRune_err w
  cases hv : Lib.validRune r with
  | false =>
    have g1 : ¬ r < 128 := by omega
    have g2 : (r == 65533) = false := by simp; exact he
    have g3 : (0 : Int) ≤ r := by omega
    go_enter Tryd.func41, Tryd.ntmps41
    go_wp2_with (go_at_call 56; go_must (refine (Tryd.utf8_ValidRune _ _).mono ?_; rintro e w' ⟨rfl, rfl⟩; rw [hv]))
    go_ret
    exact ⟨rfl, Below.refl _ _⟩
  | true =>
    rcases encode_high r h0 with ⟨a, b, hE, hb⟩ | ⟨a, b, c, hE, hb⟩ | ⟨a, b, c, d, hE, hb⟩
    · exact indexRune_2 r w h0 he hv hE hb
    · exact indexRune_3 r w h0 he hv hE hb
    · exact indexRune_4 r w h0 he hv hE hb
end Go.Proofs.YtafehfpjogbmfaaDoor
