/-
  What the specification's l01Next answers where neither a digit nor a name stands; and at every place.
-/
import Derived.Test.YtkomkhiinfdfmaaGreatDoorSpecLexC
namespace Go.Proofs.YtkomkhiinfdfmaaGreatDoor
open Go.ChangeShapes Go.WideShapes Go.ChangeAt Go.RowKit
set_option linter.unusedVariables false

theorem next_two {l : List UInt8} {i : Nat} (hd : digB (l.getD i 0) = false) (hn : isSignC (l.getD i 0) = false) (h2 : i + 2 ≤ l.length) (hc : cut l i (i + 2) = [45, 62] ∨ cut l i (i + 2) = [61, 61]) :
    tokAt l i 0 = some (⟨3, cut l i (i + 2), 0, 0⟩, i + 2) := by
  simp only [tokAt]; rw [if_neg (by rw [hd]; decide), if_neg (by rw [hn]; decide), if_pos ⟨h2, hc⟩]
theorem next_one {l : List UInt8} {i : Nat} (hd : digB (l.getD i 0) = false) (hn : isSignC (l.getD i 0) = false) (h2 : ¬ (i + 2 ≤ l.length ∧ (cut l i (i + 2) = [45, 62] ∨ cut l i (i + 2) = [61, 61]))) (hc : oneSigns.contains (cut l i (i + 1)) = true) :
    tokAt l i 0 = some (⟨3, cut l i (i + 1), 0, 0⟩, i + 1) := by
  simp only [tokAt]; rw [if_neg (by rw [hd]; decide), if_neg (by rw [hn]; decide), if_neg h2, if_pos hc]
theorem next_none {l : List UInt8} {i : Nat} (hd : digB (l.getD i 0) = false) (hn : isSignC (l.getD i 0) = false) (h2 : ¬ (i + 2 ≤ l.length ∧ (cut l i (i + 2) = [45, 62] ∨ cut l i (i + 2) = [61, 61]))) (hc : oneSigns.contains (cut l i (i + 1)) = false) :
    tokAt l i 0 = none := by
  simp only [tokAt]; rw [if_neg (by rw [hd]; decide), if_neg (by rw [hn]; decide), if_neg h2, if_neg (by rw [hc]; decide)]

def oneBA (s : ByteArray) : Bool := oneSigns.contains s.data.toList
theorem one_yes {s : ByteArray} {i : Nat} (he : s.extract i (i + 1) = byteArr (cut s.data.toList i (i + 1))) (h : oneBA (s.extract i (i + 1)) = true) : oneSigns.contains (cut s.data.toList i (i + 1)) = true := by
  rw [he] at h; exact h
theorem one_no {s : ByteArray} {i : Nat} (he : s.extract i (i + 1) = byteArr (cut s.data.toList i (i + 1))) (h : oneBA (s.extract i (i + 1)) = false) : oneSigns.contains (cut s.data.toList i (i + 1)) = false := by
  rw [he] at h; exact h
theorem cut_of_toList {s : ByteArray} {i k : Nat} {x : List UInt8} (h : (s.extract i k).toList = x) : cut s.data.toList i k = x := by
  rw [Lib.toList_data, extract_cut] at h; exact h
theorem toList_of_cut {s : ByteArray} {i k : Nat} {x : List UInt8} (h : cut s.data.toList i k = x) : (s.extract i k).toList = x := by
  rw [Lib.toList_data, extract_cut]; exact h

theorem has_one (w : World) (g : Nat) (hg : g = w.heap.size) (s : ByteArray) :
    Calls Tryz.prog 94 #[.slice (some ⟨g, 0, none⟩) 17 17, .string s] (w.alloc (.cells #[.string ⟨#[40]⟩, .string ⟨#[41]⟩, .string ⟨#[123]⟩, .string ⟨#[125]⟩, .string ⟨#[91]⟩, .string ⟨#[93]⟩, .string ⟨#[124]⟩, .string ⟨#[44]⟩, .string ⟨#[59]⟩, .string ⟨#[46]⟩, .string ⟨#[58]⟩, .string ⟨#[61]⟩, .string ⟨#[60]⟩, .string ⟨#[43]⟩, .string ⟨#[45]⟩, .string ⟨#[42]⟩, .string ⟨#[47]⟩] 9)) fun e w' => e = .returned (.bool (oneBA s)) ∧ w' = w.alloc (.cells #[.string ⟨#[40]⟩, .string ⟨#[41]⟩, .string ⟨#[123]⟩, .string ⟨#[125]⟩, .string ⟨#[91]⟩, .string ⟨#[93]⟩, .string ⟨#[124]⟩, .string ⟨#[44]⟩, .string ⟨#[59]⟩, .string ⟨#[46]⟩, .string ⟨#[58]⟩, .string ⟨#[61]⟩, .string ⟨#[60]⟩, .string ⟨#[43]⟩, .string ⟨#[45]⟩, .string ⟨#[42]⟩, .string ⟨#[47]⟩] 9) := by
  subst hg
  have h := l01Has_any w.heap.size 17 oneSigns s (w.alloc (.cells #[.string ⟨#[40]⟩, .string ⟨#[41]⟩, .string ⟨#[123]⟩, .string ⟨#[125]⟩, .string ⟨#[91]⟩, .string ⟨#[93]⟩, .string ⟨#[124]⟩, .string ⟨#[44]⟩, .string ⟨#[59]⟩, .string ⟨#[46]⟩, .string ⟨#[58]⟩, .string ⟨#[61]⟩, .string ⟨#[60]⟩, .string ⟨#[43]⟩, .string ⟨#[45]⟩, .string ⟨#[42]⟩, .string ⟨#[47]⟩] 9)) (by decide) (by decide) (by
    intro j hj
    have hj' : j < 17 := hj
    rcases (by omega : j = 0 ∨ j = 1 ∨ j = 2 ∨ j = 3 ∨ j = 4 ∨ j = 5 ∨ j = 6 ∨ j = 7 ∨ j = 8 ∨ j = 9 ∨ j = 10 ∨ j = 11 ∨ j = 12 ∨ j = 13 ∨ j = 14 ∨ j = 15 ∨ j = 16) with rfl | rfl | rfl | rfl | rfl | rfl | rfl | rfl | rfl | rfl | rfl | rfl | rfl | rfl | rfl | rfl | rfl
    all_goals simp [oneSigns])
  exact h

set_option maxRecDepth 100000 in
set_option maxHeartbeats 4000000 in
theorem l01Next_sign (s : ByteArray) (i : Nat) (w : World) (hs : s.size ≤ 4000) (hi : i < s.size) (hd : inB (s[i].toNat : Int) 48 57 = false) (hn : signB (s[i].toNat : Int) = false) :
    Calls Tryz.prog 49 #[.string s, .int .i64 i] w fun e w' => (∃ tv k, e = .returned (.tuple #[tv, .int .i64 k]) ∧ NextIs s.data.toList i tv k) ∧ Below w.heap.size w w' := by
  have hb := byte_lt s i hi
  have HD0 : Hid (digB (s.data.toList.getD i 0) = false) := by show digB (s.data.toList.getD i 0) = false; rw [getD_byte s i hi]; exact hd
  have HN0 : Hid (isSignC (s.data.toList.getD i 0) = false) := by show isSignC (s.data.toList.getD i 0) = false; rw [getD_byte s i hi]; exact hn
  have HLL : Hid (s.data.toList.length = s.size) := by show s.data.toList.length = s.size; simp
  have HE2 : Hid (s.extract i (i + 2) = byteArr (cut s.data.toList i (i + 2))) := extract_cut s i (i + 2)
  have HE1 : Hid (s.extract i (i + 1) = byteArr (cut s.data.toList i (i + 1))) := extract_cut s i (i + 1)
  by_cases h2 : i + 2 ≤ s.size
  · by_cases hA : (s.extract i (i + 2)).toList = [45, 62]
    · have hA1 : ((s.extract i (i + 2)).toList == [45, 62]) = true := by simpa using hA
      have HT : Hid _ := next_two HD0.out HN0.out (by rw [HLL.out]; exact h2) (.inl (cut_of_toList hA))
      go_enter Tryz.func49, Tryz.ntmps49
      go_wp2_with (first
        | (go_at_call 64; go_must (refine (l01Digit_any _ _ hb.1 hb.2).mono ?_; rintro e w' ⟨rfl, rfl⟩))
        | (go_at_call 92; go_must (refine (l01Sign_any _ _ hb.1 hb.2).mono ?_; rintro e w' ⟨rfl, rfl⟩))
        | (go_at_call 94; go_must (refine (has_one (w.alloc (.cells #[.int .i64 0, .string ⟨#[]⟩, .int .i64 0, .int .i64 0] 49)) (w.heap.size + 1) (by simp) (s.extract i (i + 1))).mono ?_; rintro e w' ⟨rfl, rfl⟩)))
      refine bodyPost_ret (v := .tuple #[.agg #[.int .i64 3, .string (s.extract i (i + 2)), .int .i64 0, .int .i64 0], .int .i64 (i + 2)]) (by simp [results, Tryz.results49, go_sem]) rfl ⟨⟨_, _, rfl, .inl ⟨_, _, HT.out, by rw [HE2.out]; rfl, rfl⟩⟩, (Below.refl _ _).alloc (Nat.le_refl _) _⟩
    · by_cases hB : (s.extract i (i + 2)).toList = [61, 61]
      · have hA1 : ((s.extract i (i + 2)).toList == [45, 62]) = false := by simpa using hA
        have hB1 : ((s.extract i (i + 2)).toList == [61, 61]) = true := by simpa using hB
        have HT : Hid _ := next_two HD0.out HN0.out (by rw [HLL.out]; exact h2) (.inr (cut_of_toList hB))
        go_enter Tryz.func49, Tryz.ntmps49
        go_wp2_with (first
          | (go_at_call 64; go_must (refine (l01Digit_any _ _ hb.1 hb.2).mono ?_; rintro e w' ⟨rfl, rfl⟩))
          | (go_at_call 92; go_must (refine (l01Sign_any _ _ hb.1 hb.2).mono ?_; rintro e w' ⟨rfl, rfl⟩))
          | (go_at_call 94; go_must (refine (has_one (w.alloc (.cells #[.int .i64 0, .string ⟨#[]⟩, .int .i64 0, .int .i64 0] 49)) (w.heap.size + 1) (by simp) (s.extract i (i + 1))).mono ?_; rintro e w' ⟨rfl, rfl⟩)))
        refine bodyPost_ret (v := .tuple #[.agg #[.int .i64 3, .string (s.extract i (i + 2)), .int .i64 0, .int .i64 0], .int .i64 (i + 2)]) (by simp [results, Tryz.results49, go_sem]) rfl ⟨⟨_, _, rfl, .inl ⟨_, _, HT.out, by rw [HE2.out]; rfl, rfl⟩⟩, (Below.refl _ _).alloc (Nat.le_refl _) _⟩
      · have hA1 : ((s.extract i (i + 2)).toList == [45, 62]) = false := by simpa using hA
        have hB1 : ((s.extract i (i + 2)).toList == [61, 61]) = false := by simpa using hB
        have HNO : Hid (¬ (i + 2 ≤ s.data.toList.length ∧ (cut s.data.toList i (i + 2) = [45, 62] ∨ cut s.data.toList i (i + 2) = [61, 61]))) := fun h => h.2.elim (fun e => hA (toList_of_cut e)) (fun e => hB (toList_of_cut e))
        have hone : oneBA (s.extract i (i + 1)) = true ∨ oneBA (s.extract i (i + 1)) = false := by cases oneBA (s.extract i (i + 1)) <;> simp
        rcases hone with hone | hone
        · have HT : Hid _ := next_one HD0.out HN0.out HNO.out (one_yes HE1.out hone)
          go_enter Tryz.func49, Tryz.ntmps49
          go_wp2_with (first
              | (go_at_call 64; go_must (refine (l01Digit_any _ _ hb.1 hb.2).mono ?_; rintro e w' ⟨rfl, rfl⟩))
              | (go_at_call 92; go_must (refine (l01Sign_any _ _ hb.1 hb.2).mono ?_; rintro e w' ⟨rfl, rfl⟩))
              | (go_at_call 94; go_must (refine (has_one (w.alloc (.cells #[.int .i64 0, .string ⟨#[]⟩, .int .i64 0, .int .i64 0] 49)) (w.heap.size + 1) (by simp) (s.extract i (i + 1))).mono ?_; rintro e w' ⟨rfl, rfl⟩)))
          refine bodyPost_ret (v := .tuple #[.agg #[.int .i64 3, .string (s.extract i (i + 1)), .int .i64 0, .int .i64 0], .int .i64 (i + 1)]) (by simp [results, Tryz.results49, go_sem]) rfl ⟨⟨_, _, rfl, .inl ⟨_, _, HT.out, by rw [HE1.out]; rfl, rfl⟩⟩, ((Below.refl _ _).alloc (Nat.le_refl _) _).alloc (by simp) _⟩
        · have HT : Hid _ := next_none HD0.out HN0.out HNO.out (one_no HE1.out hone)
          go_enter Tryz.func49, Tryz.ntmps49
          go_wp2_with (first
              | (go_at_call 64; go_must (refine (l01Digit_any _ _ hb.1 hb.2).mono ?_; rintro e w' ⟨rfl, rfl⟩))
              | (go_at_call 92; go_must (refine (l01Sign_any _ _ hb.1 hb.2).mono ?_; rintro e w' ⟨rfl, rfl⟩))
              | (go_at_call 94; go_must (refine (has_one (w.alloc (.cells #[.int .i64 0, .string ⟨#[]⟩, .int .i64 0, .int .i64 0] 49)) (w.heap.size + 1) (by simp) (s.extract i (i + 1))).mono ?_; rintro e w' ⟨rfl, rfl⟩)))
          refine bodyPost_ret (v := .tuple #[.agg #[.int .i64 0, .string ⟨#[]⟩, .int .i64 0, .int .i64 0], .int .i64 (-1)]) (by simp [results, Tryz.results49, go_sem]) rfl ⟨⟨_, _, rfl, .inr ⟨HT.out, rfl, rfl⟩⟩, ((Below.refl _ _).alloc (Nat.le_refl _) _).alloc (by simp) _⟩
  ·
    have HNO : Hid (¬ (i + 2 ≤ s.data.toList.length ∧ (cut s.data.toList i (i + 2) = [45, 62] ∨ cut s.data.toList i (i + 2) = [61, 61]))) := fun h => h2 (by have := h.1; rw [HLL.out] at this; exact this)
    have hone : oneBA (s.extract i (i + 1)) = true ∨ oneBA (s.extract i (i + 1)) = false := by cases oneBA (s.extract i (i + 1)) <;> simp
    rcases hone with hone | hone
    · have HT : Hid _ := next_one HD0.out HN0.out HNO.out (one_yes HE1.out hone)
      go_enter Tryz.func49, Tryz.ntmps49
      go_wp2_with (first
          | (go_at_call 64; go_must (refine (l01Digit_any _ _ hb.1 hb.2).mono ?_; rintro e w' ⟨rfl, rfl⟩))
          | (go_at_call 92; go_must (refine (l01Sign_any _ _ hb.1 hb.2).mono ?_; rintro e w' ⟨rfl, rfl⟩))
          | (go_at_call 94; go_must (refine (has_one (w.alloc (.cells #[.int .i64 0, .string ⟨#[]⟩, .int .i64 0, .int .i64 0] 49)) (w.heap.size + 1) (by simp) (s.extract i (i + 1))).mono ?_; rintro e w' ⟨rfl, rfl⟩)))
      refine bodyPost_ret (v := .tuple #[.agg #[.int .i64 3, .string (s.extract i (i + 1)), .int .i64 0, .int .i64 0], .int .i64 (i + 1)]) (by simp [results, Tryz.results49, go_sem]) rfl ⟨⟨_, _, rfl, .inl ⟨_, _, HT.out, by rw [HE1.out]; rfl, rfl⟩⟩, ((Below.refl _ _).alloc (Nat.le_refl _) _).alloc (by simp) _⟩
    · have HT : Hid _ := next_none HD0.out HN0.out HNO.out (one_no HE1.out hone)
      go_enter Tryz.func49, Tryz.ntmps49
      go_wp2_with (first
          | (go_at_call 64; go_must (refine (l01Digit_any _ _ hb.1 hb.2).mono ?_; rintro e w' ⟨rfl, rfl⟩))
          | (go_at_call 92; go_must (refine (l01Sign_any _ _ hb.1 hb.2).mono ?_; rintro e w' ⟨rfl, rfl⟩))
          | (go_at_call 94; go_must (refine (has_one (w.alloc (.cells #[.int .i64 0, .string ⟨#[]⟩, .int .i64 0, .int .i64 0] 49)) (w.heap.size + 1) (by simp) (s.extract i (i + 1))).mono ?_; rintro e w' ⟨rfl, rfl⟩)))
      refine bodyPost_ret (v := .tuple #[.agg #[.int .i64 0, .string ⟨#[]⟩, .int .i64 0, .int .i64 0], .int .i64 (-1)]) (by simp [results, Tryz.results49, go_sem]) rfl ⟨⟨_, _, rfl, .inr ⟨HT.out, rfl, rfl⟩⟩, ((Below.refl _ _).alloc (Nat.le_refl _) _).alloc (by simp) _⟩
end Go.Proofs.YtkomkhiinfdfmaaGreatDoor
