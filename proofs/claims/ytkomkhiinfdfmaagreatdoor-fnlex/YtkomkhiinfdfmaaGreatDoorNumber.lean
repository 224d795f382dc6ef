/-
  What the program's scanner answers where digits stand.
-/
import Derived.Test.YtkomkhiinfdfmaaGreatDoorSkipGap
namespace Go.Proofs.YtkomkhiinfdfmaaGreatDoor
open Go.ChangeShapes Go.WideShapes Go.ChangeAt Go.RowKit
set_option linter.unusedVariables false

/-- What a reading of one word hands back: the word and true, and the place behind it; or false. -/
def TokRes (l : List UInt8) (i : Nat) (line : Int) (tv : Value) (ok : Bool) (k : Nat) : Prop :=
  (ok = true ∧ ∃ t, tokAt l i line = some (t, k) ∧ tv = t.agg) ∨ (ok = false ∧ tokAt l i line = none ∧ tv = .agg #[.int .i64 0, .string ⟨#[]⟩, .int .i64 0, .int .i64 0])

theorem tok_digit_no {l : List UInt8} {i : Nat} {line : Int} (hd : digB (l.getD i 0) = true) (h : ¬ runEnd digB l i - i ≤ 9) : tokAt l i line = none := by
  simp only [tokAt]; rw [if_pos hd, if_neg h]
theorem tok_digit_yes {l : List UInt8} {i : Nat} {line : Int} (hd : digB (l.getD i 0) = true) (h9 : runEnd digB l i - i ≤ 9) : tokAt l i line = some (⟨2, [], valOf (cut l i (runEnd digB l i)), line⟩, runEnd digB l i) := by
  simp only [tokAt]; rw [if_pos hd, if_pos h9]
theorem allDig_run (l : List UInt8) (i : Nat) : allDig (cut l i (runEnd digB l i)) = true := by
  unfold allDig cut runEnd
  rw [Nat.add_sub_cancel_left]
  have e : (l.drop i).take ((l.drop i).takeWhile digB).length = (l.drop i).takeWhile digB := by
    conv => lhs; rw [← List.takeWhile_append_dropWhile (p := digB) (l := l.drop i)]
    rw [List.takeWhile_append_dropWhile]
    have := List.prefix_iff_eq_take.1 (List.takeWhile_prefix digB (l := l.drop i))
    exact this.symm
  rw [e]
  exact List.all_takeWhile

set_option maxRecDepth 100000 in
set_option maxHeartbeats 4000000 in
theorem number_any (C : Nat) (s : ByteArray) (i : Nat) (line d : Int) (V : Option Nat) (w : World) (hs : s.size ≤ 4000) (hi : i < s.size) (hd : digB (s.data.toList.getD i 0) = true) (h : Sc w C s i line d V) :
    Calls Tryz.prog 88 #[.pointer (some ⟨C, 0, none⟩)] w fun e w' => ∃ tv ok, e = .returned (.tuple #[tv, .bool ok]) ∧ TokRes s.data.toList i line tv ok (runEnd digB s.data.toList i) ∧ Sc w' C s (runEnd digB s.data.toList i) line d V ∧ w.grownBy w' (some C) := by
  have HD : Hid (digB (s.data.toList.getD i 0) = true) := hd
  have hC := h.lt
  have HLL : Hid (s.data.toList.length = s.size) := by show s.data.toList.length = s.size; simp
  have hle : runEnd digB s.data.toList i ≤ s.size := by have := runEnd_le digB s.data.toList i (by rw [HLL.out]; omega); rw [HLL.out] at this; exact this
  have hge := runEnd_ge digB s.data.toList i
  have hal := allDig_run s.data.toList i
  have HAL : Hid (allDig (cut s.data.toList i (runEnd digB s.data.toList i)) = true) := hal
  have H0 : Hid (Sc (w.alloc (.cells #[.int .i64 0, .string ⟨#[]⟩, .int .i64 0, .int .i64 0] 49)) C s i line d V) := h.below ((Below.refl _ _).alloc (Nat.le_refl _) _)
  have HT1 := tok_digit_yes (line := line) hd
  have HT2 := tok_digit_no (line := line) hd
  generalize hk : runEnd digB s.data.toList i = k at *
  have HT1' : Hid (k - i ≤ 9 → tokAt s.data.toList i line = some (⟨2, [], valOf (cut s.data.toList i k), line⟩, k)) := HT1
  have HT2' : Hid (¬ k - i ≤ 9 → tokAt s.data.toList i line = none) := HT2
  have HK : Hid (runEnd digB s.data.toList i = k) := hk
  clear hd h hal HT1 HT2 hk
  have hex := extract_cut s i k
  have HEX : Hid (s.extract i k = byteArr (cut s.data.toList i k)) := hex
  have hsz : (s.extract i k).size = k - i := by rw [ByteArray.size_extract]; omega
  clear hex
  go_enter Tryz.func88, Tryz.ntmps88
  go_wp2_with fail
  have htk := take_digit C s i line d V _ hs (by omega) H0.out
  rw [HK.out] at htk
  refine htk.mono ?_
  rintro e w1 ⟨rfl, hsc1, hg1⟩
  clear htk
  have hne : some w.heap.size ≠ some C := by simp; omega
  have hblk := hg1.block w.heap.size (by simp) hne
  have hc1 : ∀ o, w1.cell? ⟨w.heap.size, o, none⟩ = (w.alloc (.cells #[.int .i64 0, .string ⟨#[]⟩, .int .i64 0, .int .i64 0] 49)).cell? ⟨w.heap.size, o, none⟩ := fun o => World.cell?_of_block (a := ⟨w.heap.size, o, none⟩) hblk
  have hf1 : ∀ o, w1.frozen? ⟨w.heap.size, o, none⟩ = (w.alloc (.cells #[.int .i64 0, .string ⟨#[]⟩, .int .i64 0, .int .i64 0] 49)).frozen? ⟨w.heap.size, o, none⟩ := fun o => World.frozen?_of_block (a := ⟨w.heap.size, o, none⟩) hblk
  obtain ⟨_, _, c2, _, _, _, _⟩ := hsc1.cells
  have HS1 : Hid (Sc w1 C s k line d V) := hsc1
  have HG1 : Hid ((w.alloc (.cells #[.int .i64 0, .string ⟨#[]⟩, .int .i64 0, .int .i64 0] 49)).grownBy w1 (some C)) := hg1
  have hz1 : w.heap.size < w1.heap.size := by have := hg1.size; simp at this; omega
  have HGA : Hid (w.grownBy w1 (some C)) := grownBy_transT (World.grownBy_alloc _ _ _) hg1
  have hCb : C ≠ w.heap.size := by omega
  clear hblk hsc1 hg1 hne
  by_cases h9 : k - i ≤ 9
  · have HT : Hid _ := HT1'.out h9
    go_wp2
    go_region_with ((go_at_call 63; refine (digitsValue_any _ _ (by rw [hsz]; omega) (by rw [HEX.out]; exact HAL.out)).mono ?_; rintro e w' ⟨rfl, rfl⟩))
    all_goals go_wp2
    all_goals
      refine bodyPost_ret (v := .tuple #[.agg #[.int .i64 2, .string ⟨#[]⟩, .int .i64 (valOf (cut s.data.toList i k)), .int .i64 line], .bool true]) (by simp [results, Tryz.results88, go_sem, hc1, cut]) rfl ⟨_, _, rfl, .inl ⟨rfl, _, HT.out, rfl⟩, ?_, ?_⟩
      · exact (Sc.store4 HS1.out hCb _ _ _ _).drew
      · exact grown_drew (grown_store4 HGA.out (Nat.le_refl _) _ _ _ _)
  · have HT : Hid _ := HT2'.out h9
    go_wp2
    refine bodyPost_ret (v := .tuple #[.agg #[.int .i64 0, .string ⟨#[]⟩, .int .i64 0, .int .i64 0], .bool false]) (by simp [results, Tryz.results88, go_sem, hc1]) rfl ⟨_, _, rfl, .inr ⟨rfl, HT.out, rfl⟩, ?_, ?_⟩
    · exact Sc.store4 HS1.out hCb _ _ _ _
    · exact grown_store4 HGA.out (Nat.le_refl _) _ _ _ _
end Go.Proofs.YtkomkhiinfdfmaaGreatDoor
