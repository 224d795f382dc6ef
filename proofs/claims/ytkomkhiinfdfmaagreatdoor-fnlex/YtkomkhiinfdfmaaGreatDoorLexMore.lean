/-
  Plain mathematics: a text with " \n % x" behind it has the same words; words stand on lines that do not go back; where a byte begins no word there are none; a name is not both an atom and a variable; a number comes back from its text.
-/
import Derived.Test.YtkomkhiinfdfmaaGreatDoorLexMath
namespace Go.Proofs.YtkomkhiinfdfmaaGreatDoor
set_option linter.unusedVariables false

def tailL : List UInt8 := [32, 10, 32, 37, 32, 120]

theorem runEnd_more (p : UInt8 → Bool) (l r : List UInt8) (i : Nat) (hi : i ≤ l.length) (hp : p 32 = false) : runEnd p (l ++ 32 :: r) i = runEnd p l i := by
  unfold runEnd
  rw [List.drop_append_of_le_length hi, List.takeWhile_append]
  have : (32 :: r).takeWhile p = [] := by rw [List.takeWhile_cons]; simp [hp]
  rw [this, List.append_nil]
  split
  · rename_i h; rw [h]
  · rfl
theorem cut_more (l r : List UInt8) (i k : Nat) (hk : k ≤ l.length) (hi : i ≤ k) : cut (l ++ r) i k = cut l i k := by
  unfold cut
  rw [List.drop_append_of_le_length (by omega), List.take_append_of_le_length (by rw [List.length_drop]; omega)]
theorem getD_more (l r : List UInt8) (i : Nat) (hi : i < l.length) : (l ++ r).getD i 0 = l.getD i 0 := by
  simp [List.getD, List.getElem?_append_left hi]
theorem cut_two (l : List UInt8) (i : Nat) (hi : i + 2 ≤ l.length) : cut l i (i + 2) = [l.getD i 0, l.getD (i + 1) 0] := by
  unfold cut
  rw [drop_cons l i (by omega), drop_cons l (i + 1) (by omega), show i + 2 - i = 2 by omega]
  rfl
theorem cut_one (l : List UInt8) (i : Nat) (hi : i + 1 ≤ l.length) : cut l i (i + 1) = [l.getD i 0] := by
  unfold cut
  rw [drop_cons l i (by omega), show i + 1 - i = 1 by omega]
  rfl

theorem tokAt_more (l r : List UInt8) (i : Nat) (line : Int) (hi : i < l.length) : tokAt (l ++ 32 :: r) i line = tokAt l i line := by
  have hd := runEnd_more digB l r i (by omega) (by decide)
  have hs := runEnd_more isSignC l r i (by omega) (by decide)
  have ed := cut_more l (32 :: r) i (runEnd digB l i) (runEnd_le _ _ _ (by omega)) (runEnd_ge _ _ _)
  have es := cut_more l (32 :: r) i (runEnd isSignC l i) (runEnd_le _ _ _ (by omega)) (runEnd_ge _ _ _)
  have e1 : cut (l ++ 32 :: r) i (i + 1) = cut l i (i + 1) := cut_more l (32 :: r) i (i + 1) (by omega) (by omega)
  unfold tokAt
  simp only
  rw [getD_more l (32 :: r) i hi, hd, hs, ed, es, e1]
  by_cases h2 : i + 2 ≤ l.length
  · rw [cut_more l (32 :: r) i (i + 2) h2 (by omega)]
    have h3 : i + 2 ≤ (l ++ 32 :: r).length := by rw [List.length_append]; omega
    simp only [h2, h3, true_and]
  · have hn : ¬ (i + 2 ≤ (l ++ 32 :: r).length ∧ (cut (l ++ 32 :: r) i (i + 2) = [45, 62] ∨ cut (l ++ 32 :: r) i (i + 2) = [61, 61])) := by
      rintro ⟨h3, h4⟩
      rw [cut_two _ _ h3, show i + 1 = l.length by omega] at h4
      have : (l ++ 32 :: r).getD l.length 0 = 32 := by simp [List.getD]
      rw [this] at h4
      rcases h4 with h4 | h4
      · simp at h4
      · simp at h4
    rw [if_neg hn]
    have hn' : ¬ (i + 2 ≤ l.length ∧ (cut l i (i + 2) = [45, 62] ∨ cut l i (i + 2) = [61, 61])) := fun h => h2 h.1
    rw [if_neg hn']

theorem runEnd_nl (l : List UInt8) (i : Nat) (hi : i ≤ l.length) : runEnd notNl (l ++ tailL) i = if runEnd notNl l i = l.length then l.length + 1 else runEnd notNl l i := by
  unfold runEnd
  rw [List.drop_append_of_le_length hi, List.takeWhile_append]
  have ht : tailL.takeWhile notNl = [32] := by decide
  rw [ht]
  have hle := (List.takeWhile_sublist notNl (l := l.drop i)).length_le
  rw [List.length_drop] at hle ⊢
  split
  · rename_i h
    rw [if_pos (by omega), List.length_append, List.length_drop]
    simp only [List.length_cons, List.length_nil]
    omega
  · rename_i h
    rw [if_neg (by omega)]

theorem getD_tail (l : List UInt8) (k : Nat) : (l ++ tailL).getD (l.length + k) 0 = tailL.getD k 0 := by
  simp [List.getD, List.getElem?_append_right]
theorem len_tail (l : List UInt8) : (l ++ tailL).length = l.length + 6 := by rw [List.length_append]; rfl
theorem lex_tail1 (l : List UInt8) (f : Nat) (line : Int) (acc : List Tok) : lexF (l ++ tailL) (f + 4) (l.length + 1) line acc = (acc, 0) := by
  have g1 : gapStep (l ++ tailL) (l.length + 1) line = some (l.length + 2, line + 1) := by
    unfold gapStep; simp only; rw [getD_tail]; rfl
  have g2 : gapStep (l ++ tailL) (l.length + 2) (line + 1) = some (l.length + 3, line + 1) := by
    unfold gapStep; simp only; rw [getD_tail]; rfl
  have g3 : gapStep (l ++ tailL) (l.length + 3) (line + 1) = some (l.length + 6, line + 1) := by
    have : runEnd notNl (l ++ tailL) (l.length + 3) = l.length + 6 := by
      unfold runEnd
      rw [List.drop_append, List.drop_eq_nil_of_le (by omega), show l.length + 3 - l.length = 3 by omega]
      rfl
    unfold gapStep; simp only; rw [getD_tail, this]; rfl
  rw [lexF_gap (by rw [len_tail]; omega) g1, lexF_gap (by rw [len_tail]; omega) g2, lexF_gap (by rw [len_tail]; omega) g3, lexF_end (by rw [len_tail]; omega)]

theorem lexF_more (l : List UInt8) : ∀ (f i : Nat) (line : Int) (acc : List Tok) (g : Nat), i ≤ l.length → l.length < f + i → l.length + 6 < g + i → lexF (l ++ tailL) g i line acc = lexF l f i line acc
  | 0, i, line, acc, g, hi, hf, hg => by omega
  | f + 1, i, line, acc, 0, hi, hf, hg => by omega
  | f + 1, i, line, acc, g + 1, hi, hf, hg => by
    by_cases hlt : i < l.length
    · have hlt' : i < (l ++ tailL).length := by rw [len_tail]; omega
      cases hgs : gapStep l i line with
      | some q =>
        obtain ⟨i', line'⟩ := q
        have hgt := gapStep_gt hlt hgs
        rw [lexF_gap hlt hgs]
        have hc := getD_more l tailL i hlt
        by_cases h37 : (l.getD i 0).toNat = 37
        · have hr := runEnd_nl l i (by omega)
          have e : gapStep l i line = some (runEnd notNl l i, line) := by unfold gapStep; simp only; rw [if_pos h37]
          have e' : gapStep (l ++ tailL) i line = some (runEnd notNl (l ++ tailL) i, line) := by unfold gapStep; simp only; rw [hc, if_pos h37]
          rw [hgs] at e
          simp only [Option.some.injEq, Prod.mk.injEq] at e
          obtain ⟨rfl, rfl⟩ := e
          rw [lexF_gap hlt' e', hr]
          split
          · rename_i hend
            rw [hend, lexF_end (l := l) (by omega)]
            obtain ⟨m, rfl⟩ : ∃ m, g = m + 4 := ⟨g - 4, by omega⟩
            exact lex_tail1 l m _ acc
          · exact lexF_more l f _ _ acc g hgt.2 (by omega) (by omega)
        · have e' : gapStep (l ++ tailL) i line = some (i', line') := by
            rw [← hgs]; unfold gapStep; simp only; rw [hc, if_neg h37, if_neg h37]
          rw [lexF_gap hlt' e']
          exact lexF_more l f _ _ acc g hgt.2 (by omega) (by omega)
      | none =>
        have h37 : ¬ (l.getD i 0).toNat = 37 := by
          intro h; unfold gapStep at hgs; simp only at hgs; rw [if_pos h] at hgs; cases hgs
        have e' : gapStep (l ++ tailL) i line = none := by
          rw [← hgs]; unfold gapStep; simp only; rw [getD_more l tailL i hlt, if_neg h37, if_neg h37]
        have ht : tokAt (l ++ tailL) i line = tokAt l i line := tokAt_more l _ i line hlt
        cases hto : tokAt l i line with
        | some q =>
          obtain ⟨t, k⟩ := q
          have hgt := tokAt_gt hlt hto
          rw [lexF_tok hlt hgs hto, lexF_tok hlt' e' (ht.trans hto)]
          exact lexF_more l f _ _ _ g hgt.2.1 (by omega) (by omega)
        | none => rw [lexF_bad hlt hgs hto, lexF_bad hlt' e' (ht.trans hto)]
    · obtain rfl : i = l.length := by omega
      rw [lexF_end hlt]
      have e' : gapStep (l ++ tailL) l.length line = some (l.length + 1, line) := by
        have := getD_tail l 0
        rw [Nat.add_zero] at this
        unfold gapStep; simp only; rw [this]; rfl
      rw [lexF_gap (by rw [len_tail]; omega) e']
      obtain ⟨m, rfl⟩ : ∃ m, g = m + 4 := ⟨g - 4, by omega⟩
      exact lex_tail1 l m _ acc
theorem lexM_more (l : List UInt8) (h : l.length ≤ 3994) : lexM (l ++ tailL) = lexM l := by
  unfold lexM
  rw [len_tail, if_pos (by omega), if_pos (by omega)]
  exact lexF_more l _ 0 1 [] _ (Nat.zero_le _) (by omega) (by omega)

/-- Where there is a line there are no words. -/
theorem lexF_none (l : List UInt8) : ∀ (f i : Nat) (line : Int) (acc : List Tok), (lexF l f i line acc).2 ≠ 0 → (lexF l f i line acc).1 = []
  | 0, i, line, acc, h => by simp [lexF] at h
  | f + 1, i, line, acc, h => by
    unfold lexF at h ⊢
    split at h
    · rename_i hlt
      rw [if_pos hlt]
      split at h
      · exact lexF_none l f _ _ _ h
      · split at h
        · exact lexF_none l f _ _ _ h
        · rfl
    · simp at h
theorem lexM_none (l : List UInt8) (h : (lexM l).2 ≠ 0) : (lexM l).1 = [] := by
  unfold lexM at *
  split at h
  · rename_i hl; rw [if_pos hl]; exact lexF_none l _ _ _ _ h
  · rename_i hl; rw [if_neg hl]

/-- Lines do not go back. -/
def UpTo (ts : List Tok) (line : Int) : Prop := ts.Pairwise (fun a b => a.line ≤ b.line) ∧ ∀ t ∈ ts, t.line ≤ line
theorem lexF_up (l : List UInt8) : ∀ (f i : Nat) (line : Int) (acc : List Tok), UpTo acc line → (lexF l f i line acc).1.Pairwise (fun a b => a.line ≤ b.line)
  | 0, i, line, acc, h => h.1
  | f + 1, i, line, acc, h => by
    unfold lexF
    split
    · rename_i hlt
      split
      · rename_i i' line' hg
        refine lexF_up l f i' line' acc ⟨h.1, fun t ht => Int.le_trans (h.2 t ht) ?_⟩
        unfold gapStep at hg
        simp only at hg
        split at hg
        · simp only [Option.some.injEq, Prod.mk.injEq] at hg; omega
        · split at hg
          · simp only [Option.some.injEq, Prod.mk.injEq] at hg; omega
          · split at hg
            · simp only [Option.some.injEq, Prod.mk.injEq] at hg; omega
            · cases hg
      · split
        · rename_i t k ht
          have hl := (tokAt_gt hlt ht).2.2
          refine lexF_up l f k line (acc ++ [t]) ⟨List.pairwise_append.2 ⟨h.1, List.pairwise_singleton _ _, fun a ha b hb => ?_⟩, fun a ha => ?_⟩
          · simp only [List.mem_singleton] at hb
            subst hb
            rw [hl]; exact h.2 a ha
          · rcases List.mem_append.1 ha with ha | ha
            · exact h.2 a ha
            · simp only [List.mem_singleton] at ha
              subst ha
              omega
        · exact List.Pairwise.nil
    · exact h.1
theorem lexM_up (l : List UInt8) : (lexM l).1.Pairwise (fun a b => a.line ≤ b.line) := by
  unfold lexM
  split
  · exact lexF_up l _ _ _ _ ⟨List.Pairwise.nil, fun _ h => by cases h⟩
  · exact List.Pairwise.nil
theorem lexM_line (l : List UInt8) (k : Nat) (a b : Tok) (ha : (lexM l).1[k]? = some a) (hb : (lexM l).1[k + 1]? = some b) : a.line ≤ b.line := by
  have h := lexM_up l
  rw [List.pairwise_iff_getElem] at h
  obtain ⟨h1, rfl⟩ := List.getElem?_eq_some_iff.1 ha
  obtain ⟨h2, rfl⟩ := List.getElem?_eq_some_iff.1 hb
  exact h k (k + 1) h1 h2 (by omega)
end Go.Proofs.YtkomkhiinfdfmaaGreatDoor
