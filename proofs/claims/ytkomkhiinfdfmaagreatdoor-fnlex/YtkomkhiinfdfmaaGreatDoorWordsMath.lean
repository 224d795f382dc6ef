/-
  Plain mathematics: the parts of a text between blanks, and that the library's Split at one blank tells them.
-/
import Derived.Test.YtkomkhiinfdfmaaGreatDoorRows
import Derived.Lib.Split
import Derived.Lib.CountLaws
namespace Go.Proofs.YtkomkhiinfdfmaaGreatDoor

def wordsL : List UInt8 → List (List UInt8)
  | [] => [[]]
  | c :: r => if c = 32 then [] :: wordsL r else (c :: (wordsL r).headD []) :: (wordsL r).tail

theorem wordsL_ne (l : List UInt8) : wordsL l ≠ [] := by
  cases l with
  | nil => simp [wordsL]
  | cons c r => unfold wordsL; split <;> simp
theorem wordsL_hit : ∀ (a r : List UInt8), (∀ c ∈ a, c ≠ 32) → wordsL (a ++ 32 :: r) = a :: wordsL r
  | [], r, _ => by simp [wordsL]
  | c :: a, r, h => by
    have hc : c ≠ 32 := h c (by simp)
    have ih := wordsL_hit a r (fun x hx => h x (by simp [hx]))
    rw [List.cons_append, wordsL, if_neg hc, ih]; rfl
theorem wordsL_none : ∀ (a : List UInt8), (∀ c ∈ a, c ≠ 32) → wordsL a = [a]
  | [], _ => rfl
  | c :: a, h => by
    have hc : c ≠ 32 := h c (by simp)
    rw [wordsL, if_neg hc, wordsL_none a (fun x hx => h x (by simp [hx]))]; rfl
theorem wordsL_length : ∀ l : List UInt8, (wordsL l).length ≤ l.length + 1
  | [] => by simp [wordsL]
  | c :: r => by
    have ih := wordsL_length r
    have hne := wordsL_ne r
    unfold wordsL
    split
    · simp only [List.length_cons]; omega
    · have : 0 < (wordsL r).length := List.length_pos_iff.2 hne
      simp only [List.length_cons, List.length_tail]; omega

theorem index32 : ∀ l : List UInt8, (Lib.index l [32] = -1 ∧ ∀ c ∈ l, c ≠ 32) ∨ ∃ a r, l = a ++ 32 :: r ∧ (∀ c ∈ a, c ≠ 32) ∧ Lib.index l [32] = (a.length : Int)
  | [] => .inl ⟨rfl, by simp⟩
  | b :: l => by
    by_cases hb : b = 32
    · subst hb
      exact .inr ⟨[], l, rfl, by simp, by simp [Lib.index]⟩
    · have hp : ([32] : List UInt8).isPrefixOf (b :: l) = false := by
        simp only [List.isPrefixOf, Bool.and_true]
        simpa using fun h : (32 : UInt8) = b => hb h.symm
      rcases index32 l with ⟨h1, h2⟩ | ⟨a, r, rfl, h2, h3⟩
      · refine .inl ⟨?_, fun c hc => ?_⟩
        · rw [Lib.index, hp, h1]; rfl
        · rcases List.mem_cons.1 hc with rfl | hc
          · exact hb
          · exact h2 c hc
      · refine .inr ⟨b :: a, r, rfl, fun c hc => ?_, ?_⟩
        · rcases List.mem_cons.1 hc with rfl | hc
          · exact hb
          · exact h2 c hc
        · have : ¬ ((a.length : Int) = -1) := by omega
          rw [Lib.index, hp, h3]; simp [this]

theorem split32 : ∀ (n : Nat) (l : List UInt8), l.length ≤ n → Lib.splitK [32] 0 (Lib.count l [32]) l = wordsL l ∧ Lib.count l [32] + 1 = (wordsL l).length
  | n, l, hn => by
    rcases index32 l with ⟨h1, h2⟩ | ⟨a, r, rfl, h2, h3⟩
    · rw [Lib.count_miss h1, wordsL_none l h2]
      exact ⟨rfl, rfl⟩
    · have hc := Lib.count_hit (by simp) h3
      have hd : (a ++ 32 :: r).drop (a.length + ([32] : List UInt8).length) = r := by simp
      rw [hd] at hc
      rw [List.length_append, List.length_cons] at hn
      obtain ⟨m, rfl⟩ : ∃ m, n = m + 1 := ⟨n - 1, by omega⟩
      have ih := split32 m r (by omega)
      rw [wordsL_hit a r h2, hc, Nat.add_comm 1]
      refine ⟨?_, by rw [List.length_cons, ih.2]⟩
      have hne : ¬ ((a.length : Int) == -1) = true := by simp
      rw [Lib.splitK, h3, if_neg hne]
      rw [Int.toNat_natCast, hd, ih.1]
      simp

def wordsB (s : ByteArray) : List ByteArray := (wordsL s.data.toList).map fun l => (⟨l.toArray⟩ : ByteArray)
def blankS : ByteArray := ⟨#[32]⟩
theorem splitB_words (s : ByteArray) : Lib.splitB ⟨#[32]⟩ 0 (Lib.countB s ⟨#[32]⟩) s = wordsB s ∧ Lib.countB s ⟨#[32]⟩ + 1 = (wordsB s).length := by
  have h := split32 _ s.data.toList (Nat.le_refl _)
  refine ⟨?_, by rw [wordsB, List.length_map]; exact h.2⟩
  have hd := Lib.splitB_data ⟨#[32]⟩ 0 (Lib.countB s ⟨#[32]⟩) s
  have e : (Lib.splitB ⟨#[32]⟩ 0 (Lib.countB s ⟨#[32]⟩) s).map (fun x => (⟨(x.data.toList).toArray⟩ : ByteArray)) = Lib.splitB ⟨#[32]⟩ 0 (Lib.countB s ⟨#[32]⟩) s := by
    conv => rhs; rw [← List.map_id (Lib.splitB ⟨#[32]⟩ 0 (Lib.countB s ⟨#[32]⟩) s)]
    apply List.map_congr_left
    intro x _
    simp
  have hm : (Lib.splitB ⟨#[32]⟩ 0 (Lib.countB s ⟨#[32]⟩) s).map (fun x => (⟨(x.data.toList).toArray⟩ : ByteArray)) = ((Lib.splitB ⟨#[32]⟩ 0 (Lib.countB s ⟨#[32]⟩) s).map (·.data.toList)).map (fun l : List UInt8 => (⟨l.toArray⟩ : ByteArray)) := by
    rw [List.map_map]; rfl
  rw [← e, hm, hd, wordsB, ← h.1]

def strV (l : List UInt8) : Value := .string ⟨l.toArray⟩
theorem wordsB_strV (s : ByteArray) : (wordsB s).map Value.string = (wordsL s.data.toList).map strV := by
  rw [wordsB, List.map_map]; rfl
theorem extract_eq (s : ByteArray) (f k : Nat) (_h : k ≤ s.size) : s.extract f k = ⟨((s.data.toList.drop f).take (k - f)).toArray⟩ := by
  apply ByteArray.ext
  apply Array.ext'
  rw [ByteArray.data_extract, Array.toList_extract, List.extract_eq_take_drop]
/-- No blank from place f on up to k. -/
def NoBlank (l : List UInt8) (f k : Nat) : Prop := ∀ c ∈ (l.drop f).take (k - f), c ≠ 32
theorem noBlank_start (l : List UInt8) (f : Nat) : NoBlank l f f := by intro c hc; simp at hc
theorem noBlank_step {l : List UInt8} {f k : Nat} (h : NoBlank l f k) (hf : f ≤ k) (hk : k < l.length) (hc : l[k] ≠ 32) : NoBlank l f (k + 1) := by
  intro c hcm
  have e : (l.drop f).take (k + 1 - f) = (l.drop f).take (k - f) ++ [l[k]] := by
    rw [show k + 1 - f = (k - f) + 1 by omega, List.take_succ_eq_append_getElem (by rw [List.length_drop]; omega)]
    simp [List.getElem_drop, show f + (k - f) = k by omega]
  rw [e, List.mem_append] at hcm
  rcases hcm with hcm | hcm
  · exact h c hcm
  · simp only [List.mem_singleton] at hcm; subst hcm; exact hc
theorem words_step {l : List UInt8} {f k : Nat} {out : List (List UInt8)} (h : wordsL l = out ++ wordsL (l.drop f)) (hb : NoBlank l f k) (hf : f ≤ k) (hk : k < l.length) (hc : l[k] = 32) :
    wordsL l = (out ++ [(l.drop f).take (k - f)]) ++ wordsL (l.drop (k + 1)) := by
  have e : l.drop f = (l.drop f).take (k - f) ++ 32 :: l.drop (k + 1) := by
    conv => lhs; rw [← List.take_append_drop (k - f) (l.drop f)]
    rw [List.drop_drop, show f + (k - f) = k by omega, List.drop_eq_getElem_cons hk, hc]
  rw [h, List.append_assoc]
  conv => lhs; rw [e, wordsL_hit _ _ hb]
  rfl
theorem words_end {l : List UInt8} {f k : Nat} {out : List (List UInt8)} (h : wordsL l = out ++ wordsL (l.drop f)) (hb : NoBlank l f k) (hk : l.length ≤ k) : wordsL l = out ++ [l.drop f] := by
  rw [h, wordsL_none]
  intro c hc
  exact hb c (by rw [List.take_of_length_le (by rw [List.length_drop]; omega)]; exact hc)
theorem out_length {l : List UInt8} {f : Nat} {out : List (List UInt8)} (h : wordsL l = out ++ wordsL (l.drop f)) : out.length ≤ l.length := by
  have h1 := wordsL_length l
  have h2 : 0 < (wordsL (l.drop f)).length := List.length_pos_iff.2 (wordsL_ne _)
  rw [h, List.length_append] at h1
  omega
end Go.Proofs.YtkomkhiinfdfmaaGreatDoor
