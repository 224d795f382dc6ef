/-
  Texts that are joined, as lists of bytes: plain mathematics.
-/
import Derived.Test.YthieikohcoajbaaDoorSpecDec
import Derived.Test.YthieikohcoajbaaDoorGen
namespace Go.Proofs.YthieikohcoajbaaDoor
open Go.ChangeShapes Go.WideShapes Go.ChangeAt Go.RowKit
set_option linter.unusedVariables false

/-- Texts with something between two. -/
def joinT (sep : List UInt8) : List (List UInt8) → List UInt8
  | [] => []
  | x :: xs => x ++ (xs.map (sep ++ ·)).flatten
theorem joinT_one (sep x : List UInt8) : joinT sep [x] = x := by simp [joinT]
theorem joinT_snoc (sep : List UInt8) (xs : List (List UInt8)) (x : List UInt8) (h : xs ≠ []) : joinT sep (xs ++ [x]) = joinT sep xs ++ (sep ++ x) := by
  cases xs with
  | nil => exact absurd rfl h
  | cons y ys => simp [joinT]
theorem joinT_length (sep : List UInt8) (xs : List (List UInt8)) : (joinT sep xs).length ≤ sep.length * xs.length + (xs.map List.length).sum := by
  cases xs with
  | nil => simp [joinT]
  | cons y ys =>
    have : ((ys.map (sep ++ ·)).flatten).length = sep.length * ys.length + (ys.map List.length).sum := by
      induction ys with
      | nil => simp
      | cons z zs ih => simp [List.flatten_cons, ih, Nat.mul_add]; omega
    simp [joinT, this, Nat.mul_add]; omega

theorem itoa_len (n : Int) (h0 : -9223372036854775808 ≤ n) (h1 : n ≤ 9223372036854775807) : (Lib.itoa n).length ≤ 21 := by
  have := digits_le n h0 h1
  by_cases h : n < 0
  · rw [itoa_neg n h]; simp; omega
  · rw [itoa_pos n (by omega)]; omega

theorem okI_bd {n : Int} (h : okI n) : -9223372036854775808 ≤ n ∧ n ≤ 9223372036854775807 := by
  unfold okI at h
  simp only [Lit.wf, IntKind.min, IntKind.max, IntKind.signed, IntKind.bits, Bool.and_eq_true, decide_eq_true_eq, if_true] at h
  exact ⟨by omega, by omega⟩
theorem sum_le {α : Type} (f g : α → Nat) : ∀ (xs : List α), (∀ x ∈ xs, f x ≤ g x) → (xs.map f).sum ≤ (xs.map g).sum
  | [], _ => by simp
  | x :: xs, h => by
    have h1 := h x (by simp)
    have h2 := sum_le f g xs (fun y hy => h y (by simp [hy]))
    simp; omega
theorem sum_lin {α : Type} (f : α → Nat) (a b : Nat) : ∀ (xs : List α), (xs.map (fun x => a + b * f x)).sum = a * xs.length + b * (xs.map f).sum
  | [] => by simp
  | x :: xs => by simp [sum_lin f a b xs, Nat.mul_add]; omega

theorem bsize (s : ByteArray) : s.data.toList.length = s.size := by rw [Array.length_toList]; rfl
theorem wtS_take {α : Type} (f : α → Nat) (es : List α) (k : Nat) : wtS f (es.take k) ≤ wtS f es := by
  have h1 := sum_take_le f es k
  have h2 : (es.take k).length ≤ es.length := by rw [List.length_take]; omega
  unfold wtS; omega
theorem wtS_at {α : Type} (f : α → Nat) (es : List α) (k : Nat) (x : α) (h : es[k]? = some x) : f x ≤ wtS f es := by
  have h1 := sum_take_succ f es k x h
  have h2 := sum_take_le f es (k + 1)
  unfold wtS; omega
/-- Joined texts, each not too long for its weight. -/
theorem joinT_wt {α : Type} (T : α → List UInt8) (wt : α → Nat) (a b : Nat) (sep : List UInt8) (hs : sep.length + a ≤ b) (ys : List α) (ih : ∀ y ∈ ys, (T y).length ≤ a + b * wt y) : (joinT sep (ys.map T)).length ≤ b * wtS wt ys := by
  have h1 := joinT_length sep (ys.map T)
  have h2 := sum_le (fun y => (T y).length) (fun y => a + b * wt y) ys ih
  rw [sum_lin] at h2
  simp only [List.length_map, List.map_map] at h1
  have h4 : ((ys.map (List.length ∘ T))).sum = (ys.map fun y => (T y).length).sum := rfl
  rw [h4] at h1
  have h5 : (sep.length + a) * ys.length ≤ b * ys.length := Nat.mul_le_mul_right _ hs
  unfold wtS
  rw [Nat.mul_add]
  rw [Nat.add_mul] at h5
  omega
theorem joinT_at {α : Type} (T : α → List UInt8) (es : List α) (sep : List UInt8) (k : Nat) (x : α) (h : es[k]? = some x) (hk : ¬ k = 0) : joinT sep ((es.take (k + 1)).map T) = joinT sep ((es.take k).map T) ++ (sep ++ T x) := by
  have hl : k < es.length := (List.getElem?_eq_some_iff.1 h).1
  rw [List.take_add_one, h]
  simp only [Option.toList_some, List.map_append, List.map_cons, List.map_nil]
  refine joinT_snoc sep _ _ (fun e => ?_)
  have := congrArg List.length e
  simp at this
  rcases this with h | h
  · exact hk h
  · rw [h] at hl; simp at hl
theorem joinT_first {α : Type} (T : α → List UInt8) (es : List α) (sep : List UInt8) (k : Nat) (hk : k = 0) (x : α) (h : es[k]? = some x) : joinT sep ((es.take (k + 1)).map T) = T x := by
  subst hk; rw [List.take_add_one, h]; simp [joinT]
end Go.Proofs.YthieikohcoajbaaDoor
