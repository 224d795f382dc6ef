/-
  The texts of values, as lists of bytes: plain mathematics.
-/
import Derived.Test.YthcdppdmiicelaaDoorValSz
import Derived.Test.YthcdppdmiicelaaDoorSpecDec
namespace Go.Proofs.YthcdppdmiicelaaDoor
open Go.ChangeShapes Go.WideShapes Go.ChangeAt Go.RowKit
set_option linter.unusedVariables false

/-- Texts with something between two. -/
def joinT (sep : List UInt8) : List (List UInt8) → List UInt8
  | [] => []
  | x :: xs => x ++ (xs.map (sep ++ ·)).flatten
theorem joinT_one (sep x : List UInt8) : joinT sep [x] = x := by simp [joinT]
theorem joinT_snoc (sep : List UInt8) (xs : List (List UInt8)) (x : List UInt8) (h : xs ≠ []) : joinT sep (xs ++ [x]) = joinT sep xs ++ (sep ++ x) := by
  cases xs with
  | nil => exact absurd rfl h
  | cons y ys => simp [joinT]
theorem joinT_length (sep : List UInt8) (xs : List (List UInt8)) : (joinT sep xs).length ≤ sep.length * xs.length + (xs.map List.length).sum := by
  cases xs with
  | nil => simp [joinT]
  | cons y ys =>
    have : ((ys.map (sep ++ ·)).flatten).length = sep.length * ys.length + (ys.map List.length).sum := by
      induction ys with
      | nil => simp
      | cons z zs ih => simp [List.flatten_cons, ih, Nat.mul_add]; omega
    simp [joinT, this, Nat.mul_add]; omega

/-- The text of a value. -/
def vaTxt : Nat → Va → List UInt8
  | 0, _ => []
  | d + 1, x => if x.kind = 0 then Lib.itoa x.n else if x.kind = 1 then x.text.data.toList else if x.kind = 2 then [123] ++ joinT [44, 32] (x.kids.map (vaTxt d)) ++ [125]
    else if x.kind = 3 then [91, 93] else if x.kind = 4 then [91] ++ joinT [32, 124, 32] (x.kids.map (vaTxt d)) ++ [93] else []

theorem itoa_len (n : Int) (h0 : -9223372036854775808 ≤ n) (h1 : n ≤ 9223372036854775807) : (Lib.itoa n).length ≤ 21 := by
  have := digits_le n h0 h1
  by_cases h : n < 0
  · rw [itoa_neg n h]; simp; omega
  · rw [itoa_pos n (by omega)]; omega

/-- Numbers of a value are of 64 bits. -/
def vaI : Nat → Va → Prop
  | 0, _ => False
  | d + 1, x => okI x.kind ∧ okI x.n ∧ ∀ y ∈ x.kids, vaI d y
theorem okI_bd {n : Int} (h : okI n) : -9223372036854775808 ≤ n ∧ n ≤ 9223372036854775807 := by
  unfold okI at h
  simp only [Lit.wf, IntKind.min, IntKind.max, IntKind.signed, IntKind.bits, Bool.and_eq_true, decide_eq_true_eq, if_true] at h
  exact ⟨by omega, by omega⟩
theorem HVa.ints {w : World} {S : Nat → Prop} : ∀ {d : Nat} {cs : List Value} {x : Va}, HVa w S d cs x → vaI d x
  | 0, _, _, h => h.elim
  | d + 1, cs, x, h => by
    obtain ⟨kv, rfl, h1, h2, h3, p, cap, rfl, _, _, hr⟩ := h
    refine ⟨h1, h2, fun y hy => ?_⟩
    obtain ⟨i, hi⟩ := List.mem_iff_getElem?.1 hy
    obtain ⟨g, off, _, _, _, hat⟩ := hr (by intro e; rw [e] at hi; simp at hi)
    obtain ⟨cs, _, _, hv⟩ := hat i y hi
    exact hv.ints

theorem HVa.lowT {w : World} {S : Nat → Prop} : ∀ {d : Nat} {cs : List Value} {e : Va}, HVa w S d cs e → HVa w (fun a => S a ∧ a < w.heap.size) d cs e
  | 0, _, _, h => h.elim
  | d + 1, cs, e, h => by
    obtain ⟨kv, rfl, h1, h2, h3, p, cap, hv, g1, g2, hx⟩ := h
    refine ⟨kv, rfl, h1, h2, h3, p, cap, hv, g1, g2, fun hne => ?_⟩
    obtain ⟨g, off, hp, hS, hl, hat⟩ := hx hne
    refine ⟨g, off, hp, ⟨hS, hl⟩, hl, fun i x hi => ?_⟩
    obtain ⟨cs, q1, q2, q3⟩ := hat i x hi
    exact ⟨cs, q1, q2, q3.lowT⟩

theorem sum_le {α : Type} (f g : α → Nat) : ∀ (xs : List α), (∀ x ∈ xs, f x ≤ g x) → (xs.map f).sum ≤ (xs.map g).sum
  | [], _ => by simp
  | x :: xs, h => by
    have h1 := h x (by simp)
    have h2 := sum_le f g xs (fun y hy => h y (by simp [hy]))
    simp; omega
theorem sum_lin {α : Type} (f : α → Nat) (a b : Nat) : ∀ (xs : List α), (xs.map (fun x => a + b * f x)).sum = a * xs.length + b * (xs.map f).sum
  | [] => by simp
  | x :: xs => by simp [sum_lin f a b xs, Nat.mul_add]; omega

theorem joinT_bound (d : Nat) (sep : List UInt8) (hs : sep.length ≤ 3) (ys : List Va) (ih : ∀ y ∈ ys, (vaTxt d y).length ≤ 22 + 25 * wtVa d y) : (joinT sep (ys.map (vaTxt d))).length ≤ 25 * wtS (wtVa d) ys := by
  have h1 := joinT_length sep (ys.map (vaTxt d))
  have h2 := sum_le (fun y => (vaTxt d y).length) (fun y => 22 + 25 * wtVa d y) ys ih
  rw [sum_lin] at h2
  have h3 : sep.length * ys.length ≤ 3 * ys.length := Nat.mul_le_mul_right _ hs
  simp only [List.length_map, List.map_map] at h1
  have h4 : ((ys.map (List.length ∘ vaTxt d))).sum = (ys.map fun y => (vaTxt d y).length).sum := rfl
  rw [h4] at h1
  unfold wtS
  omega
theorem vaTxt_len : ∀ (d : Nat) (x : Va), vaI d x → (vaTxt d x).length ≤ 22 + 25 * wtVa d x
  | 0, x, h => h.elim
  | d + 1, x, h => by
    obtain ⟨h1, h2, hk⟩ := h
    have hb := okI_bd h2
    have hi := itoa_len x.n hb.1 hb.2
    have hj1 := joinT_bound d [44, 32] (by simp) x.kids (fun y hy => vaTxt_len d y (hk y hy))
    have hj2 := joinT_bound d [32, 124, 32] (by simp) x.kids (fun y hy => vaTxt_len d y (hk y hy))
    have hw : wtVa (d + 1) x = x.text.size + wtS (wtVa d) x.kids := rfl
    have hts : x.text.data.toList.length = x.text.size := by rw [Array.length_toList]; rfl
    unfold vaTxt
    rw [hw]
    split
    · omega
    split
    · rw [hts]; omega
    split
    · simp only [List.length_append, List.length_cons, List.length_nil]; omega
    split
    · simp only [List.length_cons, List.length_nil]; omega
    split
    · simp only [List.length_append, List.length_cons, List.length_nil]; omega
    · simp
end Go.Proofs.YthcdppdmiicelaaDoor
