/-
  Chapter 4, plain mathematics: the variables of patterns, what is bound.
-/
import Derived.Test.YtompbdecdaaldaaDoorStrRow
import Derived.Test.YtompbdecdaaldaaDoorWt
namespace Go.Proofs.YtompbdecdaaldaaDoor
open Go.ChangeShapes Go.WideShapes Go.ChangeAt Go.RowKit
set_option linter.unusedVariables false

/-- Names of one behind the other, each once. -/
def foldV {α : Type} (f : α → List ByteArray) (l : List ByteArray) (ks : List α) : List ByteArray := ks.foldl (fun acc y => onceS acc (f y)) l
theorem foldV_snoc {α : Type} (f : α → List ByteArray) (l : List ByteArray) (ks : List α) (k : Nat) (y : α) (h : ks[k]? = some y) : foldV f l (ks.take (k + 1)) = onceS (foldV f l (ks.take k)) (f y) := by
  unfold foldV
  rw [List.take_add_one, h]
  simp
theorem foldV_len {α : Type} (f : α → List ByteArray) (wt : α → Nat) : ∀ (ks : List α) (l : List ByteArray), (∀ y ∈ ks, (f y).length ≤ 1 + wt y) → (foldV f l ks).length ≤ l.length + wtS wt ks
  | [], l, _ => by simp [foldV]
  | y :: ys, l, h => by
    have h1 := foldV_len f wt ys (onceS l (f y)) (fun z hz => h z (by simp [hz]))
    have h2 := onceS_length l (f y)
    have h3 := h y (by simp)
    have h4 : wtS wt (y :: ys) = 1 + wt y + wtS wt ys := by simp [wtS]; omega
    have h5 : foldV f l (y :: ys) = foldV f (onceS l (f y)) ys := rfl
    rw [h5, h4]; omega
theorem foldV_mem {α : Type} (f : α → List ByteArray) : ∀ (ks : List α) (l : List ByteArray), ∀ s ∈ foldV f l ks, s ∈ l ∨ ∃ y ∈ ks, s ∈ f y
  | [], l, s, h => .inl h
  | y :: ys, l, s, h => by
    rcases foldV_mem f ys (onceS l (f y)) s h with h | ⟨z, hz, hs⟩
    · rcases onceS_mem l (f y) s h with h | h
      · exact .inl h
      · exact .inr ⟨y, by simp, h⟩
    · exact .inr ⟨z, by simp [hz], hs⟩

/-- The variables of a pattern. -/
def patV : Nat → Ex → List ByteArray
  | 0, _ => []
  | d + 1, .mk k n t m ks cs => foldV (patV d) (if k = 2 then [t] else []) ks
theorem patV_len : ∀ (d : Nat) (x : Ex), (patV d x).length ≤ 1 + wtEx d x
  | 0, _ => by simp [patV]
  | d + 1, .mk k n t m ks cs => by
    have h1 := foldV_len (patV d) (wtEx d) ks (if k = 2 then [t] else []) (fun y _ => patV_len d y)
    have h2 : (if k = 2 then [t] else ([] : List ByteArray)).length ≤ 1 := by split <;> simp
    have hw : wtEx (d + 1) (.mk k n t m ks cs) = t.size + m.size + wtS (wtEx d) ks + wtS (wtCl (wtEx d)) cs := rfl
    have h3 : patV (d + 1) (.mk k n t m ks cs) = foldV (patV d) (if k = 2 then [t] else []) ks := rfl
    rw [h3, hw]; omega
/-- What is bound behind an expression. -/
def bndV : Nat → Ex → List ByteArray
  | 0, _ => []
  | d + 1, .mk k n t m ks cs => match k, ks with
    | 9, [a, b] => onceS (bndV d b) (patV d a)
    | _, ks => foldV (bndV d) [] ks
/-- The texts of an expression are as long as any may be. -/
def exS : Nat → Ex → Prop
  | 0, _ => False
  | d + 1, .mk k n t m ks cs => okS t ∧ (∀ y ∈ ks, exS d y) ∧ ∀ c ∈ cs, (∀ y ∈ c.1, exS d y) ∧ ∀ y ∈ c.2, exS d y
theorem rows_mem' {α : Type} {w : World} {S : Nat → Prop} {c : Nat} {R : List Value → α → Prop} {v : Value} {es : List α} (h : Rows w S c R v es) : ∀ y ∈ es, ∃ cs, R cs y := by
  intro y hy
  obtain ⟨p, cap, _, _, _, hr⟩ := h
  obtain ⟨i, hi⟩ := List.mem_iff_getElem?.1 hy
  obtain ⟨g, off, _, _, _, hat⟩ := hr (by intro e; rw [e] at hi; simp at hi)
  obtain ⟨cs, _, _, hv⟩ := hat i y hi
  exact ⟨cs, hv⟩
theorem HEx.txts {w : World} {S : Nat → Prop} : ∀ {d : Nat} {cs : List Value} {x : Ex}, HEx w S d cs x → exS d x
  | 0, _, _, h => h.elim
  | d + 1, cs, .mk k n t m ks cl, h => by
    obtain ⟨kv, cv, rfl, h1, h2, h3, h4, f0, f1⟩ := h
    refine ⟨h3, fun y hy => ?_, fun c hc => ?_⟩
    · obtain ⟨_, hv⟩ := rows_mem' f0 y hy
      exact hv.txts
    · obtain ⟨_, p, b, _, g0, g1⟩ := rows_mem' f1 c hc
      exact ⟨fun y hy => by obtain ⟨_, hv⟩ := rows_mem' g0 y hy; exact hv.txts, fun y hy => by obtain ⟨_, hv⟩ := rows_mem' g1 y hy; exact hv.txts⟩
theorem patV_ok : ∀ (d : Nat) (x : Ex), exS d x → ∀ s ∈ patV d x, okS s
  | 0, _, h, _, _ => h.elim
  | d + 1, .mk k n t m ks cs, h, s, hs => by
    rcases foldV_mem (patV d) ks _ s hs with h1 | ⟨y, hy, h1⟩
    · split at h1
      · simp at h1; subst h1; exact h.1
      · simp at h1
    · exact patV_ok d y (h.2.1 y hy) s h1
end Go.Proofs.YtompbdecdaaldaaDoor
