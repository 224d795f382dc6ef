/-
  A row that is grown by append, one element behind the other, each a tree in memory of its own.
-/
import Derived.Test.YthcdppdmiicelaaDoorOwn
import Derived.Deep.AppendLies
import Derived.OwnWalk
namespace Go.Proofs.YthcdppdmiicelaaDoor
open Go.ChangeShapes Go.WideShapes Go.ChangeAt Go.RowKit
set_option linter.unusedVariables false

theorem ownsB_block {w w' : World} {B : Nat} {e : TypeId} {c g n cap : Nat} {v : Value} {cells : List Value} (h : w.ownsRow B e c v n cells) (hv : v = .slice (some ⟨g, 0, none⟩) n cap) (hk : w'.heap[g]? = w.heap[g]?) : w'.ownsRow B e c v n cells := by
  refine ⟨h.1, ?_⟩
  rcases h.2 with hn | ⟨g', cap', cur, hv', hb, hg, hr⟩
  · exact .inl hn
  · have : g' = g := by rw [hv] at hv'; simp at hv'; exact hv'.1.symm
    subst this
    exact .inr ⟨g', cap', cur, hv', hb, hk.trans hg, hr⟩
theorem owns_own_lt {w : World} {B : Nat} {e : TypeId} {c n b : Nat} {v : Value} {cells : List Value} (h : w.ownsRow B e c v n cells) (hb : v.ownBlock = some b) : B ≤ b ∧ b < w.heap.size := by
  rcases h.2 with hn | ⟨g', cap', cur, hv', hB, hg, hr⟩
  · rw [hn.1] at hb; cases hb
  · rw [hv'] at hb
    simp [Value.ownBlock] at hb
    subst hb
    exact ⟨hB, (Array.getElem?_eq_some_iff.1 hg).1⟩

/-- What lies in new memory, but not in the row's own block. -/
def offRow (B : Nat) (w : World) (u : Value) (a : Nat) : Prop := B ≤ a ∧ a < w.heap.size ∧ u.ownBlock ≠ some a

structure Grow {α : Type} (wr : World) (B : Nat) (e : TypeId) (c : Nat) (R : World → (Nat → Prop) → List Value → α → Prop) (es : List α) (k : Nat) (u : Value) (xs : List Value) : Prop where
  own : wr.ownsRow B e c u k xs
  el : ∀ (i : Nat) x, i < k → es[i]? = some x → ∃ cs : List Value, cs.length = c ∧ (∀ j, j < c → xs[i * c + j]? = cs[j]?) ∧ R wr (offRow B wr u) cs x
  low : B ≤ wr.heap.size

variable {α : Type} {wr w1 wb w2 : World} {B c k : Nat} {e : TypeId} {R : World → (Nat → Prop) → List Value → α → Prop} {es : List α} {u : Value} {xs : List Value}

theorem Grow.start (h : B ≤ wr.heap.size) : Grow wr B e c R es 0 (.slice none 0 0) [] :=
  ⟨⟨by simp, .inl ⟨rfl, rfl⟩⟩, fun i x hi => by omega, h⟩

theorem Grow.step (hR : ∀ w w' S S' cs x, R w S cs x → SameOn S w w' → (∀ g, S g → S' g) → R w' S' cs x) (h : Grow wr B e c R es k u xs) {x : α} {cs : List Value} (hx : es[k]? = some x) (hb : Below wr.heap.size wr w1)
    (hr : R w1 (fun a => wr.heap.size ≤ a ∧ a < w1.heap.size) cs x) (hcl : cs.length = c) (hwb : Below w1.heap.size w1 wb) {H g cap : Nat} (hH : w1.heap.size ≤ H) (hHs : H ≤ wb.heap.size)
    (hown : w2.ownsRow B e c (.slice (some ⟨g, 0, none⟩) (k + 1) cap) (k + 1) (xs ++ cs)) (hgr : wb.grownBy w2 u.ownBlock) (hat : u.ownBlock = some g ∨ g = H) {o : Nat} (ho : o < B) (j : Nat) (v : Value) :
    Grow (w2.setCell ⟨o, j, none⟩ v) B e c R es (k + 1) (.slice (some ⟨g, 0, none⟩) (k + 1) cap) (xs ++ cs) := by
  have hlow := h.low
  have s1 := hb.size
  have s2 := hwb.size
  have s3 := hgr.size
  have hgB : B ≤ g ∧ g < w2.heap.size := owns_own_lt hown rfl
  have hu : ∀ b, u.ownBlock = some b → b < wr.heap.size := fun b hb => (owns_own_lt h.own hb).2
  have blk : ∀ a, B ≤ a → a < w1.heap.size → u.ownBlock ≠ some a → (w2.setCell ⟨o, j, none⟩ v).heap[a]? = w1.heap[a]? := fun a h1 h2 h3 =>
    (Below.heap_setCell _ _ _ _ (by show a ≠ o; omega)).trans ((hgr.block a (by omega) (fun e => h3 e.symm)).trans (hwb.block a h2))
  have hxl : xs.length = k * c := h.own.1
  refine ⟨ownsB_block hown rfl (Below.heap_setCell _ _ _ _ (by show g ≠ o; omega)), fun i y hi hy => ?_, by simp only [setCell_hs]; omega⟩
  by_cases hik : i < k
  · obtain ⟨cs', g1, g2, g3⟩ := h.el i y hik hy
    have hil : i * c + c ≤ k * c := by rw [← Nat.succ_mul]; exact Nat.mul_le_mul_right c hik
    refine ⟨cs', g1, fun q hq => ?_, hR _ _ _ _ _ _ g3 ⟨by simp only [setCell_hs]; omega, fun a ha hal => ?_⟩ (fun a ha => ?_)⟩
    · rw [List.getElem?_append_left (by omega)]; exact g2 q hq
    · exact (blk a ha.1 (by omega) ha.2.2).trans (hb.block a ha.2.1)
    · refine ⟨ha.1, by simp only [setCell_hs]; have := ha.2.1; omega, fun e => ?_⟩
      simp [Value.ownBlock] at e
      subst e
      rcases hat with hat | hat
      · exact ha.2.2 hat
      · have := ha.2.1; omega
  · obtain rfl : i = k := by omega
    obtain rfl : x = y := Option.some.inj (hx.symm.trans hy)
    refine ⟨cs, hcl, fun q hq => ?_, hR _ _ _ _ _ _ hr ⟨by simp only [setCell_hs]; omega, fun a ha hal => ?_⟩ (fun a ha => ?_)⟩
    · rw [List.getElem?_append_right (by omega), hxl]; congr 1; omega
    · exact blk a (by have := ha.1; omega) ha.2 (fun e => by have := hu a e; have := ha.1; omega)
    · refine ⟨by have := ha.1; omega, by simp only [setCell_hs]; have := ha.2; omega, fun e => ?_⟩
      simp [Value.ownBlock] at e
      subst e
      rcases hat with hat | hat
      · have := hu _ hat; have := ha.1; omega
      · have := ha.2; omega

theorem Grow.done (hR : ∀ w w' S S' cs x, R w S cs x → SameOn S w w' → (∀ g, S g → S' g) → R w' S' cs x) (h : Grow wr B e c R es k u xs) (hk : es.length = k) : Rows wr (fun a => B ≤ a) c (R wr (fun a => B ≤ a)) u es := by
  rcases h.own.2 with hn | ⟨g, cap, cur, hv, hB, hg, h1, h2, h3, h4⟩
  · refine ⟨none, 0, by rw [hn.1, hk, hn.2], by omega, Nat.zero_le _, fun hne => ?_⟩
    exact absurd (List.length_eq_zero_iff.1 (hk.trans hn.2)) hne
  · refine ⟨_, _, by rw [hk]; exact hv, by rw [hk]; exact h1, h2, fun hne => ⟨g, 0, rfl, hB, (Array.getElem?_eq_some_iff.1 hg).1, fun i x hi => ?_⟩⟩
    have hin : i < k := by rw [← hk]; exact (List.getElem?_eq_some_iff.1 hi).1
    obtain ⟨cs, g1, g2, g3⟩ := h.el i x hin hi
    refine ⟨cs, g1, fun j hj => ?_, hR _ _ _ _ _ _ g3 ⟨Nat.le_refl _, fun _ _ _ => rfl⟩ (fun a ha => ha.1)⟩
    rw [← g2 j hj, Nat.zero_add]
    have ho := h.own
    rw [hv] at ho
    refine ho.cellAt (i * c + j) ?_
    have : i * c + c ≤ k * c := by rw [← Nat.succ_mul]; exact Nat.mul_le_mul_right c hin
    omega
end Go.Proofs.YthcdppdmiicelaaDoor
