/-
  A range over a method value: the iterator's receiver is bound; the body never leaves the loop; what the iterator lays for itself lies on while the rounds go.
-/
import Derived.Test.YtgmcjmmdhfbfpaaOwn
import Derived.RangeFuncNested
import Derived.RangeFuncBound
import Derived.RangeFuncCalls
import Derived.RangeFuncLeaves
import Derived.Shelf.Abstract
import Derived.Shelf.RegionOpen
import Derived.WalkKit
import Derived.OwnWalkIn
import Derived.TacticsInMore
import Derived.LoopNIn
import Derived.LoopIn
import Derived.Maps.OwnIn
import Derived.Maps.AppendAt
namespace Go.Proofs.Ytgmcjmmdhfbfpaa
open Go.ChangeShapes Go.WideShapes Go.ChangeAt Go.RowKit Go.Maps Go.WideMaps Go.Shelf
set_option linter.unusedVariables false
set_option maxRecDepth 100000

theorem grown_of {A B : World} (h : Below A.heap.size A B) : A.grownBy B none := ⟨h.os, h.tape, h.output, h.size, fun k hk _ => h.block k hk⟩

theorem range_bound {α : Type} {F : Fence} {n : Nat} {P : Program} {g : Operand} {ps : Array Tmp} {assign body : Code} {Q : Exit → Act → World → Prop} {a : Act} {w : World}
    (hro : F.round = none) (h1 : 1 ≤ n) {gf : Nat} {bs : Array Value} (hg : a.eval g = .func (.func gf) bs #[]) (hFg : F.fn gf) (eg : ∀ args w, (callFunc gf args).run P w = .ok (.enter gf args) w)
    {encs : α → Array Value} (hps : ∀ x, (encs x).size = ps.size) (xs : List α)
    (hseq : ∀ (l : Nat) (J : Option Nat → List α → World → Prop) (W : World), Below w.heap.size w W →
      (∀ q s A B, J q s A → Below A.heap.size A B → J q s B) →
      (∀ s A B b, J none s A → Below A.heap.size A B → A.heap.size ≤ b → b < B.heap.size → J (some b) s B) →
      (∀ q pre x W1, J q pre W1 → pre.length < xs.length → YieldAt F (n - 1 - 1) P l (encs x) W1 fun e W' => e = .returned (.bool true) ∧ J q (pre ++ [x]) W' ∧ ∀ b, q = some b → b < W1.heap.size → W'.heap[b]? = W1.heap[b]?) →
      J none [] W → CallsIn F (n - 1) P gf (bs ++ #[.func (.yield l) #[] #[]]) W fun e W' => (∃ v, e = .returned v) ∧ ∃ q, J q xs W')
    (I : Option Nat → List α → World → Prop) (hI : ∀ q, OwnFrom w.heap.size (I q)) (hIn : ∀ s A B b, I none s A → Below A.heap.size A B → A.heap.size ≤ b → b < B.heap.size → I (some b) s B) (h0 : I none [] w) (a₁ : α → Act)
    (hassign : ∀ (l : Nat) (x : α) (W : World) (K : Act → World → Prop), K (a₁ x) W →
      assign.wpIn (F.inRound l) (n - 1 - 1) P (Exit.then K (fun _ _ _ => False)) { tmps := (ps.zip (encs x)).foldl (fun t (p, v) => t.setIfInBounds p v) a.tmps, defers := [] } W)
    (hbody : ∀ (l : Nat) (q : Option Nat) (pre : List α) (x : α) (W : World), I q pre W → pre.length < xs.length →
      body.wpIn (F.inRound l) (n - 1 - 1) P (fun e _ W' => e = .normal ∧ KeepsOthers W W' ∧ I q (pre ++ [x]) W' ∧ ∀ b, q = some b → b < W.heap.size → W'.heap[b]? = W.heap[b]?) (a₁ x) W)
    (hdone : ∀ (D : Nat) (q : Option Nat) (W : World), w.heap.size ≤ D → I q xs W → W.heap[D]? = some (.deferred (some [])) → Q .normal { a with defers := { target := .collected D, args := #[] } :: a.defers } W) :
    (Code.rangeFunc g ps assign body).wpIn F n P Q a w := by
  refine wpIn_rangeFunc fun fn hfn => ?_
  rw [hro]
  obtain ⟨R, hR⟩ : ∃ R : LoopState → Loop, R = fun st => { state := st, pending := none, fn := fn, tmps := a.tmps, params := ps, assign := assign, body := body, defers := w.heap.size } := ⟨_, rfl⟩
  obtain ⟨L, hL⟩ : ∃ L, L = w.heap.size + 1 := ⟨_, rfl⟩
  obtain ⟨W1, hW1⟩ : ∃ W1, W1 = (w.alloc (.deferred (some []))).alloc (.loop (R .ready)) := ⟨_, rfl⟩
  have b1 : Below w.heap.size w W1 := by rw [hW1]; exact ((Below.refl _ w).alloc (Nat.le_refl _) _).alloc (by simp) _
  have l1 : W1.heap[L]? = some (.loop (R .ready)) := by
    have := World.alloc_heap_new (w.alloc (.deferred (some []))) (.loop (R .ready))
    rw [World.size_alloc] at this
    rw [hW1, hL]; exact this
  have k1 : W1.heap[w.heap.size]? = some (.deferred (some [])) := by rw [hW1]; exact (Below.heap_alloc _ _ _ (by simp)).trans (World.alloc_heap_new w _)
  have i1 : I none [] W1 := by rw [hW1]; exact (hI none).alloc _ ((hI none).alloc _ h0)
  have hLw : w.heap.size ≤ L := by omega
  have hLn : w.heap.size ≠ L := by omega
  refine ⟨L, [{ target := .collected w.heap.size, args := #[] }], W1, { target := .fn (.func gf) #[], args := bs ++ #[.func (.yield L) #[] #[]] }, W1, gf, bs ++ #[.func (.yield L) #[] #[]], W1, ?_, ?_, ?_, ?_, fun _ => h1, ?_⟩
  · rw [hW1, hR, hL]; exact run_enterLoop_outer _ _ _ _ _
  · simp only [resolve, hg]
    simp [go_sem]
  · intro f' hf'; simp [Target.leads] at hf'; subst hf'; exact hFg
  · simp [invoke, go_sem, eg]
  · refine (hseq L (fun q s W => I q s W ∧ W.heap[L]? = some (.loop (R .ready)) ∧ W.heap[w.heap.size]? = some (.deferred (some [])) ∧ ∀ b, q = some b → L < b) W1 b1 ?_ ?_ ?_ ⟨i1, l1, k1, fun b e => by cases e⟩).mono ?_
    · rintro q s A B ⟨ha, hb, hc, hd⟩ hAB
      exact ⟨hI q s A B none ha (grown_of hAB) (fun r e => by cases e), (hAB.block _ (Array.getElem?_eq_some_iff.1 hb).1).trans hb, (hAB.block _ (Array.getElem?_eq_some_iff.1 hc).1).trans hc, hd⟩
    · rintro s A B b ⟨ha, hb, hc, hd⟩ hAB hbs hbB
      exact ⟨hIn s A B b ha hAB hbs hbB, (hAB.block _ (Array.getElem?_eq_some_iff.1 hb).1).trans hb, (hAB.block _ (Array.getElem?_eq_some_iff.1 hc).1).trans hc, fun b' e => by cases e; have := (Array.getElem?_eq_some_iff.1 hb).1; omega⟩
    · rintro q pre x W ⟨hi, hl, hk, hq⟩ hlen
      have hlt : L < W.heap.size := (Array.getElem?_eq_some_iff.1 hl).1
      have hy := run_yield (P := P) (args := encs x) hl (by rw [hR]; exact hps x)
      rw [hR] at hy
      refine ⟨fn, _, assign, body, hy, roundIn_of_wpIn hfn (hassign _ x W _ ⟨_, run_beginRound hl (by rw [hR]), ?_⟩)⟩
      refine wpIn_mono (hbody _ q pre x _ ((hI q).putObj _ hi hLw hl rfl) hlen) ?_
      rintro e a3 W3 ⟨rfl, hk3, hi3, hq3⟩
      have hl2 := hk3.same L _ (World.putObj_heap_same hlt) rfl
      have hk2 := hk3.same w.heap.size _ ((World.putObj_heap_other hLn).trans hk) rfl
      have hr := run_endRound (P := P) none hl2
      refine ⟨_, _, hr, rfl, ⟨(hI q).putObj _ hi3 hLw hl2 rfl, ?_, (World.putObj_heap_other hLn).trans hk2, hq⟩, ?_⟩
      · rw [World.putObj_heap_same (Array.getElem?_eq_some_iff.1 hl2).1, hR]; rfl
      · intro b hb hbl
        have hbL : b ≠ L := by have := hq b hb; omega
        rw [World.putObj_heap_other hbL, hq3 b hb (by simpa using hbl), World.putObj_heap_other hbL]
    · rintro e W2 ⟨⟨v, rfl⟩, q, hi, hl, hk, -⟩
      have he := run_endLoop (P := P) hl (by rw [hR]; simp)
      refine ⟨none, _, by rw [hR] at he; exact he, hdone _ q _ (Nat.le_refl _) ((hI q).putObj _ hi hLw hl rfl) ((World.putObj_heap_other hLn).trans hk)⟩
end Go.Proofs.Ytgmcjmmdhfbfpaa
