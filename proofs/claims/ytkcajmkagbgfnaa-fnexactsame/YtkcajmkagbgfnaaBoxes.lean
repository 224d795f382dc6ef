/-
  Structs that lie in boxes: what a call leaves of them; modules, deeper and by their cells.
-/
import Derived.Test.YtkcajmkagbgfnaaCopy
namespace Go.Proofs.Ytkcajmkagbgfnaa
open Go.ChangeShapes Go.WideShapes Go.ChangeAt Go.RowKit
set_option linter.unusedVariables false

theorem HFn.deeper {w : World} {S : Nat → Prop} {d d' : Nat} (hd : d ≤ d') {cs : List Value} {f : Fn'} (h : HFn w S d cs f) : HFn w S d' cs f := by
  have hs : SameOn S w w := ⟨Nat.le_refl _, fun _ _ _ => rfl⟩
  obtain ⟨cv, rfl, h1, h2, hc⟩ := h
  exact ⟨cv, rfl, h1, h2, hc.mono hs (fun _ h => h) (fun _ _ _ h => h.mono hs (fun _ h => h) (fun _ _ => HEx.deeper hd))⟩
theorem HMd.deeper {w : World} {S : Nat → Prop} {d d' : Nat} (hd : d ≤ d') {cs : List Value} {m : Md} (h : HMd w S d cs m) : HMd w S d' cs m := by
  have hs : SameOn S w w := ⟨Nat.le_refl _, fun _ _ _ => rfl⟩
  obtain ⟨ev, fv, rfl, h1, he, hf⟩ := h
  exact ⟨ev, fv, rfl, h1, he.mono hs (fun _ h => h) (fun _ _ _ h => h), hf.mono hs (fun _ h => h) (fun _ _ _ h => h.deeper hd)⟩
theorem HMd.shape {w : World} {S : Nat → Prop} {d : Nat} {cs : List Value} {m : Md} (h : HMd w S d cs m) : ∃ s p1 n1 q1 p2 n2 q2, cs = [.string s, .slice p1 n1 q1, .slice p2 n2 q2] := by
  obtain ⟨ev, fv, rfl, _, ⟨p1, c1, rfl, _⟩, ⟨p2, c2, rfl, _⟩⟩ := h
  exact ⟨_, _, _, _, _, _, _, rfl⟩

theorem Blk.lt {w : World} {b : Nat} {cs : Array Value} {t : TypeId} (h : Blk w b cs t) : b < w.heap.size := by
  unfold Blk at h; exact (Array.getElem?_eq_some_iff.1 h).1
theorem Blk.next {w w' : World} {b : Nat} {cs : Array Value} {t : TypeId} (h : Blk w b cs t) (hb : Below w.heap.size w w') : Blk w' b cs t := h.below hb h.lt
theorem cell_next {w w' : World} {a : Addr} {v : Value} (hb : Below w.heap.size w w') (h : w.cell? a = some v) : w'.cell? a = some v := by
  refine (hb.cell (p := a) ?_).trans h
  unfold World.cell? at h
  split at h
  · rename_i heq; exact (Array.getElem?_eq_some_iff.1 heq).1
  · cases h

theorem agg_of_cells {v : Value} {cs : List Value} (h : v.cells.toList = cs) (hl : cs.length ≠ 1) : v = .agg cs.toArray := by
  subst h
  cases v <;> first | (exfalso; exact hl rfl) | rfl
theorem HMd.agg {w : World} {S : Nat → Prop} {d : Nat} {v : Value} {m : Md} (h : HMd w S d v.cells.toList m) : ∃ cs : List Value, v = .agg cs.toArray ∧ HMd w S d cs m :=
  ⟨v.cells.toList, agg_of_cells rfl (by obtain ⟨_, _, e, _⟩ := h; rw [e]; simp), h⟩
end Go.Proofs.Ytkcajmkagbgfnaa
