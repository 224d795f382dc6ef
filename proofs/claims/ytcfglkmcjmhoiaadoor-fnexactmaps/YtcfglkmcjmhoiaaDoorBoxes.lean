/-
  Structs that lie in boxes: what a call leaves of them; modules, deeper and by their cells.
-/
import Derived.Test.YtcfglkmcjmhoiaaDoorGen
namespace Go.Proofs.YtcfglkmcjmhoiaaDoor
open Go.ChangeShapes Go.WideShapes Go.ChangeAt Go.RowKit
set_option linter.unusedVariables false

theorem HFn.deeper {w : World} {S : Nat → Prop} {d d' : Nat} (hd : d ≤ d') {cs : List Value} {f : Fn'} (h : HFn w S d cs f) : HFn w S d' cs f := by
  have hs : SameOn S w w := ⟨Nat.le_refl _, fun _ _ _ => rfl⟩
  obtain ⟨cv, rfl, h1, h2, hc⟩ := h
  exact ⟨cv, rfl, h1, h2, hc.mono hs (fun _ h => h) (fun _ _ _ h => h.mono hs (fun _ h => h) (fun _ _ => HEx.deeper hd))⟩
theorem HMd.deeper {w : World} {S : Nat → Prop} {d d' : Nat} (hd : d ≤ d') {cs : List Value} {m : Md} (h : HMd w S d cs m) : HMd w S d' cs m := by
  have hs : SameOn S w w := ⟨Nat.le_refl _, fun _ _ _ => rfl⟩
  obtain ⟨ev, fv, rfl, h1, he, hf⟩ := h
  exact ⟨ev, fv, rfl, h1, he.mono hs (fun _ h => h) (fun _ _ _ h => h), hf.mono hs (fun _ h => h) (fun _ _ _ h => h.deeper hd)⟩
theorem HMd.shape {w : World} {S : Nat → Prop} {d : Nat} {cs : List Value} {m : Md} (h : HMd w S d cs m) : ∃ s p1 n1 q1 p2 n2 q2, cs = [.string s, .slice p1 n1 q1, .slice p2 n2 q2] := by
  obtain ⟨ev, fv, rfl, _, ⟨p1, c1, rfl, _⟩, ⟨p2, c2, rfl, _⟩⟩ := h
  exact ⟨_, _, _, _, _, _, _, rfl⟩

theorem HMd.agg {w : World} {S : Nat → Prop} {d : Nat} {v : Value} {m : Md} (h : HMd w S d v.cells.toList m) : ∃ cs : List Value, v = .agg cs.toArray ∧ HMd w S d cs m :=
  ⟨v.cells.toList, agg_of_cells rfl (by obtain ⟨_, _, e, _⟩ := h; rw [e]; simp), h⟩
end Go.Proofs.YtcfglkmcjmhoiaaDoor
