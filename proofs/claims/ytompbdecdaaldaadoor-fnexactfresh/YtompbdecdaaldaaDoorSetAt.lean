/-
  A set of names in a map of the program, told by membership.
-/
import Derived.Test.YtompbdecdaaldaaDoorOwn
import Derived.Maps.Own
import Derived.Maps.OwnSet
import Derived.StringKeys
namespace Go.Proofs.YtompbdecdaaldaaDoor
open Go.ChangeShapes Go.WideShapes Go.ChangeAt Go.RowKit Go.Maps Go.WideMaps
set_option linter.unusedVariables false
set_option maxRecDepth 100000

theorem lawN : Keyed Tryd.prog 9 := string_keyed Tryd.underlying9
structure SetOkN (D : DataW Unit) : Prop where
  tidy : Tidy D
  keys : ∀ es, D = .map es → ∀ p ∈ es, (∃ x, p.1 = .string x) ∧ p.2 = .agg []
theorem SetOkN.put {D : DataW Unit} (h : SetOkN D) (x : List UInt8) : SetOkN (D.put (.string x) (.agg [])) := by
  refine ⟨h.tidy.put (k := .string x) trivial _, fun es he p hp => ?_⟩
  obtain ⟨es0, rfl, hp0⟩ := h.tidy
  have he' : DataW.insert (Lit.string x, DataW.agg []) (es0.filter fun p => !p.1.sameKey (.string x)) = es := by simpa [DataW.put] using he
  rw [← he'] at hp
  have hp2 := ((insert_perm (Lit.string x, (DataW.agg [] : DataW Unit)) (es0.filter fun p => !p.1.sameKey (.string x))).mem_iff).1 hp
  rcases List.mem_cons.1 hp2 with rfl | hp2
  · exact ⟨⟨x, rfl⟩, rfl⟩
  · exact h.keys es0 rfl p (List.mem_filter.1 hp2).1
theorem SetOkN.del {D : DataW Unit} (h : SetOkN D) (x : List UInt8) : SetOkN (D.del (.string x)) := by
  refine ⟨h.tidy.del _, fun es he p hp => ?_⟩
  obtain ⟨es0, rfl, hp0⟩ := h.tidy
  have he' : (es0.filter fun p => !p.1.sameKey (.string x)) = es := by simpa [DataW.del] using he
  rw [← he'] at hp
  exact h.keys es0 rfl p (List.mem_filter.1 hp).1
/-- The map in block mb holds just the names of S; at most n have been put in. -/
def SetAt (w : World) (mb n : Nat) (S : List UInt8 → Prop) : Prop :=
  ∃ D, w.ownsMap Tryd.prog 9 unitElem mb n D ∧ SetOkN D ∧ ∀ z, has D (.string z) = true ↔ S z
theorem SetAt.keep {w w' : World} {mb n : Nat} {S : List UInt8 → Prop} (h : SetAt w mb n S) (he : w'.heap[mb]? = w.heap[mb]?) : SetAt w' mb n S := by
  obtain ⟨D, ⟨es, clock, h1, h2⟩, h3⟩ := h
  exact ⟨D, ⟨es, clock, he.trans h1, h2⟩, h3⟩
theorem SetAt.lt {w : World} {mb n : Nat} {S : List UInt8 → Prop} (h : SetAt w mb n S) : mb < w.heap.size := by
  obtain ⟨D, ⟨es, clock, h1, h2⟩, h3⟩ := h
  exact (Array.getElem?_eq_some_iff.1 h1).1
theorem SetAt.iff {w : World} {mb n : Nat} {S S' : List UInt8 → Prop} (h : SetAt w mb n S) (hS : ∀ z, S z ↔ S' z) : SetAt w mb n S' := by
  obtain ⟨D, h1, h2, h3⟩ := h
  exact ⟨D, h1, h2, fun z => (h3 z).trans (hS z)⟩
theorem SetAt.more {w : World} {mb n n' : Nat} {S : List UInt8 → Prop} (h : SetAt w mb n S) (hn : n ≤ n') : SetAt w mb n' S := by
  obtain ⟨D, h1, h2⟩ := h
  exact ⟨D, h1.mono hn, h2⟩
theorem SetAt.made (w : World) : SetAt (w.alloc (.map #[] 0)) w.heap.size 0 (fun _ => False) :=
  ⟨.map [], World.ownsMap_made w _ _ _, ⟨⟨[], rfl, List.Pairwise.nil⟩, fun es he p hp => by cases he; cases hp⟩, fun z => by simp [has_eq]⟩
end Go.Proofs.YtompbdecdaaldaaDoor
