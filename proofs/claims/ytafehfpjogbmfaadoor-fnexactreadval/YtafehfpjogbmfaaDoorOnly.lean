/-
  What a store into one block leaves.
-/
import Derived.Test.YtafehfpjogbmfaaDoorGrowO
namespace Go.Proofs.YtafehfpjogbmfaaDoor
open Go.ChangeShapes Go.WideShapes Go.ChangeAt Go.RowKit
set_option linter.unusedVariables false
set_option maxRecDepth 100000

/-- Nothing but block b has turned. -/
structure OnlyB (b : Nat) (w w' : World) : Prop where
  os : w'.os = w.os
  tape : w'.tape = w.tape
  output : w'.output = w.output
  size : w'.heap.size = w.heap.size
  block : ∀ a, a ≠ b → w'.heap[a]? = w.heap[a]?
theorem OnlyB.set {b j : Nat} {w : World} {v : Value} : OnlyB b w (w.setCell ⟨b, j, none⟩ v) := ⟨rfl, rfl, rfl, setCell_hs _ _ _, fun a ha => Below.heap_setCell _ _ _ _ ha⟩
theorem OnlyB.trans {b : Nat} {w1 w2 w3 : World} (h : OnlyB b w1 w2) (k : OnlyB b w2 w3) : OnlyB b w1 w3 :=
  ⟨k.os.trans h.os, k.tape.trans h.tape, k.output.trans h.output, k.size.trans h.size, fun a ha => (k.block a ha).trans (h.block a ha)⟩
theorem OnlyB.drew {b : Nat} {w w' : World} (h : OnlyB b w w') : OnlyB b w w'.drew := ⟨h.os, h.tape, h.output, h.size, h.block⟩
theorem OnlyB.keep {b : Nat} {w w' : World} (h : OnlyB b w w') {fp : List Nat} (hb : b ∉ fp) : KeepOn fp w w' := fun a ha => h.block a (fun e => hb (e ▸ ha))
theorem Blk.only {b b' : Nat} {w w' : World} {cs : Array Value} {t : TypeId} (h : Blk w b cs t) (ho : OnlyB b' w w') (hne : b ≠ b') : Blk w' b cs t := (ho.block b hne).trans h
theorem GrowO.only {α : Type} {e : TypeId} {c : Nat} {O : World → List Value → α → List Nat → Prop} (hO : KeepsC O) {b : Nat} {w w' : World} {B C : Nat} {v : Value} {xs : List α} (h : GrowO e c O w B C v xs) (ho : OnlyB b w w') (hb : b < B ∨ C ≤ b) : GrowO e c O w' B C v xs :=
  h.keep hO (Nat.le_of_eq ho.size.symm) (fun a h1 h2 => ho.block a (by omega))
theorem st4_only {b : Nat} {w : World} {c0 c1 c2 c3 : Value} : OnlyB b w ((((w.setCell ⟨b, 0, none⟩ c0).setCell ⟨b, 1, none⟩ c1).setCell ⟨b, 2, none⟩ c2).setCell ⟨b, 3, none⟩ c3) :=
  ((OnlyB.set.trans OnlyB.set).trans OnlyB.set).trans OnlyB.set
theorem st4_blk {b : Nat} {w : World} {z0 z1 z2 z3 : Value} {t : TypeId} (h : Blk w b #[z0, z1, z2, z3] t) (c0 c1 c2 c3 : Value) :
    Blk ((((w.setCell ⟨b, 0, none⟩ c0).setCell ⟨b, 1, none⟩ c1).setCell ⟨b, 2, none⟩ c2).setCell ⟨b, 3, none⟩ c3) b #[c0, c1, c2, c3] t :=
  (((h.same (j := 0) (v := c0) rfl).same (j := 1) (v := c1) rfl).same (j := 2) (v := c2) rfl).same (j := 3) (v := c3) rfl
theorem belowOnly {N b : Nat} {w w1 w' : World} (h : Below N w w1) (ho : OnlyB b w1 w') (hb : N ≤ b) : Below N w w' :=
  ⟨ho.os.trans h.os, ho.tape.trans h.tape, ho.output.trans h.output, by rw [ho.size]; exact h.size, fun a ha => (ho.block a (by omega)).trans (h.block a ha)⟩
end Go.Proofs.YtafehfpjogbmfaaDoor
