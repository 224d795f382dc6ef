/-
  Lists of words in memory: what lies where.
-/
import Derived.Test.YtkomkhiinfdfmaaGreatDoorSpecLex
import Derived.WalkKit
import Derived.ProofKit
import Derived.OpenShut
import Derived.WalkSpells
import Derived.Lib.ItoaNum
import Derived.Laws.IdiomStrings
import Derived.Deep.QuietTactic
import Derived.BigQuiet
import Derived.Deep.RegionWith
import Derived.WalkSmall
namespace Go.Proofs.YtkomkhiinfdfmaaGreatDoor
open Go.ChangeShapes Go.WideShapes Go.ChangeAt Go.RowKit
set_option linter.unusedVariables false

/-- Word i of a list of words, in memory. -/
theorem toksC_get (ts : List Tok) (i : Nat) (h : i < ts.length) (j : Nat) (hj : j < 4) : (toksC ts)[i * 4 + j]? = (ts[i]).cells[j]? := by
  induction ts generalizing i with
  | nil => simp at h
  | cons t ts ih =>
    cases i with
    | zero =>
      simp only [toksC, List.flatMap_cons]
      rw [List.getElem?_append_left (by simp [Tok.cells]; omega)]
      simp
    | succ i =>
      simp only [toksC, List.flatMap_cons]
      rw [List.getElem?_append_right (by simp [Tok.cells]; omega)]
      have := ih i (by simpa using h)
      simp only [toksC] at this
      rw [show (i + 1) * 4 + j - t.cells.length = i * 4 + j by simp [Tok.cells]; omega, this]
      simp

theorem own_toks {w : World} {B g n cap : Nat} {e : TypeId} {ts : List Tok} (h : w.ownsRow B e 4 (.slice (some ⟨g, 0, none⟩) n cap) n (toksC ts)) (i : Nat) (hi : i < ts.length) :
    w.cell? ⟨g, i * 4, none⟩ = some (.int .i64 (ts[i]).kind) ∧ w.cell? ⟨g, i * 4 + 1, none⟩ = some (.string ⟨(ts[i]).text.toArray⟩) ∧ w.cell? ⟨g, i * 4 + 2, none⟩ = some (.int .i64 (ts[i]).n) ∧ w.cell? ⟨g, i * 4 + 3, none⟩ = some (.int .i64 (ts[i]).line) := by
  have hn : ts.length = n := by have := h.1; rw [toksC_length] at this; omega
  refine ⟨?_, ?_, ?_, ?_⟩
  · rw [h.cellAt (i * 4) (by omega), show i * 4 = i * 4 + 0 from rfl, toksC_get ts i hi 0 (by omega)]; rfl
  · rw [h.cellAt (i * 4 + 1) (by omega), toksC_get ts i hi 1 (by omega)]; rfl
  · rw [h.cellAt (i * 4 + 2) (by omega), toksC_get ts i hi 2 (by omega)]; rfl
  · rw [h.cellAt (i * 4 + 3) (by omega), toksC_get ts i hi 3 (by omega)]; rfl

theorem grownBy_transT {a b c : World} {r : Option Nat} (h : a.grownBy b r) (k : b.grownBy c r) : a.grownBy c r :=
  ⟨k.os.trans h.os, k.tape.trans h.tape, k.output.trans h.output, Nat.le_trans h.size k.size, fun j hj hr => (k.block j (Nat.lt_of_lt_of_le hj h.size) hr).trans (h.block j hj hr)⟩
theorem grownBy_belowT {a b : World} {r : Option Nat} (h : Below a.heap.size a b) : a.grownBy b r := ⟨h.os, h.tape, h.output, h.size, fun j hj _ => h.block j hj⟩
theorem below_grownByT {a b : World} {B g : Nat} (h : a.grownBy b (some g)) (hB : B ≤ g) (hs : B ≤ a.heap.size) : Below B a b :=
  ⟨h.os, h.tape, h.output, h.size, fun j hj => h.block j (by omega) (by simp; omega)⟩
theorem own_some {w : World} {B g n cap : Nat} {e : TypeId} {xs : List Value} (h : w.ownsRow B e 4 (.slice (some ⟨g, 0, none⟩) n cap) n xs) (j : Nat) (hj : j < n * 4) : ∃ u, w.cell? ⟨g, j, none⟩ = some u :=
  ⟨_, (h.cellAt j hj).trans (List.getElem?_eq_getElem (by rw [h.1]; exact hj))⟩

end Go.Proofs.YtkomkhiinfdfmaaGreatDoor
