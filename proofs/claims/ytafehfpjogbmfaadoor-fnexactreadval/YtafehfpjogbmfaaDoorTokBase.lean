/-
  Words, and lists of words in memory.
-/
import Derived.Test.YtafehfpjogbmfaaDoorRows
import Derived.WalkKit
import Derived.ProofKit
namespace Go.Proofs.YtafehfpjogbmfaaDoor
open Go.ChangeShapes Go.WideShapes Go.ChangeAt Go.RowKit
set_option linter.unusedVariables false

/-- A word: kind, text, number, line. -/
structure Tok where
  kind : Int
  text : List UInt8
  n : Int
  line : Int

def Tok.cells (t : Tok) : List Value := [.int .i64 t.kind, .string ⟨t.text.toArray⟩, .int .i64 t.n, .int .i64 t.line]
def Tok.agg (t : Tok) : Value := .agg #[.int .i64 t.kind, .string ⟨t.text.toArray⟩, .int .i64 t.n, .int .i64 t.line]

def toksC (ts : List Tok) : List Value := ts.flatMap Tok.cells
theorem toksC_length (ts : List Tok) : (toksC ts).length = ts.length * 4 := by
  induction ts with
  | nil => rfl
  | cons t ts ih => simp only [toksC, List.flatMap_cons, List.length_append] at *; rw [ih]; simp [Tok.cells]; omega
/-- Word i of a list of words, in memory. -/
theorem toksC_get (ts : List Tok) (i : Nat) (h : i < ts.length) (j : Nat) (hj : j < 4) : (toksC ts)[i * 4 + j]? = (ts[i]).cells[j]? := by
  induction ts generalizing i with
  | nil => simp at h
  | cons t ts ih =>
    cases i with
    | zero =>
      simp only [toksC, List.flatMap_cons]
      rw [List.getElem?_append_left (by simp [Tok.cells]; omega)]
      simp
    | succ i =>
      simp only [toksC, List.flatMap_cons]
      rw [List.getElem?_append_right (by simp [Tok.cells]; omega)]
      have := ih i (by simpa using h)
      simp only [toksC] at this
      rw [show (i + 1) * 4 + j - t.cells.length = i * 4 + j by simp [Tok.cells]; omega, this]
      simp

theorem own_toks {w : World} {B g n cap : Nat} {e : TypeId} {ts : List Tok} (h : w.ownsRow B e 4 (.slice (some ⟨g, 0, none⟩) n cap) n (toksC ts)) (i : Nat) (hi : i < ts.length) :
    w.cell? ⟨g, i * 4, none⟩ = some (.int .i64 (ts[i]).kind) ∧ w.cell? ⟨g, i * 4 + 1, none⟩ = some (.string ⟨(ts[i]).text.toArray⟩) ∧ w.cell? ⟨g, i * 4 + 2, none⟩ = some (.int .i64 (ts[i]).n) ∧ w.cell? ⟨g, i * 4 + 3, none⟩ = some (.int .i64 (ts[i]).line) := by
  have hn : ts.length = n := by have := h.1; rw [toksC_length] at this; omega
  refine ⟨?_, ?_, ?_, ?_⟩
  · rw [h.cellAt (i * 4) (by omega), show i * 4 = i * 4 + 0 from rfl, toksC_get ts i hi 0 (by omega)]; rfl
  · rw [h.cellAt (i * 4 + 1) (by omega), toksC_get ts i hi 1 (by omega)]; rfl
  · rw [h.cellAt (i * 4 + 2) (by omega), toksC_get ts i hi 2 (by omega)]; rfl
  · rw [h.cellAt (i * 4 + 3) (by omega), toksC_get ts i hi 3 (by omega)]; rfl

end Go.Proofs.YtafehfpjogbmfaaDoor
