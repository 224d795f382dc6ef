/-
  The mathematics of a value that is read: names and numbers, lists and tuples.
-/
import Derived.Test.YtafehfpjogbmfaaDoorLexMath
import Derived.Test.YtafehfpjogbmfaaDoorSpecDec
import Derived.Test.YtafehfpjogbmfaaDoorValTree
namespace Go.Proofs.YtafehfpjogbmfaaDoor
open Go.ChangeShapes Go.WideShapes Go.ChangeAt Go.RowKit
set_option linter.unusedVariables false
set_option maxRecDepth 100000

/-- A sign of a name or of a number. -/
def nmB (c : UInt8) : Bool := signB (c.toNat : Int) || decide (c.toNat = 45)
def va0 : Va := .mk 0 0 ⟨#[]⟩ []
/-- Whether a text begins with a minus. -/
def minB (l : List UInt8) : Bool := decide (l.getD 0 0 = 45) && decide (0 < l.length)
def minN (l : List UInt8) : Nat := if minB l = true then 1 else 0
/-- The number of a text of digits, with a minus ahead or not. -/
def numV (l : List UInt8) : Int := if minB l = true then - valOf (l.drop 1) else valOf l
/-- What a name or a number tells, and whether it is one. -/
def plainV (l : List UInt8) : Va × Bool :=
  if atomB (byteArr l) = true then (.mk 1 0 (byteArr l) [], true)
  else if allDig (l.drop (minN l)) = false ∨ (minN l < l.length ∧ 10 < l.length) then (va0, false)
  else (.mk 0 (numV l) ⟨#[]⟩ [], decide (l ≠ []) && ((Lib.itoa (numV l) == l) && inB (numV l) (-999999999) 999999999))
/-- The kids of a tuple, one behind the other. -/
def rvT (l : List UInt8) (V : Nat → Va × Int) : Nat → List Va → Nat → Va × Int
  | 0, _, _ => (va0, -1)
  | k + 1, acc, i =>
    if (V i).2 < 0 ∨ (l.length : Int) ≤ (V i).2 ∨ (l.getD (V i).2.toNat 0 ≠ 44 ∧ l.getD (V i).2.toNat 0 ≠ 125) then (va0, -1)
    else if l.getD (V i).2.toNat 0 = 125 then (.mk 2 0 ⟨#[]⟩ (acc ++ [(V i).1]), (V i).2 + 1)
    else rvT l V k (acc ++ [(V i).1]) ((V i).2.toNat + 1)
def rvC (l : List UInt8) (V : Nat → Va × Int) (i : Nat) : Va × Int :=
  if (V (i + 1)).2 < 0 ∨ (l.length : Int) ≤ (V (i + 1)).2 ∨ l.getD (V (i + 1)).2.toNat 0 ≠ 124 then (va0, -1)
  else if (V ((V (i + 1)).2.toNat + 1)).2 < 0 ∨ (l.length : Int) ≤ (V ((V (i + 1)).2.toNat + 1)).2 ∨ l.getD (V ((V (i + 1)).2.toNat + 1)).2.toNat 0 ≠ 93 then (va0, -1)
  else (.mk 4 0 ⟨#[]⟩ [(V (i + 1)).1, (V ((V (i + 1)).2.toNat + 1)).1], (V ((V (i + 1)).2.toNat + 1)).2 + 1)
/-- The value that begins at a place, with so many brackets open at most, and the place behind it. -/
def rvV (l : List UInt8) : Nat → Nat → Va × Int
  | 0, _ => (va0, -1)
  | d + 1, i =>
    if ¬ i < l.length then (va0, -1)
    else if l.getD i 0 = 123 then rvT l (rvV l d) (l.length + 1) [] (i + 1)
    else if l.getD i 0 = 91 ∧ i + 1 < l.length ∧ l.getD (i + 1) 0 = 93 then (.mk 3 0 ⟨#[]⟩ [], (i : Int) + 2)
    else if l.getD i 0 = 91 then rvC l (rvV l d) i
    else if (plainV (cut l i (runEnd nmB l i))).2 = true then ((plainV (cut l i (runEnd nmB l i))).1, ((runEnd nmB l i : Nat) : Int)) else (va0, -1)

theorem plainV_nil : (plainV []).2 = false := by
  have h : atomB (byteArr []) = false := by decide +kernel
  unfold plainV
  rw [h]
  simp [allDig]
end Go.Proofs.YtafehfpjogbmfaaDoor
