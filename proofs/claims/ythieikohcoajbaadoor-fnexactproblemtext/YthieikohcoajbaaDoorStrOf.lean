/-
  Texts as lists of bytes; the text of a name with its number.
-/
import Derived.Test.YthieikohcoajbaaDoorJoinMath
namespace Go.Proofs.YthieikohcoajbaaDoor
open Go.ChangeShapes Go.WideShapes Go.ChangeAt Go.RowKit
set_option linter.unusedVariables false

def strOf (l : List UInt8) : ByteArray := ⟨l.toArray⟩
theorem strOf_size (l : List UInt8) : (strOf l).size = l.length := by simp [strOf, ByteArray.size]
theorem strOf_data (l : List UInt8) : (strOf l).data.toList = l := by simp [strOf]
theorem strOf_self (a : ByteArray) : strOf a.data.toList = a := by simp [strOf]
theorem ret_strOf {a : ByteArray} {l : List UInt8} (h : a.data.toList = l) : Ending.returned (.string a) = .returned (.string (strOf l)) := by rw [← h, strOf_self]
def refT (r : Rf) : List UInt8 := r.name.data.toList ++ [47] ++ Lib.itoa r.arity
end Go.Proofs.YthieikohcoajbaaDoor
