/-
  A name by its first byte.
-/
import Derived.Test.YtafehfpjogbmfaaDoorNames
namespace Go.Proofs.YtafehfpjogbmfaaDoor
open Go.ChangeShapes Go.WideShapes Go.ChangeAt Go.RowKit
set_option linter.unusedVariables false

def firstN (s : ByteArray) : Int := ((s.data.toList.headD 0).toNat : Int)
def varB (s : ByteArray) : Bool := nameB s && inB (firstN s) 65 90
theorem nameB_size (s : ByteArray) (h : nameB s = true) : 0 < s.size := by
  unfold nameB at h
  rw [Bool.and_eq_true] at h
  have := of_decide_eq_true h.2
  omega
theorem first_eq (s : ByteArray) (h : 0 < s.size) : (s[0].toNat : Int) = firstN s := by
  have e : s.data.toList.headD 0 = s[0] := by
    have h' : 0 < s.data.toList.length := by simpa using h
    rw [List.headD_eq_head?_getD, List.head?_eq_getElem?, List.getElem?_eq_getElem h']
    rfl
  rw [firstN, e]
end Go.Proofs.YtafehfpjogbmfaaDoor
