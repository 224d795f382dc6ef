/-
  How great values and names that are bound are.
-/
import Derived.Test.YtafehfpjogbmfaaDoorValTree
namespace Go.Proofs.YtafehfpjogbmfaaDoor
open Go.ChangeShapes Go.WideShapes Go.ChangeAt Go.RowKit
set_option linter.unusedVariables false

def wtVa : Nat → Va → Nat
  | 0, _ => 0
  | d + 1, e => e.text.size + wtS (wtVa d) e.kids
def wtBd (d : Nat) (b : Bd) : Nat := b.name.size + wtVa d b.val
end Go.Proofs.YtafehfpjogbmfaaDoor
