/-
  How great a module is: weights.
-/
import Derived.Test.YtompbdecdaaldaaDoorGen
namespace Go.Proofs.YtompbdecdaaldaaDoor
open Go.ChangeShapes Go.WideShapes Go.ChangeAt Go.RowKit
set_option linter.unusedVariables false

def wtCl (f : Ex → Nat) (c : Cl) : Nat := wtS f c.1 + wtS f c.2
def wtEx : Nat → Ex → Nat
  | 0, _ => 0
  | d + 1, e => e.text.size + e.mod.size + wtS (wtEx d) e.kids + wtS (wtCl (wtEx d)) e.clauses
def wtRf (r : Rf) : Nat := r.name.size
def wtFn (d : Nat) (f : Fn') : Nat := f.name.size + wtS (wtCl (wtEx d)) f.clauses
def wtMd (d : Nat) (m : Md) : Nat := m.name.size + wtS wtRf m.exports + wtS (wtFn d) m.funs
end Go.Proofs.YtompbdecdaaldaaDoor
