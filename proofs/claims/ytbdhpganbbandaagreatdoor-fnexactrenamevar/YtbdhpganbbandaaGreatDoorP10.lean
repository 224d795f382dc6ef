/-
  Grow
-/
import Derived.Test.YtbdhpganbbandaaGreatDoorP03
import Derived.Deep.AppendLies
set_option maxHeartbeats 16000000
set_option linter.unusedVariables false
set_option maxRecDepth 100000
namespace Go.Proofs.YtbdhpganbbandaaGreatDoor
open Go.ChangeShapes Go.WideShapes Go.ChangeAt Go.RowKit
section
theorem owns_own_lt {w:World} {B:Nat} {e:TypeId} {c n b:Nat} {v:Value} {cells:List Value} (h:w.ownsRow B e c v n cells) (hb:v.ownBlock=some b):B<=b/\b<w.heap.size:=by
 rcases h.2 with hn | ⟨g',cap',cur,hv',hB,hg,hr⟩
 . rw [hn.1] at hb;cases hb
 . rw [hv'] at hb
   simp [Value.ownBlock] at hb;subst hb;exact ⟨hB,(Array.getElem?_eq_some_iff.1 hg).1⟩
variable {α:Type} {wr w1 wb w2:World} {B c k:Nat} {e:TypeId} {R:World->(Nat->Prop)->List Value->α->Prop} {es:List α} {u:Value} {xs:List Value}
end
end Go.Proofs.YtbdhpganbbandaaGreatDoor
