/-
  Values that own their memory.
-/
import Derived.Test.YtafehfpjogbmfaaDoorValWt
import Derived.Test.YtafehfpjogbmfaaDoorOwn
namespace Go.Proofs.YtafehfpjogbmfaaDoor
open Go.ChangeShapes Go.WideShapes Go.ChangeAt Go.RowKit
set_option linter.unusedVariables false

/-- Four cells that are a value which owns its memory. -/
def OVa (w : World) : Nat → List Value → Va → List Nat → Prop
  | 0, _, _, _ => False
  | d + 1, cs, e, fp => ∃ kv, cs = [.int .i64 e.kind, .int .i64 e.n, .string e.text, kv] ∧ okI e.kind ∧ okI e.n ∧ okS e.text ∧ ORows w 24 4 (OVa w d) kv e.kids fp

theorem OVa.keep {w w' : World} : ∀ {d : Nat} {cs : List Value} {e : Va} {fp : List Nat}, OVa w d cs e fp → KeepOn fp w w' → OVa w' d cs e fp
  | 0, _, _, _, h, _ => h.elim
  | d + 1, cs, e, fp, h, hk => by
    obtain ⟨kv, rfl, h1, h2, h3, hr⟩ := h
    exact ⟨kv, rfl, h1, h2, h3, hr.keep hk (fun cs x f _ hs h => h.keep (hk.sub hs))⟩
theorem OVa.tree {w : World} {S : Nat → Prop} : ∀ {d : Nat} {cs : List Value} {e : Va} {fp : List Nat}, OVa w d cs e fp → (∀ a ∈ fp, S a) → HVa w S d cs e
  | 0, _, _, _, h, _ => h.elim
  | d + 1, cs, e, fp, h, hS => by
    obtain ⟨kv, rfl, h1, h2, h3, hr⟩ := h
    exact ⟨kv, rfl, h1, h2, h3, hr.rows hS (fun cs x f _ hs h => h.tree (fun a ha => hS a (hs a ha)))⟩
theorem OVa.lt {w : World} : ∀ {d : Nat} {cs : List Value} {e : Va} {fp : List Nat}, OVa w d cs e fp → ∀ a ∈ fp, a < w.heap.size
  | 0, _, _, _, h => h.elim
  | d + 1, cs, e, fp, h => by
    obtain ⟨kv, rfl, h1, h2, h3, hr⟩ := h
    exact hr.lt (fun cs x f h => h.lt)
theorem OVa.shape {w : World} {d : Nat} {cs : List Value} {e : Va} {fp : List Nat} (h : OVa w d cs e fp) : ∃ sk sn st p1 n1 q1, cs = [.int .i64 sk, .int .i64 sn, .string st, .slice p1 n1 q1] :=
  (h.tree (S := All) (fun _ _ => trivial)).shape
theorem ORows.tree {w : World} {S : Nat → Prop} {d : Nat} {v : Value} {es : List Va} {fp : List Nat} (h : ORows w 24 4 (OVa w d) v es fp) (hS : ∀ a ∈ fp, S a) : Rows w S 4 (HVa w S d) v es :=
  h.rows hS (fun cs x f _ hs h => h.tree (fun a ha => hS a (hs a ha)))
end Go.Proofs.YtafehfpjogbmfaaDoor
