/-
  The specification's Vars: all variables of an expression, ascending, each once.
-/
import Derived.Test.YtgmcjmmdhfbfpaaNameSpecF
namespace Go.Proofs.Ytgmcjmmdhfbfpaa
open Go.ChangeShapes Go.WideShapes Go.ChangeAt Go.RowKit
set_option linter.unusedVariables false
set_option maxRecDepth 100000

theorem specVars_any (w : World) (d : Nat) (cs : List Value) (x : Ex) (h : HEx w All d cs x) (hw : wtEx d x ≤ 1048576) :
    Calls Try.prog 5 #[.agg cs.toArray] w fun e w' => ∃ u, e = .returned u ∧ OwnS w' w.heap.size u (sortS (allV d x)) ∧ Below w.heap.size w w' := by
  have hg := allV_got h.txts
  have hl := hg.len hw
  cases d with
  | zero => exact h.elim
  | succ d =>
    have HH : Hid (HEx w All (d + 1) cs x) := h
    obtain ⟨kv, cv, rfl, -, -, -, -, f0, f1⟩ := h
    obtain ⟨p, cap, rfl, -⟩ := f0
    obtain ⟨pc, capc, rfl, -⟩ := f1
    have BA : Hid (Below w.heap.size w (w.alloc (.cells #[.int .i64 x.kind, .int .i64 x.n, .string x.text, .string x.mod, .slice p x.kids.length cap, .slice pc x.clauses.length capc] 32))) := (Below.refl _ _).alloc (Nat.le_refl _) _
    go_enter Try.func5, Try.ntmps5
    go_wp2_with fail
    refine (all_all (d + 1) _ _ x (HH.out.mono (SameOn.of_below BA.out) (fun _ h => h)) hw).mono ?_
    rintro e w1 ⟨u1, rfl, ho1, hb1⟩
    have B1 : Below w.heap.size w w1 := BA.out.trans (hb1.mono BA.out.size)
    go_wp2_with fail
    refine (sorted_any w1 u1 _ (ho1.strR hg.ok) (by omega)).mono ?_
    rintro e w2 ⟨u2, rfl, ho2, hb2⟩
    go_wp2_with fail
    go_ret
    exact ⟨u2, rfl, ho2.base B1.size, B1.trans (hb2.mono B1.size)⟩
end Go.Proofs.Ytgmcjmmdhfbfpaa
