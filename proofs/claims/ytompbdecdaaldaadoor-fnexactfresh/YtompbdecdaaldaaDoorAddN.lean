/-
  The program's names.add, by contract.
-/
import Derived.Test.YtompbdecdaaldaaDoorSetAt
import Derived.Maps.Own
import Derived.Maps.OwnSet
import Derived.StringKeys
namespace Go.Proofs.YtompbdecdaaldaaDoor
open Go.ChangeShapes Go.WideShapes Go.ChangeAt Go.RowKit Go.Maps Go.WideMaps
set_option linter.unusedVariables false
set_option maxRecDepth 100000

theorem addN_any (w : World) (mb n : Nat) (S : List UInt8 → Prop) (s : ByteArray) (h : SetAt w mb n S) (hs : okS s) (hn : n < maxLen) :
    Calls Tryd.prog 19 #[.map (some mb), .string s] w fun e w' => e = .returned (.tuple #[]) ∧ SetAt w' mb (n + 1) (fun z => S z ∨ z = s.data.toList) ∧ Off [mb] w w' := by
  obtain ⟨D, hm, hD, hh⟩ := h
  have H : Hid (w.ownsMap Tryd.prog 9 unitElem mb n D) := hm
  have hk : keyOf Tryd.prog 9 (.string s) = some (.string s.data.toList) := keyOf_string_mk Tryd.underlying9 hs
  clear hm
  go_enter Tryd.func19, Tryd.ntmps19
  go_wp2_with (at_mapUpdate; refine wpList_mapUpdate_own _ rfl _ _ _ 32 rfl 9 _ lawN Tryd.underlying32 unitElem mb n D rfl H.out hn _ _ _ rfl rfl hk (.agg []) [] unitElem_mk ?_; intro w1 hm1 hg1)
  go_end0
  refine ⟨rfl, ⟨_, hm1, hD.put _, fun z => ?_⟩, Off.of_grown hg1 (by simp)⟩
  by_cases hz : z = s.data.toList
  · subst hz
    have hM : IsMap D := by obtain ⟨es, rfl, _⟩ := hD.tidy; exact ⟨es, rfl⟩
    simp [has_put_same hM (k := Lit.string s.data.toList) trivial]
  · rw [has_put_other (by intro e; cases e; exact hz rfl), hh z]
    simp [hz]
end Go.Proofs.YtompbdecdaaldaaDoor
