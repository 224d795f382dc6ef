/-
  What the program's Words answers: the parts of a text between blanks, by the library's Split, in new memory. Conditions: the text has at most 2^20 bytes; the library's variable MaxLen holds some number.
-/
import Derived.Test.YtkomkhiinfdfmaaGreatDoorSpecWords
import Derived.Test.YtkomkhiinfdfmaaGreatDoorShelf
namespace Go.Proofs.YtkomkhiinfdfmaaGreatDoor
open Go.ChangeShapes Go.WideShapes Go.ChangeAt Go.RowKit
set_option linter.unusedVariables false

theorem implWords_any (s : ByteArray) (m : Int) (w : World) (hs : s.size ≤ 1048576) (hm : w.cell? ⟨2, 0, none⟩ = some (.int .i64 m)) :
    Calls Tryz.prog 28 #[.string s] w fun e w' => ∃ g, e = .returned (.slice (some ⟨g, 0, none⟩) (wordsL s.data.toList).length (wordsL s.data.toList).length) ∧ w.heap.size ≤ g ∧
      w'.ownsRow w.heap.size 9 1 (.slice (some ⟨g, 0, none⟩) (wordsL s.data.toList).length (wordsL s.data.toList).length) (wordsL s.data.toList).length ((wordsL s.data.toList).map strV) ∧ Below w.heap.size w w' := by
  have hlen := wordsL_length s.data.toList
  rw [Array.length_toList] at hlen
  have hlen' : (wordsL s.data.toList).length ≤ 1048577 := Nat.le_trans hlen (Nat.succ_le_succ hs)
  clear hlen
  have HM : Hid (w.cell? ⟨2, 0, none⟩ = some (.int .i64 m)) := hm
  clear hm
  go_enter Tryz.func28, Tryz.ntmps28
  go_wp2_with (go_at_call 65; go_must (refine (Tryz.strings_Split _ _ m _ (by omega) HM.out (by decide)).mono ?_; rintro e w' ⟨rfl, rfl⟩; rw [(splitB_words s).1, (splitB_words s).2]))
  go_ret
  have e1 : (wordsB s).length = (wordsL s.data.toList).length := by rw [wordsB, List.length_map]
  have ho := World.ownsRow_lit (base := w.heap.size) (e := 9) (size := 1) w (((wordsB s).map Value.string).toArray) (wordsL s.data.toList).length (Nat.le_refl _) (by unfold maxLen; omega) (by simp [e1])
  rw [List.toList_toArray, wordsB_strV] at ho
  exact ⟨w.heap.size, by rw [e1]; rfl, Nat.le_refl _, by rw [wordsB_strV]; exact ho, (Below.refl _ _).alloc (Nat.le_refl _) _⟩

theorem own_form {w : World} {B n : Nat} {e : TypeId} {v : Value} {xs : List Value} (h : w.ownsRow B e 1 v n xs) (hn : 0 < n) :
    ∃ g cap, v = .slice (some ⟨g, 0, none⟩) n cap ∧ B ≤ g ∧ g < w.heap.size ∧ n ≤ cap := by
  rcases h.2 with ⟨_, h0⟩ | ⟨g, cap, cur, hv, hb, hg, hc, _⟩
  · omega
  · exact ⟨g, cap, hv, hb, (Array.getElem?_eq_some_iff.1 hg).1, hc⟩

theorem own_strs {w : World} {B g n cap : Nat} {e : TypeId} {xs : List (List UInt8)} (h : w.ownsRow B e 1 (.slice (some ⟨g, 0, none⟩) n cap) n (xs.map strV)) :
    ∀ i, i < (xs.map fun l => (⟨l.toArray⟩ : ByteArray)).length → w.cell? ⟨g, i, none⟩ = some (.string ((xs.map fun l => (⟨l.toArray⟩ : ByteArray)).getD i ByteArray.empty)) := by
  intro i hi
  have hn : xs.length = n := by have := h.1; rw [List.length_map] at this; omega
  rw [List.length_map] at hi
  rw [h.cellAt i (by omega)]
  simp [List.getD, hi, strV]
end Go.Proofs.YtkomkhiinfdfmaaGreatDoor
