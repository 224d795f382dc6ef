/-
  The walk of FnExactWords: it answers true, and nothing that was there has turned. Conditions: as the contracts of both Words have them.
-/
import Derived.Test.YtijmppcfbdoocabDoorImplWords
import Derived.WalkSmall
namespace Go.Proofs.YtijmppcfbdoocabDoor
open Go.ChangeShapes Go.WideShapes Go.ChangeAt Go.RowKit
set_option linter.unusedVariables false

theorem eqStringS_words {w : World} {B1 B0 b1 b0 c1 c0 : Nat} {xs : List (List UInt8)} (hx : xs.length ≤ 4194304)
    (h1 : w.ownsRow B1 9 1 (.slice (some ⟨b1, 0, none⟩) xs.length c1) xs.length (xs.map strV)) (h0 : w.ownsRow B0 9 1 (.slice (some ⟨b0, 0, none⟩) xs.length c0) xs.length (xs.map strV)) (hc1 : xs.length ≤ c1) (hc0 : xs.length ≤ c0) :
    Calls Tryd.prog 6 #[.slice (some ⟨b1, 0, none⟩) xs.length c1, .slice (some ⟨b0, 0, none⟩) xs.length c0] w fun e w' => e = .returned (.bool true) ∧ ∃ k, w' = w.drewN k := by
  have el : (xs.map fun l => (⟨l.toArray⟩ : ByteArray)).length = xs.length := by rw [List.length_map]
  have hq := eqStringS_some b1 b0 c1 c0 (xs.map fun l => (⟨l.toArray⟩ : ByteArray)) w (by rw [el]; omega) (by rw [el]; omega) (by rw [el]; omega) (own_strs h1) (own_strs h0)
  rw [el] at hq
  exact hq

set_option maxHeartbeats 2000000 in
theorem fnExactWords_walk (a0 : ByteArray) (w0 : a0.size ≤ maxLen) (w : World) (m : Int) (hm : w.cell? ⟨0, 0, none⟩ = some (.int .i64 m)) :
    Calls Tryd.prog 3 #[.string a0] w fun e w' => e = .returned (.bool true) ∧ Below w.heap.size w w' := by
  have hs := w0
  unfold maxLen at hs
  by_cases hl : a0.size ≤ 1048576
  · have hlen := wordsL_length a0.data.toList
    rw [Array.length_toList] at hlen
    have hlen' : (wordsL a0.data.toList).length ≤ 1048577 := Nat.le_trans hlen (Nat.succ_le_succ hl)
    have hpos : 0 < (wordsL a0.data.toList).length := List.length_pos_iff.2 (wordsL_ne _)
    clear hlen
    have hg0 : 0 < w.heap.size := World.block_lt_of_cell? w ⟨0, 0, none⟩ hm
    have HM : Hid (w.cell? ⟨0, 0, none⟩ = some (.int .i64 m)) := hm
    clear hm
    go_enter Tryd.func3, Tryd.ntmps3
    go_wp2_with fail
    refine (specWords_any a0 _ hl).mono ?_
    rintro e w1 ⟨v0, rfl, ho0, hb1⟩
    obtain ⟨b0, c0, rfl, hb0, hb0', hc0⟩ := own_form ho0 hpos
    have hm1 : w1.cell? ⟨0, 0, none⟩ = some (.int .i64 m) := (hb1.cell (p := ⟨0, 0, none⟩) hg0).trans HM.out
    have HB1 : Hid (Below w.heap.size w w1) := hb1
    have HO0 : Hid (w1.ownsRow w.heap.size 9 1 (.slice (some ⟨b0, 0, none⟩) (wordsL a0.data.toList).length c0) (wordsL a0.data.toList).length ((wordsL a0.data.toList).map strV)) := ho0
    have HM1 : Hid (w1.cell? ⟨0, 0, none⟩ = some (.int .i64 m)) := hm1
    clear hb1 ho0 hm1
    have hz1 : w.heap.size ≤ w1.heap.size := HB1.out.size
    go_wp2_with fail
    refine (implWords_any a0 m _ hl HM1.out).mono ?_
    rintro e w2 ⟨b1, rfl, hb1, ho1, hbe2⟩
    have HO1 : Hid (w2.ownsRow w1.heap.size 9 1 (.slice (some ⟨b1, 0, none⟩) (wordsL a0.data.toList).length (wordsL a0.data.toList).length) (wordsL a0.data.toList).length ((wordsL a0.data.toList).map strV)) := ho1
    have HB2 : Hid (Below w1.heap.size w1 w2) := hbe2
    clear ho1 hbe2
    have hz2 : w1.heap.size ≤ w2.heap.size := HB2.out.size
    have hO02 := HO0.out.kept (grownBy_below (r := none) HB2.out) (Or.inr (by simp [Value.ownBlock]))
    have HO02 : Hid (w2.ownsRow w.heap.size 9 1 (.slice (some ⟨b0, 0, none⟩) (wordsL a0.data.toList).length c0) (wordsL a0.data.toList).length ((wordsL a0.data.toList).map strV)) := hO02
    clear hO02
    go_wp2_with fail
    refine (eqStringS_words (xs := wordsL a0.data.toList) (by omega) HO1.out HO02.out (by omega) (by omega)).mono ?_
    rintro e w3 ⟨rfl, k3, rfl⟩
    have HO13 : Hid ((w2.drewN k3).ownsRow w1.heap.size 9 1 (.slice (some ⟨b1, 0, none⟩) (wordsL a0.data.toList).length (wordsL a0.data.toList).length) (wordsL a0.data.toList).length ((wordsL a0.data.toList).map strV)) := HO1.out
    go_wp2_with fail
    refine (markStringS_own w1.heap.size b1 (wordsL a0.data.toList).length (wordsL a0.data.toList).length 1 _ _ (by omega) (by omega) (by omega) HO13.out).mono ?_
    rintro e w4 ⟨rfl, ho4, hg4⟩
    have HO4 : Hid (w4.ownsRow w1.heap.size 9 1 (.slice (some ⟨b1, 0, none⟩) (wordsL a0.data.toList).length (wordsL a0.data.toList).length) (wordsL a0.data.toList).length (marks 1 (wordsL a0.data.toList).length)) := ho4
    have HG4 : Hid ((w2.drewN k3).grownBy w4 (some b1)) := hg4
    clear ho4 hg4
    go_wp2_with fail
    refine (heldStringS_own b1 (wordsL a0.data.toList).length (wordsL a0.data.toList).length 1 _ (by omega) (by omega) (by omega) (by omega) (own_marks HO4.out)).mono ?_
    rintro e w5 ⟨rfl, hb5⟩
    have HB5 : Hid (Below w4.heap.size w4 w5) := hb5
    clear hb5
    have HB05 : Hid (Below w1.heap.size w1 w5) := (((below_drewN HB2.out k3).trans (below_grownBy HG4.out hb1 hz2)).trans (HB5.out.mono (Nat.le_trans hz2 HG4.out.size)))
    have hm5 : w5.cell? ⟨0, 0, none⟩ = some (.int .i64 m) := (HB05.out.cell (p := ⟨0, 0, none⟩) (Nat.lt_of_lt_of_le hg0 hz1)).trans HM1.out
    have HM5 : Hid (w5.cell? ⟨0, 0, none⟩ = some (.int .i64 m)) := hm5
    clear hm5
    go_wp2_with fail
    refine (implWords_any a0 m _ hl HM5.out).mono ?_
    rintro e w6 ⟨b2, rfl, hb2, ho2, hbe6⟩
    have HO2 : Hid (w6.ownsRow w5.heap.size 9 1 (.slice (some ⟨b2, 0, none⟩) (wordsL a0.data.toList).length (wordsL a0.data.toList).length) (wordsL a0.data.toList).length ((wordsL a0.data.toList).map strV)) := ho2
    have HB6 : Hid (Below w5.heap.size w5 w6) := hbe6
    clear ho2 hbe6
    have hO04 := World.ownsRow.kept (w := w2.drewN k3) HO02.out HG4.out (Or.inr (by simp [Value.ownBlock]; omega))
    have hO06 := (hO04.kept (grownBy_below (r := none) HB5.out) (Or.inr (by simp [Value.ownBlock]))).kept (grownBy_below (r := none) HB6.out) (Or.inr (by simp [Value.ownBlock]))
    have HO06 : Hid (w6.ownsRow w.heap.size 9 1 (.slice (some ⟨b0, 0, none⟩) (wordsL a0.data.toList).length c0) (wordsL a0.data.toList).length ((wordsL a0.data.toList).map strV)) := hO06
    have hO46 := (HO4.out.kept (grownBy_below (r := none) HB5.out) (Or.inr (by simp [Value.ownBlock]))).kept (grownBy_below (r := none) HB6.out) (Or.inr (by simp [Value.ownBlock]))
    have HO46 : Hid (w6.ownsRow w1.heap.size 9 1 (.slice (some ⟨b1, 0, none⟩) (wordsL a0.data.toList).length (wordsL a0.data.toList).length) (wordsL a0.data.toList).length (marks 1 (wordsL a0.data.toList).length)) := hO46
    clear hO04 hO06 hO46
    go_wp2_with fail
    refine (eqStringS_words (xs := wordsL a0.data.toList) (by omega) HO2.out HO06.out (by omega) (by omega)).mono ?_
    rintro e w7 ⟨rfl, k7, rfl⟩
    have HO47 : Hid ((w6.drewN k7).ownsRow w1.heap.size 9 1 (.slice (some ⟨b1, 0, none⟩) (wordsL a0.data.toList).length (wordsL a0.data.toList).length) (wordsL a0.data.toList).length (marks 1 (wordsL a0.data.toList).length)) := HO46.out
    go_wp2_with fail
    refine (heldStringS_own b1 (wordsL a0.data.toList).length (wordsL a0.data.toList).length 1 _ (by omega) (by omega) (by omega) (by omega) (own_marks HO47.out)).mono ?_
    rintro e w8 ⟨rfl, hb8⟩
    have HB8 : Hid (Below (w6.drewN k7).heap.size (w6.drewN k7) w8) := hb8
    clear hb8
    go_wp2
    go_ret
    have hz5 : w1.heap.size ≤ w5.heap.size := HB05.out.size
    have hz6 : w5.heap.size ≤ w6.heap.size := HB6.out.size
    have b16 : Below w1.heap.size w1 w6 := HB05.out.trans (HB6.out.mono hz5)
    exact ⟨rfl, HB1.out.trans (((below_drewN b16 k7).trans (HB8.out.mono (Nat.le_trans hz5 hz6))).mono hz1)⟩
  · go_enter Tryd.func3, Tryd.ntmps3
    go_wp2
    go_ret
    exact ⟨rfl, Below.refl _ _⟩
end Go.Proofs.YtijmppcfbdoocabDoor
