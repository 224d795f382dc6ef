/-
  The walk of FnExactLex: it answers true, and nothing that was there has turned. Conditions: the program's own tables hold what their initialisers lay.
-/
import Derived.Test.YtijmppcfbdoocaaDoorImplLex
namespace Go.Proofs.YtijmppcfbdoocaaDoor
open Go.ChangeShapes Go.WideShapes Go.ChangeAt Go.RowKit
set_option linter.unusedVariables false
set_option maxRecDepth 100000

theorem eqTokenS_nil (a1 a2 : Option Addr) (c1 c2 : Nat) (w : World) :
    Calls Tryd.prog 11 #[.slice a1 0 c1, .slice a2 0 c2] w fun e w' => e = .returned (.bool true) ∧ w' = w := by
  go_enter Tryd.func11, Tryd.ntmps11
  go_wp2
  go_loop [5] (fun i => i = .int .i64 0) (fun _ => 0)
  case atStart => rfl
  case round =>
    subst hrel
    go_wp2
    go_ret
    exact ⟨rfl, rfl⟩
theorem markTokenS_nil (a1 : Option Addr) (c1 : Nat) (k : Int) (w : World) :
    Calls Tryd.prog 12 #[.slice a1 0 c1, .int .i64 k] w fun e w' => e = .returned (.int .i64 k) ∧ w' = w := by
  go_enter Tryd.func12, Tryd.ntmps12
  go_wp2
  go_loop [1, 5] (fun kv i => i = .int .i64 0 ∧ kv = .int .i64 k) (fun _ _ => 0)
  case atStart => exact ⟨rfl, rfl⟩
  case round =>
    obtain ⟨rfl, rfl⟩ := hrel
    go_wp2
    go_ret
    exact ⟨rfl, rfl⟩
theorem heldTokenS_nil (a1 : Option Addr) (c1 : Nat) (k : Int) (w : World) :
    Calls Tryd.prog 13 #[.slice a1 0 c1, .int .i64 k] w fun e w' => e = .returned (.int .i64 k) ∧ w' = w := by
  go_enter Tryd.func13, Tryd.ntmps13
  go_wp2
  go_loop [1, 5] (fun kv i => i = .int .i64 0 ∧ kv = .int .i64 k) (fun _ _ => 0)
  case atStart => exact ⟨rfl, rfl⟩
  case round =>
    obtain ⟨rfl, rfl⟩ := hrel
    go_wp2
    go_ret
    exact ⟨rfl, rfl⟩

theorem lexF_acc (l : List UInt8) : ∀ (f i : Nat) (line : Int) (acc : List Tok), i ≤ l.length → acc.length ≤ i → (lexF l f i line acc).1.length ≤ l.length
  | 0, i, line, acc, hi, ha => by simp only [lexF]; omega
  | f + 1, i, line, acc, hi, ha => by
    unfold lexF
    split
    · rename_i hlt
      split
      · rename_i i' line' hg
        have := gapStep_gt hlt hg
        exact lexF_acc l f i' line' acc this.2 (by omega)
      · split
        · rename_i t k ht
          have := tokAt_gt hlt ht
          exact lexF_acc l f k line (acc ++ [t]) this.2.1 (by rw [List.length_append]; simp only [List.length_cons, List.length_nil]; omega)
        · simp
    · simp only; omega
theorem lexM_len (l : List UInt8) : (lexM l).1.length ≤ 4000 := by
  unfold lexM
  split
  · rename_i h
    exact Nat.le_trans (lexF_acc l _ 0 1 [] (Nat.zero_le _) (Nat.le_refl _)) h
  · simp
theorem own_formT {w : World} {B n : Nat} {e : TypeId} {v : Value} {xs : List Value} (h : w.ownsRow B e 4 v n xs) (hn : 0 < n) :
    ∃ g cap, v = .slice (some ⟨g, 0, none⟩) n cap ∧ B ≤ g ∧ g < w.heap.size ∧ n ≤ cap := by
  rcases h.2 with ⟨_, h0⟩ | ⟨g, cap, cur, hv, hb, hg, hc, _⟩
  · omega
  · exact ⟨g, cap, hv, hb, (Array.getElem?_eq_some_iff.1 hg).1, hc⟩
theorem own_nilT {w : World} {B : Nat} {e : TypeId} {v : Value} {xs : List Value} (h : w.ownsRow B e 4 v 0 xs) : ∃ a c, v = .slice a 0 c := by
  rcases h.2 with ⟨hv, _⟩ | ⟨g, cap, cur, hv, _⟩
  · exact ⟨_, _, hv⟩
  · exact ⟨_, _, hv⟩

set_option maxHeartbeats 4000000 in
theorem fnExactLex_walk (a0 : ByteArray) (w0 : a0.size ≤ maxLen) (w : World) (hT : TabsAt w) (hL : LensAt w) :
    Calls Tryd.prog 4 #[.string a0] w fun e w' => e = .returned (.bool true) ∧ Below w.heap.size w w' := by
  have hs := w0
  unfold maxLen at hs
  have T : Hid (TabsAt w) := hT
  have L : Hid (LensAt w) := hL
  clear hT hL
  by_cases hl : a0.size ≤ 1048576
  · have hlen := lexM_len a0.data.toList
    obtain ⟨RL, hRL⟩ : ∃ RL, lexM a0.data.toList = RL := ⟨_, rfl⟩
    have HRL : Hid (lexM a0.data.toList = RL) := hRL
    rw [hRL] at hlen
    clear hRL
    go_enter Tryd.func4, Tryd.ntmps4
    go_wp2_with fail
    have q1 := specLex_any a0 w w0
    rw [HRL.out] at q1
    refine q1.mono ?_
    rintro e w1 ⟨v0, rfl, ho0, hb1⟩
    clear q1
    have HB1 : Hid (Below w.heap.size w w1) := hb1
    have T1 : Hid (TabsAt w1) := tabs_below T.out hb1
    have L1 : Hid (LensAt w1) := lens_below L.out hb1
    have hz1 : w.heap.size ≤ w1.heap.size := hb1.size
    have HO0 : Hid (w1.ownsRow w.heap.size 33 4 v0 RL.1.length (toksC RL.1)) := ho0
    clear hb1 ho0
    go_wp2_with fail
    have q2 := implLex_any a0 w1 w0 T1.out L1.out
    rw [HRL.out] at q2
    refine q2.mono ?_
    rintro e w2 ⟨v1, rfl, ho1, hb2⟩
    clear q2
    have HO1 : Hid (w2.ownsRow w1.heap.size 33 4 v1 RL.1.length (toksC RL.1)) := ho1
    have HB2 : Hid (Below w1.heap.size w1 w2) := hb2
    have hz2 : w1.heap.size ≤ w2.heap.size := hb2.size
    have HO02 : Hid (w2.ownsRow w.heap.size 33 4 v0 RL.1.length (toksC RL.1)) := HO0.out.kept (grownBy_belowT (r := none) hb2) (by cases hv : v0.ownBlock with | none => exact .inl rfl | some b => exact .inr (by simp))
    have T2 : Hid (TabsAt w2) := tabs_below T1.out hb2
    have L2 : Hid (LensAt w2) := lens_below L1.out hb2
    clear ho1 hb2
    obtain ⟨ts, ln⟩ := RL
    simp only at hlen HO0 HO1 HO02 ⊢
    by_cases hn : ts.length = 0
    · obtain rfl : ts = [] := List.length_eq_zero_iff.1 hn
      obtain ⟨a, c, rfl⟩ := own_nilT HO02.out
      obtain ⟨a', c', rfl⟩ := own_nilT HO1.out
      go_wp2_with fail
      refine (eqTokenS_nil a' a c' c _).mono ?_
      rintro e w3 ⟨rfl, rfl⟩
      go_wp2_with fail
      refine (markTokenS_nil a' c' 1 _).mono ?_
      rintro e w3 ⟨rfl, rfl⟩
      go_wp2_with fail
      refine (heldTokenS_nil a' c' 1 _).mono ?_
      rintro e w3 ⟨rfl, rfl⟩
      go_wp2_with fail
      have q3 := implLex_any a0 _ w0 T2.out L2.out
      rw [HRL.out] at q3
      refine q3.mono ?_
      rintro e w4 ⟨v2, rfl, ho2, hb4⟩
      clear q3
      have HB4 : Hid _ := hb4
      clear hb4
      obtain ⟨a2, c2, rfl⟩ := own_nilT ho2
      clear ho2
      go_wp2_with fail
      refine (eqTokenS_nil a2 a c2 c _).mono ?_
      rintro e w5 ⟨rfl, rfl⟩
      go_wp2_with fail
      refine (heldTokenS_nil a' c' 1 _).mono ?_
      rintro e w5 ⟨rfl, rfl⟩
      go_wp2
      go_ret
      exact ⟨rfl, HB1.out.trans ((HB2.out.trans (HB4.out.mono hz2)).mono hz1)⟩
    · have hpos : 0 < ts.length := by omega
      obtain ⟨g0, c0, rfl, hg0, hg0', hc0⟩ := own_formT HO0.out hpos
      obtain ⟨g1, c1, rfl, hg1, hg1', hc1⟩ := own_formT HO1.out hpos
      go_wp2_with fail
      refine (eqTokenS_some g1 g0 c1 c0 w1.heap.size w.heap.size ts.length ts _ (by omega) rfl hc1 hc0 HO1.out HO02.out).mono ?_
      rintro e w3 ⟨rfl, hb3⟩
      have HB3 : Hid (Below w2.heap.size w2 w3) := hb3
      have hz3 : w2.heap.size ≤ w3.heap.size := hb3.size
      have HO13 : Hid (w3.ownsRow w1.heap.size 33 4 (.slice (some ⟨g1, 0, none⟩) ts.length c1) ts.length (toksC ts)) := HO1.out.kept (grownBy_belowT (r := none) hb3) (Or.inr (by simp [Value.ownBlock]))
      have HO03 : Hid (w3.ownsRow w.heap.size 33 4 (.slice (some ⟨g0, 0, none⟩) ts.length c0) ts.length (toksC ts)) := HO02.out.kept (grownBy_belowT (r := none) hb3) (Or.inr (by simp [Value.ownBlock]))
      clear hb3
      go_wp2_with fail
      refine (markTokenS_own w1.heap.size g1 ts.length c1 1 ts _ (by omega) rfl (by omega) (by omega) HO13.out).mono ?_
      rintro e w4 ⟨rfl, ho4, hg4⟩
      have HO4 : Hid (w4.ownsRow w1.heap.size 33 4 (.slice (some ⟨g1, 0, none⟩) ts.length c1) ts.length (toksC (markToks 1 ts.length))) := ho4
      have HG4 : Hid (w3.grownBy w4 (some g1)) := hg4
      have HO04 : Hid (w4.ownsRow w.heap.size 33 4 (.slice (some ⟨g0, 0, none⟩) ts.length c0) ts.length (toksC ts)) := HO03.out.kept hg4 (Or.inr (by simp [Value.ownBlock]; omega))
      clear ho4 hg4
      go_wp2_with fail
      refine (heldTokenS_own w1.heap.size g1 ts.length c1 1 _ (by omega) hc1 (by omega) (by omega) HO4.out).mono ?_
      rintro e w5 ⟨rfl, hb5⟩
      have HB5 : Hid (Below w4.heap.size w4 w5) := hb5
      have B14 : Hid (Below w1.heap.size w1 w4) := (HB2.out.trans (HB3.out.mono hz2)).trans (below_grownByT HG4.out hg1 (Nat.le_trans hz2 hz3))
      have B15 : Hid (Below w1.heap.size w1 w5) := B14.out.trans (hb5.mono B14.out.size)
      have T5 : Hid (TabsAt w5) := tabs_below T1.out B15.out
      have L5 : Hid (LensAt w5) := lens_below L1.out B15.out
      have HO05 : Hid (w5.ownsRow w.heap.size 33 4 (.slice (some ⟨g0, 0, none⟩) ts.length c0) ts.length (toksC ts)) := HO04.out.kept (grownBy_belowT (r := none) hb5) (Or.inr (by simp [Value.ownBlock]))
      have HO45 : Hid (w5.ownsRow w1.heap.size 33 4 (.slice (some ⟨g1, 0, none⟩) ts.length c1) ts.length (toksC (markToks 1 ts.length))) := HO4.out.kept (grownBy_belowT (r := none) hb5) (Or.inr (by simp [Value.ownBlock]))
      clear hb5
      go_wp2_with fail
      have q3 := implLex_any a0 w5 w0 T5.out L5.out
      rw [HRL.out] at q3
      refine q3.mono ?_
      rintro e w6 ⟨v2, rfl, ho2, hb6⟩
      clear q3
      obtain ⟨g2, c2, rfl, hg2, hg2', hc2⟩ := own_formT ho2 hpos
      have HO2 : Hid (w6.ownsRow w5.heap.size 33 4 (.slice (some ⟨g2, 0, none⟩) ts.length c2) ts.length (toksC ts)) := ho2
      have HO06 : Hid (w6.ownsRow w.heap.size 33 4 (.slice (some ⟨g0, 0, none⟩) ts.length c0) ts.length (toksC ts)) := HO05.out.kept (grownBy_belowT (r := none) hb6) (Or.inr (by simp [Value.ownBlock]))
      have HO46 : Hid (w6.ownsRow w1.heap.size 33 4 (.slice (some ⟨g1, 0, none⟩) ts.length c1) ts.length (toksC (markToks 1 ts.length))) := HO45.out.kept (grownBy_belowT (r := none) hb6) (Or.inr (by simp [Value.ownBlock]))
      have B16 : Hid (Below w1.heap.size w1 w6) := B15.out.trans (hb6.mono B15.out.size)
      clear ho2 hb6
      go_wp2_with fail
      refine (eqTokenS_some g2 g0 c2 c0 w5.heap.size w.heap.size ts.length ts _ (by omega) rfl hc2 hc0 HO2.out HO06.out).mono ?_
      rintro e w7 ⟨rfl, hb7⟩
      have HO47 : Hid (w7.ownsRow w1.heap.size 33 4 (.slice (some ⟨g1, 0, none⟩) ts.length c1) ts.length (toksC (markToks 1 ts.length))) := HO46.out.kept (grownBy_belowT (r := none) hb7) (Or.inr (by simp [Value.ownBlock]))
      have B17 : Hid (Below w1.heap.size w1 w7) := B16.out.trans (hb7.mono B16.out.size)
      clear hb7
      go_wp2_with fail
      refine (heldTokenS_own w1.heap.size g1 ts.length c1 1 _ (by omega) hc1 (by omega) (by omega) HO47.out).mono ?_
      rintro e w8 ⟨rfl, hb8⟩
      have B18 : Hid (Below w1.heap.size w1 w8) := B17.out.trans (hb8.mono B17.out.size)
      clear hb8
      go_wp2
      go_ret
      exact ⟨rfl, HB1.out.trans (B18.out.mono hz1)⟩
  · go_enter Tryd.func4, Tryd.ntmps4
    go_wp2
    go_ret
    exact ⟨rfl, Below.refl _ _⟩
end Go.Proofs.YtijmppcfbdoocaaDoor
