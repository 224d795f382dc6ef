/-
  What the program's skipGap does: it goes on behind blanks, newlines and remarks.
-/
import Derived.Test.YtkomkhiinfdfmaaGreatDoorScan
namespace Go.Proofs.YtkomkhiinfdfmaaGreatDoor
open Go.ChangeShapes Go.WideShapes Go.ChangeAt Go.RowKit
set_option linter.unusedVariables false

/-- From one place and line the reading comes to another, the same words gathered. -/
def Reaches (l : List UInt8) (i : Nat) (line : Int) (i' : Nat) (line' : Int) : Prop :=
  ∀ acc f, l.length - i < f → ∃ f', l.length - i' < f' ∧ lexF l f i line acc = lexF l f' i' line' acc
theorem Reaches.refl (l : List UInt8) (i : Nat) (line : Int) : Reaches l i line i line := fun acc f hf => ⟨f, hf, rfl⟩
theorem Reaches.trans {l : List UInt8} {a b c : Nat} {x y z : Int} (h : Reaches l a x b y) (k : Reaches l b y c z) : Reaches l a x c z := by
  intro acc f hf
  obtain ⟨f1, h1, e1⟩ := h acc f hf
  obtain ⟨f2, h2, e2⟩ := k acc f1 h1
  exact ⟨f2, h2, e1.trans e2⟩
theorem Reaches.gap {l : List UInt8} {i : Nat} {line : Int} {i' : Nat} {line' : Int} (hi : i < l.length) (h : gapStep l i line = some (i', line')) : Reaches l i line i' line' := by
  intro acc f hf
  obtain ⟨g, rfl⟩ : ∃ g, f = g + 1 := ⟨f - 1, by omega⟩
  have := gapStep_gt hi h
  exact ⟨g, by omega, lexF_gap hi h⟩

set_option maxRecDepth 100000 in
set_option maxHeartbeats 4000000 in
theorem skipGap_any (C : Nat) (s : ByteArray) (i : Nat) (line d : Int) (V : Option Nat) (w : World) (hs : s.size ≤ 4000) (hi : i ≤ s.size) (hl1 : 1 ≤ line) (hl2 : line ≤ i + 1) (h : Sc w C s i line d V) :
    Calls Tryz.prog 47 #[.pointer (some ⟨C, 0, none⟩)] w fun e w' => e = .returned (.tuple #[]) ∧ ∃ (i' : Nat) (line' : Int), Sc w' C s i' line' d V ∧ w.grownBy w' (some C) ∧ i ≤ i' ∧ i' ≤ s.size ∧ 1 ≤ line' ∧ line' ≤ i' + 1 ∧ Reaches s.data.toList i line i' line' ∧ (i' < s.size → gapStep s.data.toList i' line' = none) := by
  have H : Hid (Sc w C s i line d V) := h
  have HLL : Hid (s.data.toList.length = s.size) := by show s.data.toList.length = s.size; simp
  clear h
  go_enter Tryz.func47, Tryz.ntmps47
  go_wp2
  go_loopw [] (fun wr => ∃ (k : Nat) (ln : Int), i ≤ k ∧ k ≤ s.size ∧ 1 ≤ ln ∧ ln ≤ k + 1 ∧ Reaches s.data.toList i line k ln ∧ Sc wr C s k ln d V ∧ w.grownBy wr (some C)) (fun wr => s.size - posOf wr C)
  case atStart => exact ⟨i, line, Nat.le_refl _, hi, hl1, hl2, Reaches.refl _ _ _, H.out, World.grownBy.refl _ _⟩
  case round =>
    obtain ⟨k, ln, hik, hk, hln1, hln2, hrch, hsc, hgr⟩ := hrel
    obtain ⟨c0, c1, c2, c3, c4, c5, c6⟩ := hsc.cells
    have f1 := hsc.frozen 1
    have f2 := hsc.frozen 2
    have HS : Hid (Sc wr C s k ln d V) := hsc
    have HG : Hid (w.grownBy wr (some C)) := hgr
    have HR : Hid (Reaches s.data.toList i line k ln) := hrch
    clear hsc hgr hrch c3 c4 c5 c6
    by_cases hlt : k < s.size
    · have hltl : k < s.data.toList.length := by rw [HLL.out]; exact hlt
      have hbk := byte_lt s k hlt
      by_cases h32 : (s[k].toNat : Int) = 32
      · have h32b : ((s[k].toNat : Int) == 32) = true := by rw [beq_iff_eq]; exact h32
        have HR' : Hid (Reaches s.data.toList i line (k + 1) ln) := HR.out.trans (.gap hltl (gap_32 hlt h32))
        have HX : Hid ((s[k].toNat : Int) = 32) := h32
        clear h32 HR
        go_wp2
        go_quiet (fail)
        go_wp2
        go_quiet (fail)
        go_wp2
        generalize hW : wr.drewN _ = wd
        have hscd : Sc wd C s k ln d V := by rw [← hW]; exact HS.out
        have hgd : wr.grownBy wd (some C) := by rw [← hW]; exact grown_drewN _ _ _
        have hsc2 : Sc (wd.setCell ⟨C, 1, none⟩ (.int .i64 ((k : Int) + 1))) C s (k + 1) ln d V := hscd.atI _ (k + 1) (by omega)
        refine ⟨⟨k + 1, ln, by omega, by omega, hln1, by omega, HR'.out, hsc2, grownBy_transT HG.out (grownBy_transT hgd (grown_set _ _ _ _))⟩, ?_⟩
        rw [hsc2.pos, HS.out.pos]; omega
      · have h32b : ((s[k].toNat : Int) == 32) = false := by rw [beq_eq_false_iff_ne]; exact h32
        have H32 : Hid (¬ (s[k].toNat : Int) = 32) := h32
        clear h32
        by_cases h10 : (s[k].toNat : Int) = 10
        · have h10b : ((s[k].toNat : Int) == 10) = true := by rw [beq_iff_eq]; exact h10
          have HR' : Hid (Reaches s.data.toList i line (k + 1) (ln + 1)) := HR.out.trans (.gap hltl (gap_10 hlt h10))
          have HX : Hid ((s[k].toNat : Int) = 10) := h10
          clear h10 HR
          go_wp2
          go_quiet (fail)
          go_wp2
          go_quiet (fail)
          go_wp2
          generalize hW : wr.drewN _ = wd
          have hscd : Sc wd C s k ln d V := by rw [← hW]; exact HS.out
          have hgd : wr.grownBy wd (some C) := by rw [← hW]; exact grown_drewN _ _ _
          have hsc2 : Sc ((wd.setCell ⟨C, 1, none⟩ (.int .i64 ((k : Int) + 1))).setCell ⟨C, 2, none⟩ (.int .i64 (ln + 1))) C s (k + 1) (ln + 1) d V := (hscd.atI _ (k + 1) (by omega)).line_ _
          refine ⟨⟨k + 1, ln + 1, by omega, by omega, by omega, by omega, HR'.out, hsc2, grownBy_transT HG.out (grownBy_transT hgd (grownBy_transT (grown_set _ _ _ _) (grown_set _ _ _ _)))⟩, ?_⟩
          rw [hsc2.pos, HS.out.pos]; omega
        · have h10b : ((s[k].toNat : Int) == 10) = false := by rw [beq_eq_false_iff_ne]; exact h10
          by_cases h37 : (s[k].toNat : Int) = 37
          · have h37b : ((s[k].toNat : Int) == 37) = true := by rw [beq_iff_eq]; exact h37
            have hgs := gap_37 (line := ln) hlt h37
            have HR' : Hid (Reaches s.data.toList i line (runEnd notNl s.data.toList k) ln) := HR.out.trans (.gap hltl hgs)
            have HGT : Hid (k < runEnd notNl s.data.toList k) := (gapStep_gt hltl hgs).1
            have HLE : Hid (runEnd notNl s.data.toList k ≤ s.size) := by have := (gapStep_gt hltl hgs).2; rw [HLL.out] at this; exact this
            have HX : Hid ((s[k].toNat : Int) = 37) := h37
            clear h37 HR hgs h10
            go_wp2
            go_quiet (fail)
            go_wp2
            go_quiet (fail)
            go_wp2_with fail
            generalize hW : wr.drewN _ = wd
            have hscd : Sc wd C s k ln d V := by rw [← hW]; exact HS.out
            have hgd : wr.grownBy wd (some C) := by rw [← hW]; exact grown_drewN _ _ _
            clear hW
            refine (take_remark C s k ln d V wd hs (by omega) hscd).mono ?_
            rintro e w1 ⟨rfl, hsc1, hg1⟩
            have HS1 : Hid (Sc w1 C s (runEnd notNl s.data.toList k) ln d V) := hsc1
            have HG1 : Hid (wd.grownBy w1 (some C)) := hg1
            have HGD : Hid (wr.grownBy wd (some C)) := hgd
            clear hsc1 hg1 hgd hscd c0 c1 c2 f1 f2
            go_wp2
            refine ⟨⟨runEnd notNl s.data.toList k, ln, by have := HGT.out; omega, HLE.out, hln1, by have := HGT.out; omega, HR'.out, HS1.out, grownBy_transT HG.out (grownBy_transT HGD.out HG1.out)⟩, ?_⟩
            rw [HS1.out.pos, HS.out.pos]; have := HGT.out; have := HLE.out; omega
          · have h37b : ((s[k].toNat : Int) == 37) = false := by rw [beq_eq_false_iff_ne]; exact h37
            have HNG : Hid (gapStep s.data.toList k ln = none) := gap_no hlt h37 H32.out h10
            clear h37 h10
            go_wp2
            go_quiet (fail)
            go_wp2
            go_quiet (fail)
            go_wp2
            first | go_end0 | (simp only [Exit.inBlock, Exit.then]; refine bodyPost_ret (results_none rfl _ _ _) rfl ?_) | refine bodyPost_ret (results_none rfl _ _ _) rfl ?_
            exact ⟨rfl, k, ln, HS.out, grownBy_transT HG.out (grown_drewN wr _ _), hik, hk, hln1, hln2, HR.out, fun _ => HNG.out⟩
    · go_wp2
      go_quiet (fail)
      go_wp2
      go_end0
      exact ⟨rfl, k, ln, HS.out, grownBy_transT HG.out (grown_drewN wr _ _), hik, hk, hln1, hln2, HR.out, fun h => absurd h hlt⟩
end Go.Proofs.YtkomkhiinfdfmaaGreatDoor
