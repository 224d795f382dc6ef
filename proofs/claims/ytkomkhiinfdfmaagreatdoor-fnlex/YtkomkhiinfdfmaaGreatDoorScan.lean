/-
  The program's scanner in memory; what its take does, of each of three kinds of bytes.
-/
import Derived.Test.YtkomkhiinfdfmaaGreatDoorTokKit
namespace Go.Proofs.YtkomkhiinfdfmaaGreatDoor
open Go.ChangeShapes Go.WideShapes Go.ChangeAt Go.RowKit
set_option linter.unusedVariables false

/-- The scanner's block: the text, the place, the line, the vocabulary's once and its map. -/
def Sc (w : World) (C : Nat) (s : ByteArray) (i : Nat) (line : Int) (d : Int) (V : Option Nat) : Prop :=
  w.heap[C]? = some (.cells #[.string s, .int .i64 i, .int .i64 line, .int .u32 d, .int .i32 0, .int .u32 0, .map V] 91 (0, 0))

theorem Sc.cells {w : World} {C : Nat} {s : ByteArray} {i : Nat} {line d : Int} {V : Option Nat} (h : Sc w C s i line d V) :
    w.cell? ⟨C, 0, none⟩ = some (.string s) ∧ w.cell? ⟨C, 1, none⟩ = some (.int .i64 i) ∧ w.cell? ⟨C, 2, none⟩ = some (.int .i64 line) ∧ w.cell? ⟨C, 3, none⟩ = some (.int .u32 d) ∧
    w.cell? ⟨C, 4, none⟩ = some (.int .i32 0) ∧ w.cell? ⟨C, 5, none⟩ = some (.int .u32 0) ∧ w.cell? ⟨C, 6, none⟩ = some (.map V) := by
  unfold Sc at h
  refine ⟨?_, ?_, ?_, ?_, ?_, ?_, ?_⟩ <;> (rw [cell_of_row w C _ _ _ (0, 0) h]; rfl)
theorem Sc.frozen {w : World} {C : Nat} {s : ByteArray} {i : Nat} {line d : Int} {V : Option Nat} (h : Sc w C s i line d V) (j : Nat) : w.frozen? ⟨C, j, none⟩ = false :=
  frozen_of_row w C j _ _ h
theorem Sc.lt {w : World} {C : Nat} {s : ByteArray} {i : Nat} {line d : Int} {V : Option Nat} (h : Sc w C s i line d V) : C < w.heap.size := (Array.getElem?_eq_some_iff.1 h).1
theorem Sc.at_ {w : World} {C : Nat} {s : ByteArray} {i : Nat} {line d : Int} {V : Option Nat} (h : Sc w C s i line d V) (k : Nat) : Sc (w.setCell ⟨C, 1, none⟩ (.int .i64 k)) C s k line d V :=
  (heap_setCell_same w C 1 _ _ _ h).trans rfl
theorem Sc.atI {w : World} {C : Nat} {s : ByteArray} {i : Nat} {line d : Int} {V : Option Nat} (h : Sc w C s i line d V) (m : Int) (k : Nat) (hm : m = k) : Sc (w.setCell ⟨C, 1, none⟩ (.int .i64 m)) C s k line d V := by
  subst hm; exact h.at_ k
/-- The scanner's place, off its cell. -/
def posOf (w : World) (C : Nat) : Nat := match w.cell? ⟨C, 1, none⟩ with | some v => (intOf v).toNat | none => 0
theorem Sc.pos {w : World} {C : Nat} {s : ByteArray} {i : Nat} {line d : Int} {V : Option Nat} (h : Sc w C s i line d V) : posOf w C = i := by
  unfold posOf; rw [h.cells.2.1]; simp [intOf]
theorem Sc.line_ {w : World} {C : Nat} {s : ByteArray} {i : Nat} {line d : Int} {V : Option Nat} (h : Sc w C s i line d V) (k : Int) : Sc (w.setCell ⟨C, 2, none⟩ (.int .i64 k)) C s i k d V :=
  (heap_setCell_same w C 2 _ _ _ h).trans rfl
theorem Sc.of_heap {w w' : World} {C : Nat} {s : ByteArray} {i : Nat} {line d : Int} {V : Option Nat} (h : Sc w C s i line d V) (e : w'.heap[C]? = w.heap[C]?) : Sc w' C s i line d V := e.trans h
theorem Sc.below {w w' : World} {C : Nat} {s : ByteArray} {i : Nat} {line d : Int} {V : Option Nat} (h : Sc w C s i line d V) (hb : Below w.heap.size w w') : Sc w' C s i line d V := h.of_heap (hb.block C h.lt)
theorem grown_set (w : World) (C j : Nat) (v : Value) : w.grownBy (w.setCell ⟨C, j, none⟩ v) (some C) :=
  ⟨rfl, rfl, rfl, by simp, fun k _ hk => heap_setCell_other w ⟨C, j, none⟩ k v (fun e => hk (by simp [e]))⟩
theorem grown_drewN (w : World) (n : Nat) (r : Option Nat) : w.grownBy (w.drewN n) r := ⟨rfl, rfl, rfl, Nat.le_refl _, fun _ _ _ => rfl⟩

theorem Sc.other {w : World} {C : Nat} {s : ByteArray} {i : Nat} {line d : Int} {V : Option Nat} (h : Sc w C s i line d V) {b : Nat} (hb : C ≠ b) (o : Nat) (v : Value) : Sc (w.setCell ⟨b, o, none⟩ v) C s i line d V :=
  h.of_heap (heap_setCell_other w ⟨b, o, none⟩ C v hb)
theorem Sc.drew {w : World} {C : Nat} {s : ByteArray} {i : Nat} {line d : Int} {V : Option Nat} (h : Sc w C s i line d V) : Sc w.drew C s i line d V := h
theorem Sc.drewN {w : World} {C : Nat} {s : ByteArray} {i : Nat} {line d : Int} {V : Option Nat} (h : Sc w C s i line d V) (n : Nat) : Sc (w.drewN n) C s i line d V := h
theorem grown_new {w w1 : World} {r : Option Nat} (h : w.grownBy w1 r) {b : Nat} (hb : w.heap.size ≤ b) (o : Nat) (v : Value) : w.grownBy (w1.setCell ⟨b, o, none⟩ v) r :=
  ⟨h.os, h.tape, h.output, by simpa using h.size, fun k hk hr => (heap_setCell_other w1 ⟨b, o, none⟩ k v (fun e => by simp at e; omega)).trans (h.block k hk hr)⟩
theorem grown_drew {w w1 : World} {r : Option Nat} (h : w.grownBy w1 r) : w.grownBy w1.drew r := ⟨h.os, h.tape, h.output, h.size, h.block⟩
theorem grown_dN {w w1 : World} {r : Option Nat} (h : w.grownBy w1 r) (n : Nat) : w.grownBy (w1.drewN n) r := ⟨h.os, h.tape, h.output, h.size, h.block⟩

theorem Sc.store4 {w : World} {C : Nat} {s : ByteArray} {i : Nat} {line d : Int} {V : Option Nat} (h : Sc w C s i line d V) {b : Nat} (hb : C ≠ b) (x0 x1 x2 x3 : Value) : Sc ((((w.setCell ⟨b, 0, none⟩ x0).setCell ⟨b, 1, none⟩ x1).setCell ⟨b, 2, none⟩ x2).setCell ⟨b, 3, none⟩ x3) C s i line d V :=
  (((h.other hb 0 x0).other hb 1 x1).other hb 2 x2).other hb 3 x3
theorem grown_store4 {w w1 : World} {r : Option Nat} (h : w.grownBy w1 r) {b : Nat} (hb : w.heap.size ≤ b) (x0 x1 x2 x3 : Value) : w.grownBy ((((w1.setCell ⟨b, 0, none⟩ x0).setCell ⟨b, 1, none⟩ x1).setCell ⟨b, 2, none⟩ x2).setCell ⟨b, 3, none⟩ x3) r :=
  grown_new (grown_new (grown_new (grown_new h hb 0 x0) hb 1 x1) hb 2 x2) hb 3 x3

theorem isRemark_any (n : Int) (w : World) (h0 : 0 ≤ n) (h1 : n < 256) :
    Calls Tryz.prog 87 #[.int .u8 n] w fun e w' => e = .returned (.bool (n != 10)) ∧ w' = w := by
  go_enter Tryz.func87, Tryz.ntmps87
  go_wp2
  go_ret
  exact ⟨rfl, rfl⟩

set_option maxHeartbeats 4000000 in
/-- 'take' of isDigit. -/
theorem take_digit (C : Nat) (s : ByteArray) (i : Nat) (line d : Int) (V : Option Nat) (w : World) (hs : s.size ≤ 4000) (hi : i ≤ s.size) (h : Sc w C s i line d V) :
    Calls Tryz.prog 86 #[.pointer (some ⟨C, 0, none⟩), .func (.func 62) #[] #[]] w fun e w' => e = .returned (.string (s.extract i (runEnd digB s.data.toList i))) ∧ Sc w' C s (runEnd digB s.data.toList i) line d V ∧ w.grownBy w' (some C) := by
  obtain ⟨c0, c1, c2, c3, c4, c5, c6⟩ := h.cells
  have H : Hid (Sc w C s i line d V) := h
  have HLL : Hid (s.data.toList.length = s.size) := by show s.data.toList.length = s.size; simp
  clear h c2 c3 c4 c5 c6
  go_enter Tryz.func86, Tryz.ntmps86
  go_wp2
  clear c0 c1
  go_loopw [] (fun wr => ∃ k : Nat, i ≤ k ∧ k ≤ s.size ∧ runEnd digB s.data.toList i = runEnd digB s.data.toList k ∧ Sc wr C s k line d V ∧ w.grownBy wr (some C)) (fun wr => s.size - posOf wr C)
  case atStart => exact ⟨i, Nat.le_refl _, hi, rfl, H.out, World.grownBy.refl _ _⟩
  case round =>
    obtain ⟨k, hik, hk, hrun, hsc, hgr⟩ := hrel
    obtain ⟨c0, c1, c2, c3, c4, c5, c6⟩ := hsc.cells
    have f1 := hsc.frozen 1
    have HS : Hid (Sc wr C s k line d V) := hsc
    have HG : Hid (w.grownBy wr (some C)) := hgr
    have HR : Hid (runEnd digB s.data.toList i = runEnd digB s.data.toList k) := hrun
    clear hsc hgr hrun c2 c3 c4 c5 c6
    by_cases hlt : k < s.size
    · have hbk := byte_lt s k hlt
      have HGB : Hid (s.data.toList.getD k 0 = s[k]) := getD_byte s k hlt
      have hc : inB (s[k].toNat : Int) 48 57 = true ∨ inB (s[k].toNat : Int) 48 57 = false := by cases inB (s[k].toNat : Int) 48 57 <;> simp
      rcases hc with hc | hc
      · have HST : Hid (runEnd digB s.data.toList k = runEnd digB s.data.toList (k + 1)) := runEnd_step _ _ _ (by rw [HLL.out]; exact hlt) (by rw [HGB.out]; exact hc)
        go_wp2
        go_quiet ((go_at_call 62; exact Calls.quiet_of_same (isDigit_any _ _ hbk.1 hbk.2)))
        go_wp2
        have hsc2 : Sc ((wr.drewN nq).setCell ⟨C, 1, none⟩ (.int .i64 ((k : Int) + 1))) C s (k + 1) line d V := Sc.atI (w := wr.drewN nq) HS.out _ (k + 1) (by omega)
        refine ⟨⟨k + 1, by omega, by omega, HR.out.trans HST.out, hsc2, grownBy_transT HG.out (grownBy_transT (grown_drewN wr nq _) (grown_set _ _ _ _))⟩, ?_⟩
        rw [hsc2.pos, HS.out.pos]; omega
      · have hst : runEnd digB s.data.toList k = k := runEnd_stop _ _ _ (.inr (by rw [HGB.out]; exact hc))
        have HKE : Hid (runEnd digB s.data.toList i = k) := HR.out.trans hst
        clear hst HR
        go_wp2
        go_quiet ((go_at_call 62; exact Calls.quiet_of_same (isDigit_any _ _ hbk.1 hbk.2)))
        go_wp2
        go_quiet (fail)
        go_wp2
        go_ret
        exact ⟨by rw [HKE.out]; rfl, by rw [HKE.out]; exact HS.out, grownBy_transT HG.out (grownBy_transT (grown_drewN wr _ _) (grown_drewN _ _ _))⟩
    · have hst : runEnd digB s.data.toList k = k := runEnd_stop _ _ _ (.inl (by rw [HLL.out]; omega))
      have HKE : Hid (runEnd digB s.data.toList i = k) := HR.out.trans hst
      clear hst HR
      have hdec : decide ((k : Int) < (s.size : Int)) = false := by rw [decide_eq_false_iff_not]; omega
      go_wp2
      go_quiet (fail)
      go_wp2
      go_quiet (fail)
      go_wp2
      go_ret
      exact ⟨by rw [HKE.out]; rfl, by rw [HKE.out]; exact HS.out, grownBy_transT HG.out (grownBy_transT (grown_drewN wr _ _) (grown_drewN _ _ _))⟩

set_option maxHeartbeats 4000000 in
/-- 'take' of isNamePart. -/
theorem take_name (C : Nat) (s : ByteArray) (i : Nat) (line d : Int) (V : Option Nat) (w : World) (hs : s.size ≤ 4000) (hi : i ≤ s.size) (h : Sc w C s i line d V) :
    Calls Tryz.prog 86 #[.pointer (some ⟨C, 0, none⟩), .func (.func 89) #[] #[]] w fun e w' => e = .returned (.string (s.extract i (runEnd isSignC s.data.toList i))) ∧ Sc w' C s (runEnd isSignC s.data.toList i) line d V ∧ w.grownBy w' (some C) := by
  obtain ⟨c0, c1, c2, c3, c4, c5, c6⟩ := h.cells
  have H : Hid (Sc w C s i line d V) := h
  have HLL : Hid (s.data.toList.length = s.size) := by show s.data.toList.length = s.size; simp
  clear h c2 c3 c4 c5 c6
  go_enter Tryz.func86, Tryz.ntmps86
  go_wp2
  clear c0 c1
  go_loopw [] (fun wr => ∃ k : Nat, i ≤ k ∧ k ≤ s.size ∧ runEnd isSignC s.data.toList i = runEnd isSignC s.data.toList k ∧ Sc wr C s k line d V ∧ w.grownBy wr (some C)) (fun wr => s.size - posOf wr C)
  case atStart => exact ⟨i, Nat.le_refl _, hi, rfl, H.out, World.grownBy.refl _ _⟩
  case round =>
    obtain ⟨k, hik, hk, hrun, hsc, hgr⟩ := hrel
    obtain ⟨c0, c1, c2, c3, c4, c5, c6⟩ := hsc.cells
    have f1 := hsc.frozen 1
    have HS : Hid (Sc wr C s k line d V) := hsc
    have HG : Hid (w.grownBy wr (some C)) := hgr
    have HR : Hid (runEnd isSignC s.data.toList i = runEnd isSignC s.data.toList k) := hrun
    clear hsc hgr hrun c2 c3 c4 c5 c6
    by_cases hlt : k < s.size
    · have hbk := byte_lt s k hlt
      have HGB : Hid (s.data.toList.getD k 0 = s[k]) := getD_byte s k hlt
      have hc : signB (s[k].toNat : Int) = true ∨ signB (s[k].toNat : Int) = false := by cases signB (s[k].toNat : Int) <;> simp
      rcases hc with hc | hc
      · have HST : Hid (runEnd isSignC s.data.toList k = runEnd isSignC s.data.toList (k + 1)) := runEnd_step _ _ _ (by rw [HLL.out]; exact hlt) (by rw [HGB.out]; exact hc)
        go_wp2
        go_quiet ((go_at_call 89; exact Calls.quiet_of_same (isNamePart_any _ _ hbk.1 hbk.2)))
        go_wp2
        have hsc2 : Sc ((wr.drewN nq).setCell ⟨C, 1, none⟩ (.int .i64 ((k : Int) + 1))) C s (k + 1) line d V := Sc.atI (w := wr.drewN nq) HS.out _ (k + 1) (by omega)
        refine ⟨⟨k + 1, by omega, by omega, HR.out.trans HST.out, hsc2, grownBy_transT HG.out (grownBy_transT (grown_drewN wr nq _) (grown_set _ _ _ _))⟩, ?_⟩
        rw [hsc2.pos, HS.out.pos]; omega
      · have hst : runEnd isSignC s.data.toList k = k := runEnd_stop _ _ _ (.inr (by rw [HGB.out]; exact hc))
        have HKE : Hid (runEnd isSignC s.data.toList i = k) := HR.out.trans hst
        clear hst HR
        go_wp2
        go_quiet ((go_at_call 89; exact Calls.quiet_of_same (isNamePart_any _ _ hbk.1 hbk.2)))
        go_wp2
        go_quiet (fail)
        go_wp2
        go_ret
        exact ⟨by rw [HKE.out]; rfl, by rw [HKE.out]; exact HS.out, grownBy_transT HG.out (grownBy_transT (grown_drewN wr _ _) (grown_drewN _ _ _))⟩
    · have hst : runEnd isSignC s.data.toList k = k := runEnd_stop _ _ _ (.inl (by rw [HLL.out]; omega))
      have HKE : Hid (runEnd isSignC s.data.toList i = k) := HR.out.trans hst
      clear hst HR
      have hdec : decide ((k : Int) < (s.size : Int)) = false := by rw [decide_eq_false_iff_not]; omega
      go_wp2
      go_quiet (fail)
      go_wp2
      go_quiet (fail)
      go_wp2
      go_ret
      exact ⟨by rw [HKE.out]; rfl, by rw [HKE.out]; exact HS.out, grownBy_transT HG.out (grownBy_transT (grown_drewN wr _ _) (grown_drewN _ _ _))⟩

set_option maxHeartbeats 4000000 in
/-- 'take' of isRemark. -/
theorem take_remark (C : Nat) (s : ByteArray) (i : Nat) (line d : Int) (V : Option Nat) (w : World) (hs : s.size ≤ 4000) (hi : i ≤ s.size) (h : Sc w C s i line d V) :
    Calls Tryz.prog 86 #[.pointer (some ⟨C, 0, none⟩), .func (.func 87) #[] #[]] w fun e w' => e = .returned (.string (s.extract i (runEnd notNl s.data.toList i))) ∧ Sc w' C s (runEnd notNl s.data.toList i) line d V ∧ w.grownBy w' (some C) := by
  obtain ⟨c0, c1, c2, c3, c4, c5, c6⟩ := h.cells
  have H : Hid (Sc w C s i line d V) := h
  have HLL : Hid (s.data.toList.length = s.size) := by show s.data.toList.length = s.size; simp
  clear h c2 c3 c4 c5 c6
  go_enter Tryz.func86, Tryz.ntmps86
  go_wp2
  clear c0 c1
  go_loopw [] (fun wr => ∃ k : Nat, i ≤ k ∧ k ≤ s.size ∧ runEnd notNl s.data.toList i = runEnd notNl s.data.toList k ∧ Sc wr C s k line d V ∧ w.grownBy wr (some C)) (fun wr => s.size - posOf wr C)
  case atStart => exact ⟨i, Nat.le_refl _, hi, rfl, H.out, World.grownBy.refl _ _⟩
  case round =>
    obtain ⟨k, hik, hk, hrun, hsc, hgr⟩ := hrel
    obtain ⟨c0, c1, c2, c3, c4, c5, c6⟩ := hsc.cells
    have f1 := hsc.frozen 1
    have HS : Hid (Sc wr C s k line d V) := hsc
    have HG : Hid (w.grownBy wr (some C)) := hgr
    have HR : Hid (runEnd notNl s.data.toList i = runEnd notNl s.data.toList k) := hrun
    clear hsc hgr hrun c2 c3 c4 c5 c6
    by_cases hlt : k < s.size
    · have hbk := byte_lt s k hlt
      have HGB : Hid (s.data.toList.getD k 0 = s[k]) := getD_byte s k hlt
      have hc : ((s[k].toNat : Int) != 10) = true ∨ ((s[k].toNat : Int) != 10) = false := by cases ((s[k].toNat : Int) != 10) <;> simp
      rcases hc with hc | hc
      · have HST : Hid (runEnd notNl s.data.toList k = runEnd notNl s.data.toList (k + 1)) := runEnd_step _ _ _ (by rw [HLL.out]; exact hlt) (by rw [HGB.out]; first | (rw [notNl, bne_iff_ne]; rw [bne_iff_ne] at hc; omega) | (rw [notNl, bne_eq_false_iff_eq]; rw [bne_eq_false_iff_eq] at hc; omega))
        go_wp2
        go_quiet ((go_at_call 87; exact Calls.quiet_of_same (isRemark_any _ _ hbk.1 hbk.2)))
        go_wp2
        have hsc2 : Sc ((wr.drewN nq).setCell ⟨C, 1, none⟩ (.int .i64 ((k : Int) + 1))) C s (k + 1) line d V := Sc.atI (w := wr.drewN nq) HS.out _ (k + 1) (by omega)
        refine ⟨⟨k + 1, by omega, by omega, HR.out.trans HST.out, hsc2, grownBy_transT HG.out (grownBy_transT (grown_drewN wr nq _) (grown_set _ _ _ _))⟩, ?_⟩
        rw [hsc2.pos, HS.out.pos]; omega
      · have hst : runEnd notNl s.data.toList k = k := runEnd_stop _ _ _ (.inr (by rw [HGB.out]; first | (rw [notNl, bne_iff_ne]; rw [bne_iff_ne] at hc; omega) | (rw [notNl, bne_eq_false_iff_eq]; rw [bne_eq_false_iff_eq] at hc; omega)))
        have HKE : Hid (runEnd notNl s.data.toList i = k) := HR.out.trans hst
        clear hst HR
        go_wp2
        go_quiet ((go_at_call 87; exact Calls.quiet_of_same (isRemark_any _ _ hbk.1 hbk.2)))
        go_wp2
        go_quiet (fail)
        go_wp2
        go_ret
        exact ⟨by rw [HKE.out]; rfl, by rw [HKE.out]; exact HS.out, grownBy_transT HG.out (grownBy_transT (grown_drewN wr _ _) (grown_drewN _ _ _))⟩
    · have hst : runEnd notNl s.data.toList k = k := runEnd_stop _ _ _ (.inl (by rw [HLL.out]; omega))
      have HKE : Hid (runEnd notNl s.data.toList i = k) := HR.out.trans hst
      clear hst HR
      have hdec : decide ((k : Int) < (s.size : Int)) = false := by rw [decide_eq_false_iff_not]; omega
      go_wp2
      go_quiet (fail)
      go_wp2
      go_quiet (fail)
      go_wp2
      go_ret
      exact ⟨by rw [HKE.out]; rfl, by rw [HKE.out]; exact HS.out, grownBy_transT HG.out (grownBy_transT (grown_drewN wr _ _) (grown_drewN _ _ _))⟩
end Go.Proofs.YtkomkhiinfdfmaaGreatDoor
