/-
  What the program's scanner answers at the place of a word.
-/
import Derived.Test.YtkomkhiinfdfmaaGreatDoorSignTok
namespace Go.Proofs.YtkomkhiinfdfmaaGreatDoor
open Go.ChangeShapes Go.WideShapes Go.ChangeAt Go.RowKit Go.Maps Go.WideMaps Go.WideElems
set_option linter.unusedVariables false
set_option maxRecDepth 100000

theorem VocState.dN {w : World} {C : Nat} {s : ByteArray} {i : Nat} {line : Int} (h : VocState w C s i line) (n : Nat) : VocState (w.drewN n) C s i line := by
  obtain ⟨d', V', hs', hk'⟩ := h.sc
  exact hk' _ _ _ hs' (grown_drewN _ _ _)

set_option maxHeartbeats 4000000 in
theorem next_any (C : Nat) (s : ByteArray) (i : Nat) (line : Int) (w : World) (hs : s.size ≤ 4000) (hi : i < s.size) (h : VocState w C s i line) (hT : TabsAt w) (hL : LensAt w) (hC0 : C ≠ 0) (hC1 : C ≠ 1) (hC2 : C ≠ 3) :
    Calls Tryz.prog 48 #[.pointer (some ⟨C, 0, none⟩)] w fun e w' => ∃ tv ok k, e = .returned (.tuple #[tv, .bool ok]) ∧ TokRes s.data.toList i line tv ok k ∧ VocState w' C s k line ∧ i ≤ k ∧ k ≤ s.size ∧ w.grownBy w' (some C) := by
  have HV0 : Hid (VocState (w.alloc (.cells #[.int .i64 0, .string ⟨#[]⟩, .int .i64 0, .int .i64 0] 49)) C s i line) := h.alloc _
  have hC : C < w.heap.size := by obtain ⟨_, _, h'⟩ := h.sc'; exact h'.lt
  have hCb : C ≠ w.heap.size := by omega
  have HLL : Hid (s.data.toList.length = s.size) := by show s.data.toList.length = s.size; simp
  have T0 : Hid (TabsAt (w.alloc (.cells #[.int .i64 0, .string ⟨#[]⟩, .int .i64 0, .int .i64 0] 49))) := tabs_grown hT (World.grownBy_alloc _ _ _) hC0 hC2
  have L0 : Hid (LensAt (w.alloc (.cells #[.int .i64 0, .string ⟨#[]⟩, .int .i64 0, .int .i64 0] 49))) := lens_grown hL (World.grownBy_alloc _ _ _) hC1
  have HG0 : Hid (s.data.toList.getD i 0 = s[i]) := getD_byte s i hi
  have hb := byte_lt s i hi
  obtain ⟨d, V, hsc, hkp⟩ := HV0.out.sc
  have HKP : Hid (∀ (w' : World) (k : Nat) (ln : Int), Sc w' C s k ln d V → (w.alloc (.cells #[.int .i64 0, .string ⟨#[]⟩, .int .i64 0, .int .i64 0] 49)).grownBy w' (some C) → VocState w' C s k ln) := hkp
  have HSC : Hid (Sc (w.alloc (.cells #[.int .i64 0, .string ⟨#[]⟩, .int .i64 0, .int .i64 0] 49)) C s i line d V) := hsc
  obtain ⟨c0, c1, _, _, _, _, _⟩ := hsc.cells
  clear h hT hL hsc hkp
  cases hd : inB (s[i].toNat : Int) 48 57 with
  | true =>
    have HDG : Hid (digB (s.data.toList.getD i 0) = true) := by show digB (s.data.toList.getD i 0) = true; rw [HG0.out]; exact hd
    go_enter Tryz.func48, Tryz.ntmps48
    go_wp2
    go_quiet (fail)
    go_wp2_with (go_at_call 62; go_must (refine (isDigit_any _ _ hb.1 hb.2).mono ?_; rintro e w' ⟨rfl, rfl⟩))
    have hcl := number_any C s i line d V ((w.alloc (.cells #[.int .i64 0, .string ⟨#[]⟩, .int .i64 0, .int .i64 0] 49)).drewN nq) hs hi HDG.out HSC.out
    refine hcl.mono ?_
    rintro e w1 ⟨tv, ok, rfl, hres, hsc1, hg1⟩
    have hk1 : i ≤ runEnd digB s.data.toList i := runEnd_ge _ _ _
    have hk2 : runEnd digB s.data.toList i ≤ s.size := by have := runEnd_le digB s.data.toList i (by rw [HLL.out]; omega); rw [HLL.out] at this; exact this
    have hv1 : VocState w1 C s (runEnd digB s.data.toList i) line := HKP.out _ _ _ hsc1 (grownBy_transT (grown_drewN _ nq _) hg1)
    generalize runEnd digB s.data.toList i = k at *
    clear hcl hsc1 c0 c1 HKP HSC
    have hne : some w.heap.size ≠ some C := by simp; omega
    have hblk := hg1.block w.heap.size (by simp) hne
    have hc2 : ∀ o, w1.cell? ⟨w.heap.size, o, none⟩ = (w.alloc (.cells #[.int .i64 0, .string ⟨#[]⟩, .int .i64 0, .int .i64 0] 49)).cell? ⟨w.heap.size, o, none⟩ := fun o => World.cell?_of_block (a := ⟨w.heap.size, o, none⟩) hblk
    have hf2 : ∀ o, w1.frozen? ⟨w.heap.size, o, none⟩ = (w.alloc (.cells #[.int .i64 0, .string ⟨#[]⟩, .int .i64 0, .int .i64 0] 49)).frozen? ⟨w.heap.size, o, none⟩ := fun o => World.frozen?_of_block (a := ⟨w.heap.size, o, none⟩) hblk
    have hz2 : w.heap.size < w1.heap.size := by have := hg1.size; simp at this; omega
    have HNV : Hid (∀ bm, VocAt w1 bm → bm ≠ w.heap.size) := fun bm hm => voc_not_cells hm (hblk.trans (heap_alloc_new w _))
    have HGA : Hid (w.grownBy w1 (some C)) := grownBy_transT (World.grownBy_alloc _ _ _) (grownBy_transT (grown_drewN _ nq _) hg1)
    have HV1 : Hid (VocState w1 C s k line) := hv1
    clear hblk hne hg1 hv1
    rcases hres with ⟨rfl, t, ht, rfl⟩ | ⟨rfl, ht, rfl⟩
    · have HT : Hid (tokAt s.data.toList i line = some (t, k)) := ht
      clear ht
      simp only [Tok.agg]
      go_wp2
      exact bodyPost_ret (v := .tuple #[.agg #[.int .i64 t.kind, .string ⟨t.text.toArray⟩, .int .i64 t.n, .int .i64 t.line], .bool true]) (by simp [results, Tryz.results48, go_sem, hc2]) rfl ⟨_, _, k, rfl, .inl ⟨rfl, t, HT.out, rfl⟩, HV1.out.store4 hCb HNV.out _ _ _ _, hk1, hk2, grown_store4 HGA.out (Nat.le_refl _) _ _ _ _⟩
    · have HT : Hid (tokAt s.data.toList i line = none) := ht
      clear ht
      go_wp2
      exact bodyPost_ret (v := .tuple #[.agg #[.int .i64 0, .string ⟨#[]⟩, .int .i64 0, .int .i64 0], .bool false]) (by simp [results, Tryz.results48, go_sem, hc2]) rfl ⟨_, _, k, rfl, .inr ⟨rfl, HT.out, rfl⟩, HV1.out.store4 hCb HNV.out _ _ _ _, hk1, hk2, grown_store4 HGA.out (Nat.le_refl _) _ _ _ _⟩
  | false =>
    cases hn : signB (s[i].toNat : Int) with
    | true =>
      have HDG : Hid (digB (s.data.toList.getD i 0) = false) := by show digB (s.data.toList.getD i 0) = false; rw [HG0.out]; exact hd
      have HSG : Hid (isSignC (s.data.toList.getD i 0) = true) := by show isSignC (s.data.toList.getD i 0) = true; rw [HG0.out]; exact hn
      go_enter Tryz.func48, Tryz.ntmps48
      go_wp2
      go_quiet (fail)
      go_wp2_with (first | (go_at_call 62; go_must (refine (isDigit_any _ _ hb.1 hb.2).mono ?_; rintro e w' ⟨rfl, rfl⟩)) | (go_at_call 89; go_must (refine (isNamePart_any _ _ hb.1 hb.2).mono ?_; rintro e w' ⟨rfl, rfl⟩)))
      refine (name_any C s i line ((w.alloc (.cells #[.int .i64 0, .string ⟨#[]⟩, .int .i64 0, .int .i64 0] 49)).drewN nq) hs hi HDG.out HSG.out (HV0.out.dN nq) T0.out hC0 hC2).mono ?_
      rintro e w1 ⟨tv, ok, rfl, hres, hv1, hg1⟩
      have hk1 : i ≤ runEnd isSignC s.data.toList i := runEnd_ge _ _ _
      have hk2 : runEnd isSignC s.data.toList i ≤ s.size := by have := runEnd_le isSignC s.data.toList i (by rw [HLL.out]; omega); rw [HLL.out] at this; exact this
      generalize runEnd isSignC s.data.toList i = k at *
      clear c0 c1 HKP HSC
      have hne : some w.heap.size ≠ some C := by simp; omega
      have hblk := hg1.block w.heap.size (by simp) hne
      have hc2 : ∀ o, w1.cell? ⟨w.heap.size, o, none⟩ = (w.alloc (.cells #[.int .i64 0, .string ⟨#[]⟩, .int .i64 0, .int .i64 0] 49)).cell? ⟨w.heap.size, o, none⟩ := fun o => World.cell?_of_block (a := ⟨w.heap.size, o, none⟩) hblk
      have hf2 : ∀ o, w1.frozen? ⟨w.heap.size, o, none⟩ = (w.alloc (.cells #[.int .i64 0, .string ⟨#[]⟩, .int .i64 0, .int .i64 0] 49)).frozen? ⟨w.heap.size, o, none⟩ := fun o => World.frozen?_of_block (a := ⟨w.heap.size, o, none⟩) hblk
      have hz2 : w.heap.size < w1.heap.size := by have := hg1.size; simp at this; omega
      have HNV : Hid (∀ bm, VocAt w1 bm → bm ≠ w.heap.size) := fun bm hm => voc_not_cells hm (hblk.trans (heap_alloc_new w _))
      have HGA : Hid (w.grownBy w1 (some C)) := grownBy_transT (World.grownBy_alloc _ _ _) (grownBy_transT (grown_drewN _ nq _) hg1)
      have HV1 : Hid (VocState w1 C s k line) := hv1
      clear hblk hne hg1 hv1
      rcases hres with ⟨rfl, t, ht, rfl⟩ | ⟨rfl, ht, rfl⟩
      · have HT : Hid (tokAt s.data.toList i line = some (t, k)) := ht
        clear ht
        simp only [Tok.agg]
        go_wp2
        exact bodyPost_ret (v := .tuple #[.agg #[.int .i64 t.kind, .string ⟨t.text.toArray⟩, .int .i64 t.n, .int .i64 t.line], .bool true]) (by simp [results, Tryz.results48, go_sem, hc2]) rfl ⟨_, _, k, rfl, .inl ⟨rfl, t, HT.out, rfl⟩, HV1.out.store4 hCb HNV.out _ _ _ _, hk1, hk2, grown_store4 HGA.out (Nat.le_refl _) _ _ _ _⟩
      · have HT : Hid (tokAt s.data.toList i line = none) := ht
        clear ht
        go_wp2
        exact bodyPost_ret (v := .tuple #[.agg #[.int .i64 0, .string ⟨#[]⟩, .int .i64 0, .int .i64 0], .bool false]) (by simp [results, Tryz.results48, go_sem, hc2]) rfl ⟨_, _, k, rfl, .inr ⟨rfl, HT.out, rfl⟩, HV1.out.store4 hCb HNV.out _ _ _ _, hk1, hk2, grown_store4 HGA.out (Nat.le_refl _) _ _ _ _⟩
    | false =>
      have HDG : Hid (digB (s.data.toList.getD i 0) = false) := by show digB (s.data.toList.getD i 0) = false; rw [HG0.out]; exact hd
      have HSG : Hid (isSignC (s.data.toList.getD i 0) = false) := by show isSignC (s.data.toList.getD i 0) = false; rw [HG0.out]; exact hn
      go_enter Tryz.func48, Tryz.ntmps48
      go_wp2
      go_quiet (fail)
      go_wp2_with (first | (go_at_call 62; go_must (refine (isDigit_any _ _ hb.1 hb.2).mono ?_; rintro e w' ⟨rfl, rfl⟩)) | (go_at_call 89; go_must (refine (isNamePart_any _ _ hb.1 hb.2).mono ?_; rintro e w' ⟨rfl, rfl⟩)))
      refine (sign_any C s i line ((w.alloc (.cells #[.int .i64 0, .string ⟨#[]⟩, .int .i64 0, .int .i64 0] 49)).drewN nq) hs hi HDG.out HSG.out (HV0.out.dN nq) T0.out L0.out hC0 hC2).mono ?_
      rintro e w1 ⟨tv, ok, k, rfl, hres, hv1, hk1, hk2, hg1⟩
      clear c0 c1 HKP HSC
      have hne : some w.heap.size ≠ some C := by simp; omega
      have hblk := hg1.block w.heap.size (by simp) hne
      have hc2 : ∀ o, w1.cell? ⟨w.heap.size, o, none⟩ = (w.alloc (.cells #[.int .i64 0, .string ⟨#[]⟩, .int .i64 0, .int .i64 0] 49)).cell? ⟨w.heap.size, o, none⟩ := fun o => World.cell?_of_block (a := ⟨w.heap.size, o, none⟩) hblk
      have hf2 : ∀ o, w1.frozen? ⟨w.heap.size, o, none⟩ = (w.alloc (.cells #[.int .i64 0, .string ⟨#[]⟩, .int .i64 0, .int .i64 0] 49)).frozen? ⟨w.heap.size, o, none⟩ := fun o => World.frozen?_of_block (a := ⟨w.heap.size, o, none⟩) hblk
      have hz2 : w.heap.size < w1.heap.size := by have := hg1.size; simp at this; omega
      have HNV : Hid (∀ bm, VocAt w1 bm → bm ≠ w.heap.size) := fun bm hm => voc_not_cells hm (hblk.trans (heap_alloc_new w _))
      have HGA : Hid (w.grownBy w1 (some C)) := grownBy_transT (World.grownBy_alloc _ _ _) (grownBy_transT (grown_drewN _ nq _) hg1)
      have HV1 : Hid (VocState w1 C s k line) := hv1
      clear hblk hne hg1 hv1
      rcases hres with ⟨rfl, t, ht, rfl⟩ | ⟨rfl, ht, rfl⟩
      · have HT : Hid (tokAt s.data.toList i line = some (t, k)) := ht
        clear ht
        simp only [Tok.agg]
        go_wp2
        exact bodyPost_ret (v := .tuple #[.agg #[.int .i64 t.kind, .string ⟨t.text.toArray⟩, .int .i64 t.n, .int .i64 t.line], .bool true]) (by simp [results, Tryz.results48, go_sem, hc2]) rfl ⟨_, _, k, rfl, .inl ⟨rfl, t, HT.out, rfl⟩, HV1.out.store4 hCb HNV.out _ _ _ _, hk1, hk2, grown_store4 HGA.out (Nat.le_refl _) _ _ _ _⟩
      · have HT : Hid (tokAt s.data.toList i line = none) := ht
        clear ht
        go_wp2
        exact bodyPost_ret (v := .tuple #[.agg #[.int .i64 0, .string ⟨#[]⟩, .int .i64 0, .int .i64 0], .bool false]) (by simp [results, Tryz.results48, go_sem, hc2]) rfl ⟨_, _, k, rfl, .inr ⟨rfl, HT.out, rfl⟩, HV1.out.store4 hCb HNV.out _ _ _ _, hk1, hk2, grown_store4 HGA.out (Nat.le_refl _) _ _ _ _⟩
end Go.Proofs.YtkomkhiinfdfmaaGreatDoor
