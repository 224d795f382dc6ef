/-
  What the program's scanner answers where neither a digit nor a name stands.
-/
import Derived.Test.YtkomkhiinfdfmaaGreatDoorNameTok
namespace Go.Proofs.YtkomkhiinfdfmaaGreatDoor
open Go.ChangeShapes Go.WideShapes Go.ChangeAt Go.RowKit Go.Maps Go.WideMaps Go.WideElems
set_option linter.unusedVariables false
set_option maxRecDepth 100000

def LensAt (w : World) : Prop := w.cell? ⟨1, 0, none⟩ = some (.int .i64 2) ∧ w.cell? ⟨1, 1, none⟩ = some (.int .i64 1)
theorem lens_at0 (w : World) : Sem.run Tryz.prog (Instr.index 155 (.agg #[.int .i64 2, .int .i64 1]) (.int .i64 0)) w = .ok (.int .i64 2) w := by kernel_rfl
theorem lens_at1 (w : World) : Sem.run Tryz.prog (Instr.index 155 (.agg #[.int .i64 2, .int .i64 1]) (.int .i64 1)) w = .ok (.int .i64 1) w := by kernel_rfl
theorem lens_grown {w w' : World} {C : Nat} (h : LensAt w) (g : w.grownBy w' (some C)) (h0 : C ≠ 1) : LensAt w' := by
  have hl := World.block_lt_of_cell? w ⟨1, 0, none⟩ h.1
  have hb := g.block _ hl (by simp; exact Ne.symm h0)
  exact ⟨(World.cell?_of_block (a := ⟨1, 0, none⟩) hb).trans h.1, (World.cell?_of_block (a := ⟨1, 1, none⟩) hb).trans h.2⟩

theorem cut_head (l : List UInt8) (i k : Nat) (hk : i < k) (hl : i < l.length) : (cut l i k).headD 0 = l.getD i 0 := by
  unfold cut
  rw [drop_cons l i hl, show k - i = (k - i - 1) + 1 by omega]; rfl
theorem voc_two {t : List UInt8} {n : Nat} (h : vocab.contains t = true) (hl : t.length = n + 2 - n) (hf : isSignC (t.headD 0) = false) : t = [45, 62] ∨ t = [61, 61] := by
  have hl' : t.length = 2 := by omega
  have hm := List.contains_iff_mem.1 h
  simp only [vocab, keysL, signsL, List.cons_append, List.nil_append, List.mem_cons, List.not_mem_nil, or_false] at hm
  rcases hm with rfl | rfl | rfl | rfl | rfl | rfl | rfl | rfl | rfl | rfl | rfl | rfl | rfl | rfl | rfl | rfl | rfl | rfl | rfl | rfl | rfl | rfl | rfl
  all_goals first | exact .inl rfl | exact .inr rfl | (exfalso; revert hl'; decide) | (exfalso; revert hf; decide)
theorem voc_one {t : List UInt8} {n : Nat} (h : vocab.contains t = true) (hl : t.length = n + 1 - n) (hf : isSignC (t.headD 0) = false) : oneSigns.contains t = true := by
  have hl' : t.length = 1 := by omega
  have hm := List.contains_iff_mem.1 h
  simp only [vocab, keysL, signsL, List.cons_append, List.nil_append, List.mem_cons, List.not_mem_nil, or_false] at hm
  rcases hm with rfl | rfl | rfl | rfl | rfl | rfl | rfl | rfl | rfl | rfl | rfl | rfl | rfl | rfl | rfl | rfl | rfl | rfl | rfl | rfl | rfl | rfl | rfl
  all_goals first | decide | (exfalso; revert hl'; decide) | (exfalso; revert hf; decide)
theorem two_voc {t : List UInt8} (h : vocab.contains t = false) : ¬ (t = [45, 62] ∨ t = [61, 61]) := by
  rintro (rfl | rfl) <;> exact absurd h (by decide)
theorem one_voc {t : List UInt8} (h : vocab.contains t = false) : oneSigns.contains t = false := by
  rw [Bool.eq_false_iff]
  intro hc
  have hm := List.contains_iff_mem.1 hc
  simp only [oneSigns, List.mem_cons, List.not_mem_nil, or_false] at hm
  rcases hm with rfl | rfl | rfl | rfl | rfl | rfl | rfl | rfl | rfl | rfl | rfl | rfl | rfl | rfl | rfl | rfl | rfl
  all_goals exact absurd h (by decide)
theorem tok_two {l : List UInt8} {i : Nat} {line : Int} (hd : digB (l.getD i 0) = false) (hn : isSignC (l.getD i 0) = false) (h2 : i + 2 ≤ l.length) (hc : cut l i (i + 2) = [45, 62] ∨ cut l i (i + 2) = [61, 61]) :
    tokAt l i line = some (⟨3, cut l i (i + 2), 0, line⟩, i + 2) := by
  simp only [tokAt]; rw [if_neg (by rw [hd]; decide), if_neg (by rw [hn]; decide), if_pos ⟨h2, hc⟩]
theorem tok_one {l : List UInt8} {i : Nat} {line : Int} (hd : digB (l.getD i 0) = false) (hn : isSignC (l.getD i 0) = false) (h2 : ¬ (i + 2 ≤ l.length ∧ (cut l i (i + 2) = [45, 62] ∨ cut l i (i + 2) = [61, 61]))) (hc : oneSigns.contains (cut l i (i + 1)) = true) :
    tokAt l i line = some (⟨3, cut l i (i + 1), 0, line⟩, i + 1) := by
  simp only [tokAt]; rw [if_neg (by rw [hd]; decide), if_neg (by rw [hn]; decide), if_neg h2, if_pos hc]
theorem tok_none {l : List UInt8} {i : Nat} {line : Int} (hd : digB (l.getD i 0) = false) (hn : isSignC (l.getD i 0) = false) (h2 : ¬ (i + 2 ≤ l.length ∧ (cut l i (i + 2) = [45, 62] ∨ cut l i (i + 2) = [61, 61]))) (hc : oneSigns.contains (cut l i (i + 1)) = false) :
    tokAt l i line = none := by
  simp only [tokAt]; rw [if_neg (by rw [hd]; decide), if_neg (by rw [hn]; decide), if_neg h2, if_neg (by rw [hc]; decide)]

set_option maxHeartbeats 4000000 in
theorem sign_any (C : Nat) (s : ByteArray) (i : Nat) (line : Int) (w : World) (hs : s.size ≤ 4000) (hi : i < s.size) (hd : digB (s.data.toList.getD i 0) = false) (hn : isSignC (s.data.toList.getD i 0) = false) (h : VocState w C s i line) (hT : TabsAt w) (hL : LensAt w) (hC0 : C ≠ 0) (hC2 : C ≠ 3) :
    Calls Tryz.prog 91 #[.pointer (some ⟨C, 0, none⟩)] w fun e w' => ∃ tv ok k, e = .returned (.tuple #[tv, .bool ok]) ∧ TokRes s.data.toList i line tv ok k ∧ VocState w' C s k line ∧ i ≤ k ∧ k ≤ s.size ∧ w.grownBy w' (some C) := by
  have HD : Hid (digB (s.data.toList.getD i 0) = false) := hd
  have HN : Hid (isSignC (s.data.toList.getD i 0) = false) := hn
  have HV0 : Hid (VocState (w.alloc (.cells #[.int .i64 0, .string ⟨#[]⟩, .int .i64 0, .int .i64 0] 49)) C s i line) := h.alloc _
  have hC : C < w.heap.size := by obtain ⟨_, _, h'⟩ := h.sc'; exact h'.lt
  have hCb : C ≠ w.heap.size := by omega
  have hCb' : w.heap.size ≠ C := by omega
  have HLL : Hid (s.data.toList.length = s.size) := by show s.data.toList.length = s.size; simp
  have T0 : Hid (TabsAt (w.alloc (.cells #[.int .i64 0, .string ⟨#[]⟩, .int .i64 0, .int .i64 0] 49))) := tabs_grown hT (World.grownBy_alloc _ _ _) hC0 hC2
  have hl0 : (w.alloc (.cells #[.int .i64 0, .string ⟨#[]⟩, .int .i64 0, .int .i64 0] 49)).cell? ⟨1, 0, none⟩ = some (.int .i64 2) := (World.cell?_alloc_past _ _ _ (World.block_lt_of_cell? w ⟨1, 0, none⟩ hL.1)).trans hL.1
  have hl1 : (w.alloc (.cells #[.int .i64 0, .string ⟨#[]⟩, .int .i64 0, .int .i64 0] 49)).cell? ⟨1, 1, none⟩ = some (.int .i64 1) := (World.cell?_alloc_past _ _ _ (World.block_lt_of_cell? w ⟨1, 1, none⟩ hL.2)).trans hL.2
  clear hd hn h hT hL
  go_enter Tryz.func91, Tryz.ntmps91
  go_wp2
  clear hl0 hl1
  go_loopw [10] (fun jv wr => ∃ j : Nat, j ≤ 2 ∧ jv = .int .i64 j ∧ VocState wr C s i line ∧ (w.alloc (.cells #[.int .i64 0, .string ⟨#[]⟩, .int .i64 0, .int .i64 0] 49)).grownBy wr (some C) ∧ (1 ≤ j → ¬ (i + 2 ≤ s.data.toList.length ∧ (cut s.data.toList i (i + 2) = [45, 62] ∨ cut s.data.toList i (i + 2) = [61, 61]))) ∧ (2 ≤ j → oneSigns.contains (cut s.data.toList i (i + 1)) = false)) (fun jv _ => 2 - (intOf jv).toNat)
  case atStart => exact ⟨0, by omega, rfl, HV0.out, World.grownBy.refl _ _, by omega, by omega⟩
  case round =>
    obtain ⟨j, hj, rfl, hv, hg, hf2, hf1⟩ := hrel
    obtain ⟨d, V, hsc⟩ := hv.sc'
    obtain ⟨c0, c1, _, _, _, _, _⟩ := hsc.cells
    have HV : Hid (VocState wr C s i line) := hv
    have HG : Hid ((w.alloc (.cells #[.int .i64 0, .string ⟨#[]⟩, .int .i64 0, .int .i64 0] 49)).grownBy wr (some C)) := hg
    have HF2 : Hid (1 ≤ j → ¬ (i + 2 ≤ s.data.toList.length ∧ (cut s.data.toList i (i + 2) = [45, 62] ∨ cut s.data.toList i (i + 2) = [61, 61]))) := hf2
    have HF1 : Hid (2 ≤ j → oneSigns.contains (cut s.data.toList i (i + 1)) = false) := hf1
    clear hv hg hsc hf1 hf2
    rcases (by omega : j = 0 ∨ j = 1 ∨ j = 2) with rfl | rfl | rfl
    · have r0 := lens_at0
      by_cases h2 : i + 2 ≤ s.size
      ·
        have HEX : Hid (s.extract i (i + 2) = byteArr (cut s.data.toList i (i + 2))) := extract_cut s i (i + 2)
        have hsz : (s.extract i (i + 2)).size ≤ maxLen := by rw [ByteArray.size_extract]; unfold maxLen; omega
        have hgt : ¬ ((s.size : Int) < (i : Int) + 2) := by omega
        go_wp2
        go_quiet (fail)
        go_wp2
        go_quiet (fail)
        go_wp2_with fail
        generalize hW : wr.drewN _ = wd
        have HVD : Hid (VocState wd C s i line) := by
          obtain ⟨d', V', hs', hk'⟩ := HV.out.sc
          exact hk' _ _ _ (by rw [← hW]; exact hs') (by rw [← hW]; exact grown_drewN _ _ _)
        have hgd : wr.grownBy wd (some C) := by rw [← hW]; exact grown_drewN _ _ _
        have HGD : Hid ((w.alloc (.cells #[.int .i64 0, .string ⟨#[]⟩, .int .i64 0, .int .i64 0] 49)).grownBy wd (some C)) := grownBy_transT HG.out hgd
        have TD : Hid (TabsAt wd) := tabs_grown T0.out HGD.out hC0 hC2
        clear hW hgd
        refine (kindOf_any C s i line _ _ hsz HVD.out TD.out hC0 hC2).mono ?_
        rintro e w2 ⟨rfl, hv2, hg2⟩
        have HV2 : Hid (VocState w2 C s i line) := hv2
        have HG2 : Hid ((w.alloc (.cells #[.int .i64 0, .string ⟨#[]⟩, .int .i64 0, .int .i64 0] 49)).grownBy w2 (some C)) := grownBy_transT HGD.out hg2
        obtain ⟨d2, V2, hsc2⟩ := hv2.sc'
        obtain ⟨e0, e1, e2, _, _, _, _⟩ := hsc2.cells
        have f1 := hsc2.frozen 1
        have hne : some w.heap.size ≠ some C := by simp; omega
        have hblk := HG2.out.block w.heap.size (by simp) hne
        have hc2 : ∀ o, w2.cell? ⟨w.heap.size, o, none⟩ = (w.alloc (.cells #[.int .i64 0, .string ⟨#[]⟩, .int .i64 0, .int .i64 0] 49)).cell? ⟨w.heap.size, o, none⟩ := fun o => World.cell?_of_block (a := ⟨w.heap.size, o, none⟩) hblk
        have hf2 : ∀ o, w2.frozen? ⟨w.heap.size, o, none⟩ = (w.alloc (.cells #[.int .i64 0, .string ⟨#[]⟩, .int .i64 0, .int .i64 0] 49)).frozen? ⟨w.heap.size, o, none⟩ := fun o => World.frozen?_of_block (a := ⟨w.heap.size, o, none⟩) hblk
        have hz2 : w.heap.size < w2.heap.size := by have := HG2.out.size; simp at this; omega
        have HBLK : Hid (w2.heap[w.heap.size]? = some (.cells #[.int .i64 0, .string ⟨#[]⟩, .int .i64 0, .int .i64 0] 49 (0, 0))) := hblk.trans (heap_alloc_new w _)
        have HGA : Hid (w.grownBy w2 (some C)) := grownBy_transT (World.grownBy_alloc _ _ _) HG2.out
        have HSC2 : Hid (Sc w2 C s i line d2 V2) := hsc2
        clear hv2 hg2 hsc2 hblk hne c0 c1 HVD HGD TD HV HG
        have hvb : vocB (s.extract i (i + 2)) = true ∨ vocB (s.extract i (i + 2)) = false := by cases vocB (s.extract i (i + 2)) <;> simp
        rcases hvb with hvb | hvb
        · have hvk : vocK (s.extract i (i + 2)) = 3 := by unfold vocK; rw [if_pos hvb]
          have HT : Hid (tokAt s.data.toList i line = some (⟨3, cut s.data.toList i (i + 2), 0, line⟩, i + 2)) := tok_two HD.out HN.out (by rw [HLL.out]; omega) (voc_two (by rw [HEX.out] at hvb; exact hvb) (cut_length _ _ _ (by rw [HLL.out]; omega)) (by rw [cut_head _ _ _ (by omega) (by rw [HLL.out]; omega)]; exact HN.out))
          go_wp2
          have hv3 : VocState (w2.setCell ⟨C, 1, none⟩ (.int .i64 ((i : Int) + 2))) C s (i + 2) line := by
            obtain ⟨d', V', hs', hk'⟩ := HV2.out.sc
            exact hk' _ _ _ (hs'.atI _ (i + 2) (by omega)) (grown_set _ _ _ _)
          have hnv3 : ∀ bm, VocAt (w2.setCell ⟨C, 1, none⟩ (.int .i64 ((i : Int) + 2))) bm → bm ≠ w.heap.size := fun bm hm => voc_not_cells hm ((heap_setCell_other w2 ⟨C, 1, none⟩ w.heap.size _ hCb').trans HBLK.out)
          exact bodyPost_ret (v := .tuple #[.agg #[.int .i64 3, .string (s.extract i (i + 2)), .int .i64 0, .int .i64 line], .bool true]) (by simp [results, Tryz.results91, go_sem, hc2]) rfl ⟨_, _, i + 2, rfl, .inl ⟨rfl, _, HT.out, by rw [HEX.out]; rfl⟩, hv3.store4 hCb hnv3 _ _ _ _, by omega, by omega, grown_store4 (grownBy_transT HGA.out (grown_set _ _ _ _)) (Nat.le_refl _) _ _ _ _⟩
        · have hvk : vocK (s.extract i (i + 2)) = 0 := by unfold vocK; rw [if_neg (by rw [hvb]; decide)]
          have HNO : Hid (¬ (i + 2 ≤ s.data.toList.length ∧ (cut s.data.toList i (i + 2) = [45, 62] ∨ cut s.data.toList i (i + 2) = [61, 61]))) := fun h => two_voc (by rw [HEX.out] at hvb; exact hvb) h.2
          go_wp2
          go_roundw
          case rel => exact ⟨1, by omega, rfl, HV2.out, HG2.out, fun _ => HNO.out, by omega⟩
          case measure => simp [intOf]
      · have hgt : (s.size : Int) < (i : Int) + 2 := by omega
        go_wp2
        go_quiet (fail)
        go_wp2
        go_roundw
        case rel => exact ⟨1, by omega, rfl, by obtain ⟨d', V', hs', hk'⟩ := HV.out.sc; exact hk' _ _ _ hs' (grown_drewN _ _ _), grown_dN HG.out _, fun _ h => h2 (by have := h.1; rw [HLL.out] at this; exact this), by omega⟩
        case measure => simp [intOf]
    · have r1 := lens_at1
      have HEX : Hid (s.extract i (i + 1) = byteArr (cut s.data.toList i (i + 1))) := extract_cut s i (i + 1)
      have hsz : (s.extract i (i + 1)).size ≤ maxLen := by rw [ByteArray.size_extract]; unfold maxLen; omega
      have hgt : ¬ ((s.size : Int) < (i : Int) + 1) := by omega
      go_wp2
      go_quiet (fail)
      go_wp2
      go_quiet (fail)
      go_wp2_with fail
      generalize hW : wr.drewN _ = wd
      have HVD : Hid (VocState wd C s i line) := by
        obtain ⟨d', V', hs', hk'⟩ := HV.out.sc
        exact hk' _ _ _ (by rw [← hW]; exact hs') (by rw [← hW]; exact grown_drewN _ _ _)
      have hgd : wr.grownBy wd (some C) := by rw [← hW]; exact grown_drewN _ _ _
      have HGD : Hid ((w.alloc (.cells #[.int .i64 0, .string ⟨#[]⟩, .int .i64 0, .int .i64 0] 49)).grownBy wd (some C)) := grownBy_transT HG.out hgd
      have TD : Hid (TabsAt wd) := tabs_grown T0.out HGD.out hC0 hC2
      clear hW hgd
      refine (kindOf_any C s i line _ _ hsz HVD.out TD.out hC0 hC2).mono ?_
      rintro e w2 ⟨rfl, hv2, hg2⟩
      have HV2 : Hid (VocState w2 C s i line) := hv2
      have HG2 : Hid ((w.alloc (.cells #[.int .i64 0, .string ⟨#[]⟩, .int .i64 0, .int .i64 0] 49)).grownBy w2 (some C)) := grownBy_transT HGD.out hg2
      obtain ⟨d2, V2, hsc2⟩ := hv2.sc'
      obtain ⟨e0, e1, e2, _, _, _, _⟩ := hsc2.cells
      have f1 := hsc2.frozen 1
      have hne : some w.heap.size ≠ some C := by simp; omega
      have hblk := HG2.out.block w.heap.size (by simp) hne
      have hc2 : ∀ o, w2.cell? ⟨w.heap.size, o, none⟩ = (w.alloc (.cells #[.int .i64 0, .string ⟨#[]⟩, .int .i64 0, .int .i64 0] 49)).cell? ⟨w.heap.size, o, none⟩ := fun o => World.cell?_of_block (a := ⟨w.heap.size, o, none⟩) hblk
      have hf2 : ∀ o, w2.frozen? ⟨w.heap.size, o, none⟩ = (w.alloc (.cells #[.int .i64 0, .string ⟨#[]⟩, .int .i64 0, .int .i64 0] 49)).frozen? ⟨w.heap.size, o, none⟩ := fun o => World.frozen?_of_block (a := ⟨w.heap.size, o, none⟩) hblk
      have hz2 : w.heap.size < w2.heap.size := by have := HG2.out.size; simp at this; omega
      have HBLK : Hid (w2.heap[w.heap.size]? = some (.cells #[.int .i64 0, .string ⟨#[]⟩, .int .i64 0, .int .i64 0] 49 (0, 0))) := hblk.trans (heap_alloc_new w _)
      have HGA : Hid (w.grownBy w2 (some C)) := grownBy_transT (World.grownBy_alloc _ _ _) HG2.out
      have HSC2 : Hid (Sc w2 C s i line d2 V2) := hsc2
      clear hv2 hg2 hsc2 hblk hne c0 c1 HVD HGD TD HV HG
      have hvb : vocB (s.extract i (i + 1)) = true ∨ vocB (s.extract i (i + 1)) = false := by cases vocB (s.extract i (i + 1)) <;> simp
      rcases hvb with hvb | hvb
      · have hvk : vocK (s.extract i (i + 1)) = 3 := by unfold vocK; rw [if_pos hvb]
        have HT : Hid (tokAt s.data.toList i line = some (⟨3, cut s.data.toList i (i + 1), 0, line⟩, i + 1)) := tok_one HD.out HN.out (HF2.out (by omega)) (voc_one (by rw [HEX.out] at hvb; exact hvb) (cut_length _ _ _ (by rw [HLL.out]; omega)) (by rw [cut_head _ _ _ (by omega) (by rw [HLL.out]; omega)]; exact HN.out))
        go_wp2
        have hv3 : VocState (w2.setCell ⟨C, 1, none⟩ (.int .i64 ((i : Int) + 1))) C s (i + 1) line := by
          obtain ⟨d', V', hs', hk'⟩ := HV2.out.sc
          exact hk' _ _ _ (hs'.atI _ (i + 1) (by omega)) (grown_set _ _ _ _)
        have hnv3 : ∀ bm, VocAt (w2.setCell ⟨C, 1, none⟩ (.int .i64 ((i : Int) + 1))) bm → bm ≠ w.heap.size := fun bm hm => voc_not_cells hm ((heap_setCell_other w2 ⟨C, 1, none⟩ w.heap.size _ hCb').trans HBLK.out)
        exact bodyPost_ret (v := .tuple #[.agg #[.int .i64 3, .string (s.extract i (i + 1)), .int .i64 0, .int .i64 line], .bool true]) (by simp [results, Tryz.results91, go_sem, hc2]) rfl ⟨_, _, i + 1, rfl, .inl ⟨rfl, _, HT.out, by rw [HEX.out]; rfl⟩, hv3.store4 hCb hnv3 _ _ _ _, by omega, by omega, grown_store4 (grownBy_transT HGA.out (grown_set _ _ _ _)) (Nat.le_refl _) _ _ _ _⟩
      · have hvk : vocK (s.extract i (i + 1)) = 0 := by unfold vocK; rw [if_neg (by rw [hvb]; decide)]
        have HNO : Hid (oneSigns.contains (cut s.data.toList i (i + 1)) = false) := one_voc (by rw [HEX.out] at hvb; exact hvb)
        go_wp2
        go_roundw
        case rel => exact ⟨2, by omega, rfl, HV2.out, HG2.out, fun _ => HF2.out (by omega), fun _ => HNO.out⟩
        case measure => simp [intOf]
    · have hne : some w.heap.size ≠ some C := by simp; omega
      have hblk := HG.out.block w.heap.size (by simp) hne
      have hc2 : ∀ o, wr.cell? ⟨w.heap.size, o, none⟩ = (w.alloc (.cells #[.int .i64 0, .string ⟨#[]⟩, .int .i64 0, .int .i64 0] 49)).cell? ⟨w.heap.size, o, none⟩ := fun o => World.cell?_of_block (a := ⟨w.heap.size, o, none⟩) hblk
      have hf2 : ∀ o, wr.frozen? ⟨w.heap.size, o, none⟩ = (w.alloc (.cells #[.int .i64 0, .string ⟨#[]⟩, .int .i64 0, .int .i64 0] 49)).frozen? ⟨w.heap.size, o, none⟩ := fun o => World.frozen?_of_block (a := ⟨w.heap.size, o, none⟩) hblk
      have hz2 : w.heap.size < wr.heap.size := by have := HG.out.size; simp at this; omega
      have HNV : Hid (∀ bm, VocAt wr bm → bm ≠ w.heap.size) := fun bm hm => voc_not_cells hm (hblk.trans (heap_alloc_new w _))
      have HGA : Hid (w.grownBy wr (some C)) := grownBy_transT (World.grownBy_alloc _ _ _) HG.out
      have HT : Hid (tokAt s.data.toList i line = none) := tok_none HD.out HN.out (HF2.out (by omega)) (HF1.out (by omega))
      clear hblk hne c0 c1
      go_wp2
      exact bodyPost_ret (v := .tuple #[.agg #[.int .i64 0, .string ⟨#[]⟩, .int .i64 0, .int .i64 0], .bool false]) (by simp [results, Tryz.results91, go_sem, hc2]) rfl ⟨_, _, i, rfl, .inr ⟨rfl, HT.out, rfl⟩, HV.out.store4 hCb HNV.out _ _ _ _, Nat.le_refl _, by omega, grown_store4 HGA.out (Nat.le_refl _) _ _ _ _⟩
end Go.Proofs.YtkomkhiinfdfmaaGreatDoor
