/-
  What the program's fill makes of a vocabulary without a map: one with the words of the language in it.
-/
import Derived.Test.YtkomkhiinfdfmaaGreatDoorVocab
import Derived.Deep.MidRow
namespace Go.Proofs.YtkomkhiinfdfmaaGreatDoor
open Go.ChangeShapes Go.WideShapes Go.ChangeAt Go.RowKit Go.Maps Go.WideMaps Go.WideElems
set_option linter.unusedVariables false
set_option maxRecDepth 100000

theorem ScM.cell6 {w : World} {C : Nat} {s : ByteArray} {i : Nat} {line d m : Int} {V : Option Nat} (h : ScM w C s i line d m V) : w.cell? ⟨C, 6, none⟩ = some (.map V) := by
  unfold ScM at h; rw [cell_of_row w C _ _ _ (0, 0) h]; rfl
theorem ScM.frozen {w : World} {C : Nat} {s : ByteArray} {i : Nat} {line d m : Int} {V : Option Nat} (h : ScM w C s i line d m V) (j : Nat) : w.frozen? ⟨C, j, none⟩ = false := frozen_of_row w C j _ _ h
theorem ScM.lt {w : World} {C : Nat} {s : ByteArray} {i : Nat} {line d m : Int} {V : Option Nat} (h : ScM w C s i line d m V) : C < w.heap.size := (Array.getElem?_eq_some_iff.1 h).1
theorem ScM.of_heap {w w' : World} {C : Nat} {s : ByteArray} {i : Nat} {line d m : Int} {V : Option Nat} (h : ScM w C s i line d m V) (e : w'.heap[C]? = w.heap[C]?) : ScM w' C s i line d m V := e.trans h
theorem ScM.kinds {w : World} {C : Nat} {s : ByteArray} {i : Nat} {line d m : Int} {V : Option Nat} (h : ScM w C s i line d m V) (V' : Option Nat) : ScM (w.setCell ⟨C, 6, none⟩ (.map V')) C s i line d m V' :=
  (heap_setCell_same w C 6 _ _ _ h).trans rfl
theorem ScM.alloc {w : World} {C : Nat} {s : ByteArray} {i : Nat} {line d m : Int} {V : Option Nat} (h : ScM w C s i line d m V) (o : Obj) : ScM (w.alloc o) C s i line d m V :=
  h.of_heap (((Below.refl w.heap.size w).alloc (Nat.le_refl _) o).block C h.lt)

theorem cell_behind {w : World} {C b : Nat} (hb : b ≠ C) (hl : b < w.heap.size) (v : Value) (o : Obj) (k : Nat) : ((w.setCell ⟨C, 6, none⟩ v).alloc o).cell? ⟨b, k, none⟩ = w.cell? ⟨b, k, none⟩ := by
  rw [World.cell?_alloc_past _ _ _ (by simpa using hl)]
  exact World.cell?_setCell_other _ ⟨C, 6, none⟩ ⟨b, k, none⟩ _ (fun e => hb (by injection e with e1; exact e1.symm))
theorem take_vocab (k : Nat) (hk : k < 3) : vocab.take (k + 1) = vocab.take k ++ [keysL.getD k []] := by
  rcases (by omega : k = 0 ∨ k = 1 ∨ k = 2) with rfl | rfl | rfl <;> rfl
theorem take_vocab2 (k : Nat) (hk : k < 20) : vocab.take (3 + k + 1) = vocab.take (3 + k) ++ [signsL.getD k []] := by
  rcases (by omega : k = 0 ∨ k = 1 ∨ k = 2 ∨ k = 3 ∨ k = 4 ∨ k = 5 ∨ k = 6 ∨ k = 7 ∨ k = 8 ∨ k = 9 ∨ k = 10 ∨ k = 11 ∨ k = 12 ∨ k = 13 ∨ k = 14 ∨ k = 15 ∨ k = 16 ∨ k = 17 ∨ k = 18 ∨ k = 19) with rfl | rfl | rfl | rfl | rfl | rfl | rfl | rfl | rfl | rfl | rfl | rfl | rfl | rfl | rfl | rfl | rfl | rfl | rfl | rfl <;> rfl
theorem key_str (x : List UInt8) (h : x.length ≤ 4) : keyOf Tryz.prog 9 (.string ⟨x.toArray⟩) = some (.string x) := by
  have := keyOf_string_mk (s := ⟨x.toArray⟩) Tryz.underlying9 (by unfold maxLen; show x.toArray.size ≤ _; simp; omega)
  simpa using this
theorem keysL_short (k : Nat) : (keysL.getD k []).length ≤ 4 := by
  by_cases h : k < 3
  · rcases (by omega : k = 0 ∨ k = 1 ∨ k = 2) with rfl | rfl | rfl <;> decide
  · rw [List.getD, List.getElem?_eq_none (by show 3 ≤ k; omega)]; decide
theorem signsL_short (k : Nat) : (signsL.getD k []).length ≤ 4 := by
  by_cases h : k < 20
  · rcases (by omega : k = 0 ∨ k = 1 ∨ k = 2 ∨ k = 3 ∨ k = 4 ∨ k = 5 ∨ k = 6 ∨ k = 7 ∨ k = 8 ∨ k = 9 ∨ k = 10 ∨ k = 11 ∨ k = 12 ∨ k = 13 ∨ k = 14 ∨ k = 15 ∨ k = 16 ∨ k = 17 ∨ k = 18 ∨ k = 19) with rfl | rfl | rfl | rfl | rfl | rfl | rfl | rfl | rfl | rfl | rfl | rfl | rfl | rfl | rfl | rfl | rfl | rfl | rfl | rfl <;> decide
  · rw [List.getD, List.getElem?_eq_none (by show 20 ≤ k; omega)]; decide

theorem grown_row {w wr w1 : World} {r : Option Nat} {b : Nat} (h : w.grownBy wr r) (k : wr.grownBy w1 (some b)) (hb : w.heap.size ≤ b) : w.grownBy w1 r :=
  ⟨k.os.trans h.os, k.tape.trans h.tape, k.output.trans h.output, Nat.le_trans h.size k.size, fun j hj hr => (k.block j (Nat.lt_of_lt_of_le hj h.size) (by simp; omega)).trans (h.block j hj hr)⟩
theorem ScM.row {w w1 : World} {C : Nat} {s : ByteArray} {i : Nat} {line d m : Int} {V : Option Nat} {b : Nat} (h : ScM w C s i line d m V) (k : w.grownBy w1 (some b)) (hb : C ≠ b) : ScM w1 C s i line d m V :=
  h.of_heap (k.block C h.lt (by simp; exact hb))

set_option maxHeartbeats 4000000 in
theorem fill_any (C : Nat) (s : ByteArray) (i : Nat) (line d m : Int) (w : World) (h : ScM w C s i line d m none) (hK : KeysAt' w) (hS : SignsAt w) (hC0 : C ≠ 0) (hC2 : C ≠ 3) :
    Calls Tryz.prog 133 #[.pointer (some ⟨C, 3, none⟩)] w fun e w' => e = .returned (.tuple #[]) ∧ ∃ bm, ScM w' C s i line d m (some bm) ∧ w'.ownsMap Tryz.prog 9 (plainElem Tryz.prog 3) bm 23 (vocD vocab) ∧ w.heap.size ≤ bm ∧ w.grownBy w' (some C) := by
  have c6 := h.cell6
  have f6 := h.frozen 6
  have hC := h.lt
  have H : Hid (ScM w C s i line d m none) := h
  have HK : Hid (KeysAt' w) := hK
  have HS : Hid (SignsAt w) := hS
  clear h hK hS
  have hmm : ∀ w : World, Sem.run Tryz.prog (Instr.makeMap 87 (some (.int .i64 23))) w = .ok (.map (some w.heap.size)) (w.alloc (.map #[] 0)) := fun w => by kernel_rfl
  have hk0 : 0 < w.heap.size := World.block_lt_of_cell? w ⟨0, 0, none⟩ (HK.out 0 (by omega))
  have hs0 : 3 < w.heap.size := World.block_lt_of_cell? w ⟨3, 0, none⟩ (HS.out 0 (by omega))
  have k0 : ((w.setCell ⟨C, 6, none⟩ (.map (some w.heap.size))).alloc (.map #[] 0)).cell? ⟨0, 0, none⟩ = some (.string ⟨#[99, 97, 115, 101]⟩) := (cell_behind (Ne.symm hC0) hk0 _ _ 0).trans (HK.out 0 (by omega))
  have k1 : ((w.setCell ⟨C, 6, none⟩ (.map (some w.heap.size))).alloc (.map #[] 0)).cell? ⟨0, 1, none⟩ = some (.string ⟨#[111, 102]⟩) := (cell_behind (Ne.symm hC0) hk0 _ _ 1).trans (HK.out 1 (by omega))
  have k2 : ((w.setCell ⟨C, 6, none⟩ (.map (some w.heap.size))).alloc (.map #[] 0)).cell? ⟨0, 2, none⟩ = some (.string ⟨#[101, 110, 100]⟩) := (cell_behind (Ne.symm hC0) hk0 _ _ 2).trans (HK.out 2 (by omega))
  have HSC1 : Hid (ScM ((w.setCell ⟨C, 6, none⟩ (.map (some w.heap.size))).alloc (.map #[] 0)) C s i line d m (some w.heap.size)) := (H.out.kinds (some w.heap.size)).alloc _
  have HM1 : Hid (((w.setCell ⟨C, 6, none⟩ (.map (some w.heap.size))).alloc (.map #[] 0)).ownsMap Tryz.prog 9 (plainElem Tryz.prog 3) w.heap.size 0 (vocD [])) := by
    have := World.ownsMap_made (w.setCell ⟨C, 6, none⟩ (.map (some w.heap.size))) Tryz.prog 9 (plainElem (H := Unit) Tryz.prog 3)
    have e : (w.setCell ⟨C, 6, none⟩ (.map (some w.heap.size))).heap.size = w.heap.size := by simp
    rw [e] at this
    exact this
  have HG1 : Hid (w.grownBy ((w.setCell ⟨C, 6, none⟩ (.map (some w.heap.size))).alloc (.map #[] 0)) (some C)) := grownBy_transT (grown_set _ _ _ _) (World.grownBy_alloc _ _ _)
  go_enter Tryz.func133, Tryz.ntmps133
  go_wp2
  clear k0 k1 k2
  go_loopw [11] (fun kv wr => ∃ k : Nat, k ≤ 3 ∧ kv = .int .i64 k ∧ ScM wr C s i line d m (some w.heap.size) ∧ wr.ownsMap Tryz.prog 9 (plainElem Tryz.prog 3) w.heap.size k (vocD (vocab.take k)) ∧ w.grownBy wr (some C)) (fun kv _ => 3 - (intOf kv).toNat)
  case atStart => exact ⟨0, by omega, rfl, HSC1.out, HM1.out, HG1.out⟩
  case round =>
    clear HSC1 HM1 HG1 c6 f6
    obtain ⟨k, hk, rfl, hsc, hmap, hgr⟩ := hrel
    have c6 := hsc.cell6
    have HSC : Hid (ScM wr C s i line d m (some w.heap.size)) := hsc
    have HM : Hid (wr.ownsMap Tryz.prog 9 (plainElem Tryz.prog 3) w.heap.size k (vocD (vocab.take k))) := hmap
    have HG : Hid (w.grownBy wr (some C)) := hgr
    clear hsc hmap hgr
    by_cases hlt : k < 3
    · have hix := keys_at k hlt
      have hks := keysL_short k
      have HTV : Hid (vocab.take (k + 1) = vocab.take k ++ [keysL.getD k []]) := take_vocab k hlt
      generalize keysL.getD k [] = x at hix hks HTV
      go_wp2_with (at_mapUpdate; refine wpList_mapUpdate_own _ rfl _ _ _ 87 rfl 9 3 law9 Tryz.underlying87 _ w.heap.size k _ rfl HM.out (by unfold maxLen; omega) _ _ _ rfl rfl (key_str x hks) _ [] (plainElem_int Tryz.underlying3 (by decide)) ?_; intro w1 hm1 hg1; have HM1 : Hid _ := hm1; have HG1 : Hid _ := hg1; clear hm1 hg1)
      have hown1 : w1.ownsMap Tryz.prog 9 (plainElem Tryz.prog 3) w.heap.size (k + 1) ((vocD (vocab.take k)).put (.string x) (.lit (.int .i64 3))) := HM1.out
      rw [← vocD_snoc, ← HTV.out] at hown1
      exact ⟨⟨k + 1, by omega, by go_num, HSC.out.row HG1.out (by omega), hown1, grown_row HG.out HG1.out (Nat.le_refl _)⟩, by simp [intOf]; omega⟩
    · obtain rfl : k = 3 := by omega
      have HSR : Hid (∀ k, k < 20 → wr.cell? ⟨3, k, none⟩ = some (.string ⟨(signsL.getD k []).toArray⟩)) := fun k hk => (World.cell?_of_block (a := ⟨3, k, none⟩) (HG.out.block 3 hs0 (by simp; omega))).trans (HS.out k hk)
      have HRG : Hid (wr.rangeAt 3 0 signsArr.toList) := fun j v hj => by
        obtain ⟨h20, rfl⟩ := signsArr_get j v hj
        rw [Nat.zero_add]
        exact HSR.out j h20
      go_wp2_with (refine wpList_load_mid rfl 189 (.global 3) rfl 3 0 rfl signsArr.toList _ HRG.out Tryz.underlying189 rfl (by kernel_rfl) ?_)
      clear c6 HRG
      go_loopw [21] (fun kv wr => ∃ k : Nat, k ≤ 20 ∧ kv = .int .i64 k ∧ ScM wr C s i line d m (some w.heap.size) ∧ wr.ownsMap Tryz.prog 9 (plainElem Tryz.prog 3) w.heap.size (3 + k) (vocD (vocab.take (3 + k))) ∧ w.grownBy wr (some C)) (fun kv _ => 20 - (intOf kv).toNat)
      case atStart => exact ⟨0, by omega, rfl, HSC.out, HM.out, HG.out⟩
      case round =>
        clear HSC HM HG HSR
        obtain ⟨k, hk, rfl, hsc, hmap, hgr⟩ := hrel
        have c6 := hsc.cell6
        have HSC : Hid (ScM wr C s i line d m (some w.heap.size)) := hsc
        have HM : Hid (wr.ownsMap Tryz.prog 9 (plainElem Tryz.prog 3) w.heap.size (3 + k) (vocD (vocab.take (3 + k)))) := hmap
        have HG : Hid (w.grownBy wr (some C)) := hgr
        clear hsc hmap hgr
        by_cases hlt : k < 20
        · have hix := signs_at k hlt
          have hks := signsL_short k
          have HTV : Hid (vocab.take (3 + k + 1) = vocab.take (3 + k) ++ [signsL.getD k []]) := take_vocab2 k hlt
          generalize signsL.getD k [] = x at hix hks HTV
          go_wp2_with (at_mapUpdate; refine wpList_mapUpdate_own _ rfl _ _ _ 87 rfl 9 3 law9 Tryz.underlying87 _ w.heap.size (3 + k) _ rfl HM.out (by unfold maxLen; omega) _ _ _ rfl rfl (key_str x hks) _ [] (plainElem_int Tryz.underlying3 (by decide)) ?_; intro w1 hm1 hg1; have HM1 : Hid _ := hm1; have HG1 : Hid _ := hg1; clear hm1 hg1)
          have hown1 : w1.ownsMap Tryz.prog 9 (plainElem Tryz.prog 3) w.heap.size (3 + k + 1) ((vocD (vocab.take (3 + k))).put (.string x) (.lit (.int .i64 3))) := HM1.out
          rw [← vocD_snoc, ← HTV.out] at hown1
          go_roundw
          case rel => exact ⟨k + 1, by omega, by go_num, HSC.out.row HG1.out (by omega), hown1, grown_row HG.out HG1.out (Nat.le_refl _)⟩
          case measure => simp [intOf]; omega
        · obtain rfl : k = 20 := by omega
          go_wp2
          go_end0
          exact ⟨rfl, w.heap.size, HSC.out, HM.out, Nat.le_refl _, HG.out⟩
end Go.Proofs.YtkomkhiinfdfmaaGreatDoor
