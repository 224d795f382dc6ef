/-
  What the program's scanner answers where a name stands.
-/
import Derived.Test.YtkomkhiinfdfmaaGreatDoorKindOf
namespace Go.Proofs.YtkomkhiinfdfmaaGreatDoor
open Go.ChangeShapes Go.WideShapes Go.ChangeAt Go.RowKit Go.Maps Go.WideMaps Go.WideElems
set_option linter.unusedVariables false
set_option maxRecDepth 100000

theorem keysAt_of {w : World} (h : KeysAt' w) : KeysAt w := ⟨h 0 (by omega), h 1 (by omega), h 2 (by omega)⟩

set_option maxHeartbeats 1000000 in
theorem nameKind_any (x : ByteArray) (w : World) (hx : x.size ≤ maxLen) (hk : KeysAt w) :
    Calls Tryz.prog 115 #[.string x] w fun e w' => (∃ k ok, e = .returned (.tuple #[.int .i64 k, .bool ok]) ∧ ((atomB x = true ∧ k = 0 ∧ ok = true) ∨ (atomB x = false ∧ varB x = true ∧ k = 1 ∧ ok = true) ∨ (atomB x = false ∧ varB x = false ∧ k = 0 ∧ ok = false))) ∧ w' = w := by
  have HK : Hid (KeysAt w) := hk
  clear hk
  have ha : atomB x = true ∨ atomB x = false := by cases atomB x <;> simp
  rcases ha with ha | ha
  · go_enter Tryz.func115, Tryz.ntmps115
    go_wp2_with (go_at_call 19; go_must (refine (implAtomOk_any _ _ hx HK.out).mono ?_; rintro e w' ⟨rfl, rfl⟩))
    go_ret2
    exact ⟨⟨0, true, rfl, .inl ⟨ha, rfl, rfl⟩⟩, rfl⟩
  · have hv : varB x = true ∨ varB x = false := by cases varB x <;> simp
    rcases hv with hv | hv
    · go_enter Tryz.func115, Tryz.ntmps115
      go_wp2_with (first
        | (go_at_call 19; go_must (refine (implAtomOk_any _ _ hx HK.out).mono ?_; rintro e w' ⟨rfl, rfl⟩))
        | (go_at_call 21; go_must (refine (implVarOk_any _ _ hx).mono ?_; rintro e w' ⟨rfl, rfl⟩)))
      go_ret2
      exact ⟨⟨1, true, rfl, .inr (.inl ⟨ha, hv, rfl, rfl⟩)⟩, rfl⟩
    · go_enter Tryz.func115, Tryz.ntmps115
      go_wp2_with (first
        | (go_at_call 19; go_must (refine (implAtomOk_any _ _ hx HK.out).mono ?_; rintro e w' ⟨rfl, rfl⟩))
        | (go_at_call 21; go_must (refine (implVarOk_any _ _ hx).mono ?_; rintro e w' ⟨rfl, rfl⟩)))
      go_ret2
      exact ⟨⟨0, false, rfl, .inr (.inr ⟨ha, hv, rfl, rfl⟩)⟩, rfl⟩

theorem voc_key {t : List UInt8} (h : vocab.contains t = false) : keyB (byteArr t) = false ∧ t ≠ [95] := by
  have hm : t ∉ vocab := by
    intro hm; rw [List.contains_iff_mem.2 hm] at h; cases h
  refine ⟨?_, fun e => hm (by rw [e]; decide)⟩
  have e : (byteArr t).toList = t := by rw [Lib.toList_data]; rfl
  have n1 : (t == [99, 97, 115, 101]) = false := by rw [beq_eq_false_iff_ne]; exact fun e => hm (by rw [e]; decide)
  have n2 : (t == [111, 102]) = false := by rw [beq_eq_false_iff_ne]; exact fun e => hm (by rw [e]; decide)
  have n3 : (t == [101, 110, 100]) = false := by rw [beq_eq_false_iff_ne]; exact fun e => hm (by rw [e]; decide)
  rw [keyB, e, n1, n2, n3]; rfl
theorem nameKind_no {t : List UInt8} (h : vocB (byteArr t) = false) : nameKindM t = if atomB (byteArr t) = true then some 0 else if varB (byteArr t) = true then some 1 else none := by
  have hk := voc_key (t := t) h
  unfold nameKindM
  split
  · rfl
  · split
    · rfl
    · rw [if_neg (by rw [hk.1]; simp [hk.2])]
theorem voc_cases {t : List UInt8} (h : vocab.contains t = true) (hs : t.all isSignC = true) : t = [99, 97, 115, 101] ∨ t = [111, 102] ∨ t = [101, 110, 100] ∨ t = [95] := by
  have hm := List.contains_iff_mem.1 h
  simp only [vocab, keysL, signsL, List.cons_append, List.nil_append, List.mem_cons, List.not_mem_nil, or_false] at hm
  rcases hm with rfl | rfl | rfl | rfl | rfl | rfl | rfl | rfl | rfl | rfl | rfl | rfl | rfl | rfl | rfl | rfl | rfl | rfl | rfl | rfl | rfl | rfl | rfl
  · exact .inl rfl
  · exact .inr (.inl rfl)
  · exact .inr (.inr (.inl rfl))
  · exact .inr (.inr (.inr rfl))
  all_goals (exfalso; revert hs; decide)
theorem nameKind_yes {t : List UInt8} (h : vocB (byteArr t) = true) (hs : t.all isSignC = true) : nameKindM t = some 3 := by
  have key : ∀ t : List UInt8, (t == [99, 97, 115, 101] || t == [111, 102] || t == [101, 110, 100]) = true → varB (byteArr t) = false → nameKindM t = some 3 := by
    intro t h1 h2
    have e : (byteArr t).toList = t := by rw [Lib.toList_data]; rfl
    have hk : keyB (byteArr t) = true := by rw [keyB, e]; exact h1
    have ha : atomB (byteArr t) = false := by rw [atomB, hk]; simp
    unfold nameKindM
    rw [if_neg (by rw [ha]; decide), if_neg (by rw [h2]; decide), if_pos (.inl hk)]
  rcases voc_cases h hs with rfl | rfl | rfl | rfl
  · exact key _ (by decide) (by decide)
  · exact key _ (by decide) (by decide)
  · exact key _ (by decide) (by decide)
  · have ha : atomB (byteArr [95]) = false := by
      have : inB (firstN (byteArr [95])) 97 122 = false := by decide
      rw [atomB, this]; simp
    have hv : varB (byteArr [95]) = false := by decide
    unfold nameKindM
    rw [if_neg (by rw [ha]; decide), if_neg (by rw [hv]; decide), if_pos (.inr rfl)]
theorem all_run (p : UInt8 → Bool) (l : List UInt8) (i : Nat) : (cut l i (runEnd p l i)).all p = true := by
  unfold cut runEnd
  rw [Nat.add_sub_cancel_left]
  have e : (l.drop i).take ((l.drop i).takeWhile p).length = (l.drop i).takeWhile p := (List.prefix_iff_eq_take.1 (List.takeWhile_prefix p (l := l.drop i))).symm
  rw [e]
  exact List.all_takeWhile

/-- The state of the vocabulary over a change of the scanner's own block. -/
theorem VocState.sc {w : World} {C : Nat} {s : ByteArray} {i : Nat} {line : Int} (h : VocState w C s i line) :
    ∃ d V, Sc w C s i line d V ∧ ∀ (w' : World) (k : Nat) (ln : Int), Sc w' C s k ln d V → w.grownBy w' (some C) → VocState w' C s k ln := by
  rcases h with h | ⟨bm, hne, h, hm⟩
  · exact ⟨0, none, h, fun w' k ln h' _ => .inl h'⟩
  · exact ⟨1, some bm, h, fun w' k ln h' hg => .inr ⟨bm, hne, h', World.ownsMap.kept hm hg (by simp; exact hne)⟩⟩
theorem VocState.sc' {w : World} {C : Nat} {s : ByteArray} {i : Nat} {line : Int} (h : VocState w C s i line) : ∃ d V, Sc w C s i line d V := by
  rcases h with h | ⟨bm, _, h, _⟩
  · exact ⟨0, none, h⟩
  · exact ⟨1, some bm, h⟩
theorem VocState.alloc {w : World} {C : Nat} {s : ByteArray} {i : Nat} {line : Int} (h : VocState w C s i line) (o : Obj) : VocState (w.alloc o) C s i line := by
  obtain ⟨d, V, hs, hk⟩ := h.sc
  exact hk _ _ _ (hs.below ((Below.refl _ _).alloc (Nat.le_refl _) _)) (World.grownBy_alloc _ _ _)

theorem tok_name_yes {l : List UInt8} {i k : Nat} {kd : Int} {line : Int} (hd : digB (l.getD i 0) = false) (hn : isSignC (l.getD i 0) = true) (h : runEnd isSignC l i = k) (hk : nameKindM (cut l i k) = some kd) :
    tokAt l i line = some (⟨kd, cut l i k, 0, line⟩, k) := by
  simp only [tokAt]; rw [if_neg (by rw [hd]; decide), if_pos hn, h, hk]; rfl
theorem tok_name_no {l : List UInt8} {i k : Nat} {line : Int} (hd : digB (l.getD i 0) = false) (hn : isSignC (l.getD i 0) = true) (h : runEnd isSignC l i = k) (hk : nameKindM (cut l i k) = none) : tokAt l i line = none := by
  simp only [tokAt]; rw [if_neg (by rw [hd]; decide), if_pos hn, h, hk]; rfl

theorem VocState.store4 {w : World} {C : Nat} {s : ByteArray} {i : Nat} {line : Int} (h : VocState w C s i line) {b : Nat} (hb : C ≠ b) (hlt : ∀ bm, VocAt w bm → bm ≠ b) (x0 x1 x2 x3 : Value) : VocState ((((w.setCell ⟨b, 0, none⟩ x0).setCell ⟨b, 1, none⟩ x1).setCell ⟨b, 2, none⟩ x2).setCell ⟨b, 3, none⟩ x3) C s i line := by
  rcases h with h | ⟨bm, hne, h, hm⟩
  · exact .inl (Sc.store4 h hb x0 x1 x2 x3)
  · have hbb := hlt bm hm
    exact .inr ⟨bm, hne, Sc.store4 h hb x0 x1 x2 x3, (((World.ownsMap.setCell hm (a := ⟨b, 0, none⟩) hbb x0).setCell (a := ⟨b, 1, none⟩) hbb x1).setCell (a := ⟨b, 2, none⟩) hbb x2).setCell (a := ⟨b, 3, none⟩) hbb x3⟩
/-- A block of cells is no map. -/
theorem voc_not_cells {w : World} {bm b : Nat} {cs : Array Value} {t : TypeId} {fz : Nat × Nat} (h : VocAt w bm) (hb : w.heap[b]? = some (.cells cs t fz)) : bm ≠ b := by
  rintro rfl
  obtain ⟨es, clock, hm, _⟩ := h
  rw [hb] at hm
  cases hm

set_option maxHeartbeats 4000000 in
theorem name_any (C : Nat) (s : ByteArray) (i : Nat) (line : Int) (w : World) (hs : s.size ≤ 4000) (hi : i < s.size) (hd : digB (s.data.toList.getD i 0) = false) (hn : isSignC (s.data.toList.getD i 0) = true) (h : VocState w C s i line) (hT : TabsAt w) (hC0 : C ≠ 0) (hC2 : C ≠ 3) :
    Calls Tryz.prog 90 #[.pointer (some ⟨C, 0, none⟩)] w fun e w' => ∃ tv ok, e = .returned (.tuple #[tv, .bool ok]) ∧ TokRes s.data.toList i line tv ok (runEnd isSignC s.data.toList i) ∧ VocState w' C s (runEnd isSignC s.data.toList i) line ∧ w.grownBy w' (some C) := by
  have HD : Hid (digB (s.data.toList.getD i 0) = false) := hd
  have HN : Hid (isSignC (s.data.toList.getD i 0) = true) := hn
  obtain ⟨d, V, hsc, hkeep⟩ := (h.alloc (.cells #[.int .i64 0, .string ⟨#[]⟩, .int .i64 0, .int .i64 0] 49)).sc
  have hC : C < w.heap.size := by obtain ⟨_, _, h'⟩ := h.sc'; exact h'.lt
  have HLL : Hid (s.data.toList.length = s.size) := by show s.data.toList.length = s.size; simp
  have hle : runEnd isSignC s.data.toList i ≤ s.size := by have := runEnd_le isSignC s.data.toList i (by rw [HLL.out]; omega); rw [HLL.out] at this; exact this
  have hge := runEnd_ge isSignC s.data.toList i
  have hal := all_run isSignC s.data.toList i
  have T0 : Hid (TabsAt (w.alloc (.cells #[.int .i64 0, .string ⟨#[]⟩, .int .i64 0, .int .i64 0] 49))) := tabs_grown hT (World.grownBy_alloc _ _ _) hC0 hC2
  obtain ⟨k, hk⟩ : ∃ k, runEnd isSignC s.data.toList i = k := ⟨_, rfl⟩
  rw [hk] at hle hge hal
  rw [hk]
  have HK : Hid (runEnd isSignC s.data.toList i = k) := hk
  have HAL : Hid ((cut s.data.toList i k).all isSignC = true) := hal
  have H0 : Hid (Sc (w.alloc (.cells #[.int .i64 0, .string ⟨#[]⟩, .int .i64 0, .int .i64 0] 49)) C s i line d V) := hsc
  have HKP : Hid (∀ (w' : World) (k : Nat) (ln : Int), Sc w' C s k ln d V → (w.alloc (.cells #[.int .i64 0, .string ⟨#[]⟩, .int .i64 0, .int .i64 0] 49)).grownBy w' (some C) → VocState w' C s k ln) := hkeep
  clear hd hn h hT hsc hkeep hal hk
  have HEX : Hid (s.extract i k = byteArr (cut s.data.toList i k)) := extract_cut s i k
  have hsz : (s.extract i k).size ≤ maxLen := by rw [ByteArray.size_extract]; unfold maxLen; omega
  go_enter Tryz.func90, Tryz.ntmps90
  go_wp2_with fail
  have htk := take_name C s i line d V _ hs (by omega) H0.out
  rw [HK.out] at htk
  refine htk.mono ?_
  rintro e w1 ⟨rfl, hsc1, hg1⟩
  clear htk
  have HV1 : Hid (VocState w1 C s k line) := HKP.out w1 k line hsc1 hg1
  have HG1 : Hid ((w.alloc (.cells #[.int .i64 0, .string ⟨#[]⟩, .int .i64 0, .int .i64 0] 49)).grownBy w1 (some C)) := hg1
  have T1 : Hid (TabsAt w1) := tabs_grown T0.out hg1 hC0 hC2
  clear hsc1 hg1 HKP H0
  go_wp2_with fail
  refine (kindOf_any C s k line _ _ hsz HV1.out T1.out hC0 hC2).mono ?_
  rintro e w2 ⟨rfl, hv2, hg2⟩
  have HV2 : Hid (VocState w2 C s k line) := hv2
  have HG2 : Hid ((w.alloc (.cells #[.int .i64 0, .string ⟨#[]⟩, .int .i64 0, .int .i64 0] 49)).grownBy w2 (some C)) := grownBy_transT HG1.out hg2
  have K2 : Hid (KeysAt w2) := keysAt_of (tabs_grown T1.out hg2 hC0 hC2).1
  obtain ⟨d2, V2, hsc2⟩ := hv2.sc'
  have c2 := hsc2.cells.2.2.1
  have hne : some w.heap.size ≠ some C := by simp; omega
  have hblk := HG2.out.block w.heap.size (by simp) hne
  have hc2 : ∀ o, w2.cell? ⟨w.heap.size, o, none⟩ = (w.alloc (.cells #[.int .i64 0, .string ⟨#[]⟩, .int .i64 0, .int .i64 0] 49)).cell? ⟨w.heap.size, o, none⟩ := fun o => World.cell?_of_block (a := ⟨w.heap.size, o, none⟩) hblk
  have hf2 : ∀ o, w2.frozen? ⟨w.heap.size, o, none⟩ = (w.alloc (.cells #[.int .i64 0, .string ⟨#[]⟩, .int .i64 0, .int .i64 0] 49)).frozen? ⟨w.heap.size, o, none⟩ := fun o => World.frozen?_of_block (a := ⟨w.heap.size, o, none⟩) hblk
  have hz2 : w.heap.size < w2.heap.size := by have := HG2.out.size; simp at this; omega
  have hCb : C ≠ w.heap.size := by omega
  have HNV : Hid (∀ bm, VocAt w2 bm → bm ≠ w.heap.size) := fun bm hm => voc_not_cells hm (hblk.trans (heap_alloc_new w _))
  have HGA : Hid (w.grownBy w2 (some C)) := grownBy_transT (World.grownBy_alloc _ _ _) HG2.out
  clear hv2 hg2 hsc2 hblk hne HV1 HG1 T1 T0
  have hvb : vocB (s.extract i k) = true ∨ vocB (s.extract i k) = false := by cases vocB (s.extract i k) <;> simp
  rcases hvb with hvb | hvb
  · have hvk : vocK (s.extract i k) = 3 := by unfold vocK; rw [if_pos hvb]
    have HT : Hid (tokAt s.data.toList i line = some (⟨3, cut s.data.toList i k, 0, line⟩, k)) := tok_name_yes HD.out HN.out HK.out (nameKind_yes (by rw [← HEX.out]; exact hvb) HAL.out)
    go_wp2
    refine bodyPost_ret (v := .tuple #[.agg #[.int .i64 3, .string (s.extract i k), .int .i64 0, .int .i64 line], .bool true]) (by simp [results, Tryz.results90, go_sem, hc2]) rfl ⟨_, _, rfl, .inl ⟨rfl, _, HT.out, by rw [HEX.out]; rfl⟩, HV2.out.store4 hCb HNV.out _ _ _ _, grown_store4 HGA.out (Nat.le_refl _) _ _ _ _⟩
  · have hvk : vocK (s.extract i k) = 0 := by unfold vocK; rw [if_neg (by rw [hvb]; decide)]
    have HNK : Hid _ := nameKind_no (t := cut s.data.toList i k) (by rw [← HEX.out]; exact hvb)
    go_wp2_with fail
    refine (nameKind_any _ _ hsz K2.out).mono ?_
    rintro e w3 ⟨⟨kd, ok, rfl, hcs⟩, rfl⟩
    rcases hcs with ⟨ha, rfl, rfl⟩ | ⟨ha, hv, rfl, rfl⟩ | ⟨ha, hv, rfl, rfl⟩
    · have HT : Hid (tokAt s.data.toList i line = some (⟨0, cut s.data.toList i k, 0, line⟩, k)) := tok_name_yes HD.out HN.out HK.out (by rw [HNK.out, ← HEX.out, if_pos ha])
      go_wp2
      refine bodyPost_ret (v := .tuple #[.agg #[.int .i64 0, .string (s.extract i k), .int .i64 0, .int .i64 line], .bool true]) (by simp [results, Tryz.results90, go_sem, hc2]) rfl ⟨_, _, rfl, .inl ⟨rfl, _, HT.out, by rw [HEX.out]; rfl⟩, HV2.out.store4 hCb HNV.out _ _ _ _, grown_store4 HGA.out (Nat.le_refl _) _ _ _ _⟩
    · have HT : Hid (tokAt s.data.toList i line = some (⟨1, cut s.data.toList i k, 0, line⟩, k)) := tok_name_yes HD.out HN.out HK.out (by rw [HNK.out, ← HEX.out, if_neg (by rw [ha]; decide), if_pos hv])
      go_wp2
      refine bodyPost_ret (v := .tuple #[.agg #[.int .i64 1, .string (s.extract i k), .int .i64 0, .int .i64 line], .bool true]) (by simp [results, Tryz.results90, go_sem, hc2]) rfl ⟨_, _, rfl, .inl ⟨rfl, _, HT.out, by rw [HEX.out]; rfl⟩, HV2.out.store4 hCb HNV.out _ _ _ _, grown_store4 HGA.out (Nat.le_refl _) _ _ _ _⟩
    · have HT : Hid (tokAt s.data.toList i line = none) := tok_name_no HD.out HN.out HK.out (by rw [HNK.out, ← HEX.out, if_neg (by rw [ha]; decide), if_neg (by rw [hv]; decide)])
      go_wp2
      refine bodyPost_ret (v := .tuple #[.agg #[.int .i64 0, .string ⟨#[]⟩, .int .i64 0, .int .i64 0], .bool false]) (by simp [results, Tryz.results90, go_sem, hc2]) rfl ⟨_, _, rfl, .inr ⟨rfl, HT.out, rfl⟩, HV2.out.store4 hCb HNV.out _ _ _ _, grown_store4 HGA.out (Nat.le_refl _) _ _ _ _⟩
end Go.Proofs.YtkomkhiinfdfmaaGreatDoor
