/-
  What the specification's Lex answers: the words of a text, and 0; nothing and a line. No conditions but that the text is one.
-/
import Derived.Test.YtkomkhiinfdfmaaGreatDoorSpecLexD
namespace Go.Proofs.YtkomkhiinfdfmaaGreatDoor
open Go.ChangeShapes Go.WideShapes Go.ChangeAt Go.RowKit
set_option linter.unusedVariables false

theorem l01Next_any (s : ByteArray) (i : Nat) (w : World) (hs : s.size ≤ 4000) (hi : i < s.size) :
    Calls Tryz.prog 49 #[.string s, .int .i64 i] w fun e w' => (∃ tv k, e = .returned (.tuple #[tv, .int .i64 k]) ∧ NextIs s.data.toList i tv k) ∧ Below w.heap.size w w' := by
  cases hd : inB (s[i].toNat : Int) 48 57 with
  | true => exact l01Next_digit s i w hs hi hd
  | false =>
    cases hn : signB (s[i].toNat : Int) with
    | true => exact l01Next_name s i w hs hi hd hn
    | false => exact l01Next_sign s i w hs hi hd hn

theorem tokAt_line (l : List UInt8) (i : Nat) (line : Int) : tokAt l i line = (tokAt l i 0).map fun x => (⟨x.1.kind, x.1.text, x.1.n, line⟩, x.2) := by
  unfold tokAt
  simp only
  split
  · split <;> rfl
  · split
    · cases nameKindM (cut l i (runEnd isSignC l i)) <;> rfl
    · split
      · rfl
      · split <;> rfl

/-- The cells of a list of words. -/
def toksC (ts : List Tok) : List Value := ts.flatMap Tok.cells
theorem toksC_length (ts : List Tok) : (toksC ts).length = ts.length * 4 := by
  induction ts with
  | nil => rfl
  | cons t ts ih => simp only [toksC, List.flatMap_cons, List.length_append] at *; rw [ih]; simp [Tok.cells]; omega
theorem toksC_snoc (ts : List Tok) (t : Tok) : toksC (ts ++ [t]) = toksC ts ++ t.cells := by simp [toksC]

theorem infoT : (Tryz.prog.info? 49).map (fun i => (i.zero, i.size, i.bytes)) = some (some (.agg #[.int .i64 0, .string ByteArray.empty, .int .i64 0, .int .i64 0]), 4, 40) := by kernel_rfl

/-- The new cells of an append of one word. -/
theorem tok_cells_at (w : World) (t : Tok) (ty : TypeId) (g : Nat) (hg : g = w.heap.size) : ∀ (j : Nat) (u : Value), t.cells[j]? = some u → (w.alloc (.cells #[.int .i64 t.kind, .string ⟨t.text.toArray⟩, .int .i64 t.n, .int .i64 t.line] ty)).cell? ((⟨g, 0, none⟩ : Addr).add j) = some u := by
  subst hg
  intro j u hj
  match j, hj with
  | 0, hj => simp [Tok.cells] at hj; subst hj; simp [Addr.add]
  | 1, hj => simp [Tok.cells] at hj; subst hj; simp [Addr.add]
  | 2, hj => simp [Tok.cells] at hj; subst hj; simp [Addr.add]
  | 3, hj => simp [Tok.cells] at hj; subst hj; simp [Addr.add]
  | j + 4, hj => simp [Tok.cells] at hj
theorem tok_oneCell (t : Tok) : ∀ u ∈ t.cells, u.oneCell' = true := by
  intro u hu
  simp only [Tok.cells, List.mem_cons, List.not_mem_nil, or_false] at hu
  rcases hu with rfl | rfl | rfl | rfl <;> rfl

theorem gap_37 {s : ByteArray} {i : Nat} {line : Int} (h : i < s.size) (hc : (s[i].toNat : Int) = 37) : gapStep s.data.toList i line = some (runEnd notNl s.data.toList i, line) := by
  unfold gapStep; simp only; rw [getD_byte s i h, if_pos (by omega)]
theorem gap_32 {s : ByteArray} {i : Nat} {line : Int} (h : i < s.size) (hc : (s[i].toNat : Int) = 32) : gapStep s.data.toList i line = some (i + 1, line) := by
  unfold gapStep; simp only; rw [getD_byte s i h, if_neg (by omega), if_pos (by omega)]
theorem gap_10 {s : ByteArray} {i : Nat} {line : Int} (h : i < s.size) (hc : (s[i].toNat : Int) = 10) : gapStep s.data.toList i line = some (i + 1, line + 1) := by
  unfold gapStep; simp only; rw [getD_byte s i h, if_neg (by omega), if_neg (by omega), if_pos (by omega)]
theorem gap_no {s : ByteArray} {i : Nat} {line : Int} (h : i < s.size) (h1 : (s[i].toNat : Int) ≠ 37) (h2 : (s[i].toNat : Int) ≠ 32) (h3 : (s[i].toNat : Int) ≠ 10) : gapStep s.data.toList i line = none := by
  unfold gapStep; simp only; rw [getD_byte s i h, if_neg (by omega), if_neg (by omega), if_neg (by omega)]

set_option maxHeartbeats 2000000 in
theorem specLex_long (s : ByteArray) (w : World) (hs : s.size ≤ maxLen) (hl : ¬ s.size ≤ 4000) :
    Calls Tryz.prog 13 #[.string s] w fun e w' => ∃ v, e = .returned (.tuple #[v, .int .i64 (lexM s.data.toList).2]) ∧ w'.ownsRow w.heap.size 49 4 v (lexM s.data.toList).1.length (toksC (lexM s.data.toList).1) ∧ Below w.heap.size w w' := by
  have e : lexM s.data.toList = ([], 1) := by unfold lexM; rw [if_neg (by simpa using hl)]
  rw [e]
  unfold maxLen at hs
  go_enter Tryz.func13, Tryz.ntmps13
  go_wp2
  go_ret2
  exact ⟨_, rfl, World.ownsRow_lit w #[] 0 (Nat.le_refl _) (Nat.zero_le _) rfl, (Below.refl _ _).alloc (Nat.le_refl _) _⟩

set_option maxRecDepth 100000 in
set_option maxHeartbeats 4000000 in
theorem specLex_short (s : ByteArray) (w : World) (hl : s.size ≤ 4000) :
    Calls Tryz.prog 13 #[.string s] w fun e w' => ∃ v, e = .returned (.tuple #[v, .int .i64 (lexM s.data.toList).2]) ∧ w'.ownsRow w.heap.size 49 4 v (lexM s.data.toList).1.length (toksC (lexM s.data.toList).1) ∧ Below w.heap.size w w' := by
  obtain ⟨i0, hi, hz0, hz1_, hz2⟩ := info_parts infoT
  obtain ⟨R, hR⟩ : ∃ R, R = lexM s.data.toList := ⟨_, rfl⟩
  rw [← hR]
  have e0 : R = lexF s.data.toList (s.data.toList.length + 1) 0 1 [] := by rw [hR]; unfold lexM; rw [if_pos (by simpa using hl)]
  have HLL : Hid (s.data.toList.length = s.size) := by show s.data.toList.length = s.size; simp
  have E0 : Hid (R = lexF s.data.toList (s.data.toList.length + 1) 0 1 []) := e0
  clear hR e0
  go_enter Tryz.func13, Tryz.ntmps13
  go_wp2
  go_loopw [4, 5, 6] (fun v lv iv wr => ∃ (i f : Nat) (line : Int) (acc : List Tok), i ≤ s.size ∧ iv = .int .i64 i ∧ lv = .int .i64 line ∧ 1 ≤ line ∧ line ≤ i + 1 ∧ acc.length ≤ i ∧ s.size - i < f ∧ wr.ownsRow w.heap.size 49 4 v acc.length (toksC acc) ∧ R = lexF s.data.toList f i line acc ∧ Below w.heap.size w wr) (fun _ _ iv _ => s.size - (intOf iv).toNat)
  case atStart => exact ⟨0, s.data.toList.length + 1, 1, [], Nat.zero_le _, rfl, rfl, by omega, by omega, Nat.le_refl _, by rw [HLL.out]; omega, World.ownsRow_lit w #[] 0 (Nat.le_refl _) (Nat.zero_le _) rfl, E0.out, (Below.refl _ _).alloc (Nat.le_refl _) _⟩
  case round =>
    obtain ⟨i, f, line, acc, hi', rfl, rfl, hl1, hl2, hacc, hf, hown, hR, hb⟩ := hrel
    have HR : Hid (R = lexF s.data.toList f i line acc) := hR
    have HB : Hid (Below w.heap.size w wr) := hb
    have HO : Hid (wr.ownsRow w.heap.size 49 4 u4 acc.length (toksC acc)) := hown
    clear hR hb hown
    by_cases hlt : i < s.size
    · obtain ⟨g, rfl⟩ : ∃ g, f = g + 1 := ⟨f - 1, by omega⟩
      have hltl : i < s.data.toList.length := by rw [HLL.out]; exact hlt
      have hbi := byte_lt s i hlt
      by_cases h37 : (s[i].toNat : Int) = 37
      · have h37b : ((s[i].toNat : Int) == 37) = true := by rw [beq_iff_eq]; exact h37
        have hgs := gap_37 (line := line) hlt h37
        have HR' : Hid (R = lexF s.data.toList g (runEnd notNl s.data.toList i) line acc) := HR.out.trans (lexF_gap hltl hgs)
        have HGT : Hid (i < runEnd notNl s.data.toList i) := (gapStep_gt hltl hgs).1
        have HX : Hid ((s[i].toNat : Int) = 37) := h37
        clear hgs HR h37
        go_wp2
        go_loopw [6] (fun kv wr' => ∃ k : Nat, i ≤ k ∧ k ≤ s.size ∧ kv = .int .i64 k ∧ runEnd notNl s.data.toList i = runEnd notNl s.data.toList k ∧ wr' = wr) (fun kv _ => s.size - (intOf kv).toNat)
        case atStart => exact ⟨i, Nat.le_refl _, by omega, rfl, rfl, rfl⟩
        case round =>
          obtain ⟨k, hik, hk, rfl, hrun, rfl⟩ := hrel
          have HK : Hid (runEnd notNl s.data.toList i = runEnd notNl s.data.toList k) := hrun
          clear hrun
          by_cases hkl : k < s.size
          · have hbk := byte_lt s k hkl
            have HGB : Hid (s.data.toList.getD k 0 = s[k]) := getD_byte s k hkl
            by_cases hkc : (s[k].toNat : Int) = 10
            · have hkb : ((s[k].toNat : Int) != 10) = false := by rw [hkc]; rfl
              have hst : runEnd notNl s.data.toList k = k := runEnd_stop _ _ _ (.inr (by rw [HGB.out, notNl]; rw [bne_eq_false_iff_eq]; omega))
              have HKE : Hid (runEnd notNl s.data.toList i = k) := HK.out.trans hst
              have HKC : Hid ((s[k].toNat : Int) = 10) := hkc
              clear hst HK hkc
              go_wp2
              refine ⟨⟨k, g, line, acc, by omega, rfl, rfl, by omega, by omega, by omega, by have := HGT.out; rw [HKE.out] at this; omega, HO.out, by have := HR'.out; rw [HKE.out] at this; exact this, HB.out⟩, ?_⟩
              have := HGT.out; rw [HKE.out] at this; simp only [intOf]; omega
            · have hkb : ((s[k].toNat : Int) != 10) = true := by rw [bne_iff_ne]; exact hkc
              have HS : Hid (runEnd notNl s.data.toList k = runEnd notNl s.data.toList (k + 1)) := runEnd_step _ _ _ (by rw [HLL.out]; exact hkl) (by rw [HGB.out, notNl, bne_iff_ne]; omega)
              have HKC : Hid (¬ (s[k].toNat : Int) = 10) := hkc
              clear hkc
              go_wp2
              refine ⟨⟨k + 1, by omega, by omega, by go_num, HK.out.trans HS.out, (by first | rfl | trivial)⟩, ?_⟩
              simp [intOf]; omega
          · have hst : runEnd notNl s.data.toList k = k := runEnd_stop _ _ _ (.inl (by rw [HLL.out]; omega))
            have HKE : Hid (runEnd notNl s.data.toList i = k) := HK.out.trans hst
            clear hst HK
            go_wp2
            refine ⟨⟨k, g, line, acc, by omega, rfl, rfl, by omega, by omega, by omega, by have := HGT.out; rw [HKE.out] at this; omega, HO.out, by have := HR'.out; rw [HKE.out] at this; exact this, HB.out⟩, ?_⟩
            have := HGT.out; rw [HKE.out] at this; simp only [intOf]; omega
      · have h37b : ((s[i].toNat : Int) == 37) = false := by rw [beq_eq_false_iff_ne]; exact h37
        have H37 : Hid (¬ (s[i].toNat : Int) = 37) := h37
        clear h37
        by_cases h32 : (s[i].toNat : Int) = 32
        · have h32b : ((s[i].toNat : Int) == 32) = true := by rw [beq_iff_eq]; exact h32
          have h10b : ((s[i].toNat : Int) == 10) = false := by rw [beq_eq_false_iff_ne]; omega
          have HR' : Hid (R = lexF s.data.toList g (i + 1) line acc) := HR.out.trans (lexF_gap hltl (gap_32 hlt h32))
          have H32 : Hid ((s[i].toNat : Int) = 32) := h32
          clear HR h32
          go_wp2
          refine ⟨⟨i + 1, g, line, acc, by omega, by go_num, rfl, by omega, by omega, by omega, by omega, HO.out, HR'.out, HB.out⟩, ?_⟩
          simp [intOf]; omega
        · have h32b : ((s[i].toNat : Int) == 32) = false := by rw [beq_eq_false_iff_ne]; exact h32
          have H32 : Hid (¬ (s[i].toNat : Int) = 32) := h32
          clear h32
          by_cases h10 : (s[i].toNat : Int) = 10
          · have h10b : ((s[i].toNat : Int) == 10) = true := by rw [beq_iff_eq]; exact h10
            have HR' : Hid (R = lexF s.data.toList g (i + 1) (line + 1) acc) := HR.out.trans (lexF_gap hltl (gap_10 hlt h10))
            have H10 : Hid ((s[i].toNat : Int) = 10) := h10
            clear HR h10
            go_wp2
            refine ⟨⟨i + 1, g, line + 1, acc, by omega, by go_num, by go_num, by omega, by omega, by omega, by omega, HO.out, HR'.out, HB.out⟩, ?_⟩
            simp [intOf]; omega
          · have h10b : ((s[i].toNat : Int) == 10) = false := by rw [beq_eq_false_iff_ne]; exact h10
            have HNG : Hid (gapStep s.data.toList i line = none) := gap_no hlt H37.out H32.out h10
            clear h10
            go_wp2_with fail
            refine (l01Next_any s i _ hl hlt).mono ?_
            rintro e w1 ⟨⟨tv, k, rfl, hnext⟩, hb1⟩
            have HB1 : Hid (Below wr.heap.size wr w1) := hb1
            have hz1 : wr.heap.size ≤ w1.heap.size := hb1.size
            clear hb1
            rcases hnext with ⟨t, k', ht, rfl, rfl⟩ | ⟨hno, rfl, rfl⟩
            · have htl := tokAt_line s.data.toList i line
              rw [ht] at htl
              have hgt := tokAt_gt hltl htl
              have HR' : Hid (R = lexF s.data.toList g k' line (acc ++ [⟨t.kind, t.text, t.n, line⟩])) := HR.out.trans (lexF_tok hltl HNG.out htl)
              have hk1 : i < k' := hgt.1
              have hk2 : k' ≤ s.size := by have := hgt.2.1; rw [HLL.out] at this; exact this
              clear htl hgt ht HR
              have HO1 : Hid (w1.ownsRow w.heap.size 49 4 u4 acc.length (toksC acc)) := HO.out.kept (row := none) ⟨HB1.out.os, HB1.out.tape, HB1.out.output, HB1.out.size, fun j hj _ => HB1.out.block j hj⟩ (by cases hv : u4.ownBlock with | none => exact .inl rfl | some b => exact .inr (by simp))
              have hwz : w.heap.size ≤ w1.heap.size := Nat.le_trans HB.out.size hz1
              simp only [Tok.agg]
              go_wp2_with (at_builtin; refine wpList_append_own _ rfl _ _ 38 rfl w.heap.size 49 i0 _ 4 40 Tryz.underlying38 hi hz0 hz1_ hz2 rfl (by decide) _ _ _ rfl ((HO1.out.alloc _).alloc _) ⟨w1.heap.size + 1, 0, none⟩ 1 1 (Tok.cells ⟨t.kind, t.text, t.n, line⟩) rfl rfl (tok_cells_at _ ⟨t.kind, t.text, t.n, line⟩ _ _ (by simp)) (tok_oneCell _) (by unfold maxLen; omega) (by omega) (by simp; omega) ?_; intro v' w2 hown' hgr _; have HO2 : Hid _ := hown'; have HG2 : Hid _ := hgr; clear hown' hgr)
              have hown2 : w2.ownsRow w.heap.size 49 4 v' (acc.length + 1) (toksC acc ++ Tok.cells ⟨t.kind, t.text, t.n, line⟩) := HO2.out
              have hbe : Below w.heap.size w w2 := ((((HB.out.trans (HB1.out.mono HB.out.size)).alloc hwz _).alloc (by simp; omega) _)).grown HG2.out (by simp; omega) (fun j hj => (HO1.out.lt j hj).1)
              refine ⟨⟨k', g, line, acc ++ [⟨t.kind, t.text, t.n, line⟩], hk2, rfl, rfl, by omega, by omega, by rw [List.length_append]; simp only [List.length_cons, List.length_nil]; omega, by omega, by rw [toksC_snoc, List.length_append]; exact hown2, HR'.out, hbe⟩, ?_⟩
              simp only [intOf]; omega
            · have htl := tokAt_line s.data.toList i line
              rw [hno] at htl
              have HE : Hid (R = ([], line)) := HR.out.trans (lexF_bad hltl HNG.out htl)
              clear htl hno HR
              go_wp2
              go_ret2
              have hwz : w.heap.size ≤ w1.heap.size := Nat.le_trans HB.out.size hz1
              have ho := World.ownsRow_lit (base := w.heap.size) (e := 49) (size := 4) (w1.alloc (.cells #[.int .i64 0, .string ⟨#[]⟩, .int .i64 0, .int .i64 0] 49)) #[] 0 (by simp; omega) (Nat.zero_le _) rfl
              have hbe : Below w.heap.size w ((w1.alloc (.cells #[.int .i64 0, .string ⟨#[]⟩, .int .i64 0, .int .i64 0] 49)).alloc (.cells #[] 49)) := (((HB.out.trans (HB1.out.mono HB.out.size)).alloc hwz _).alloc (by simp; omega) _)
              exact ⟨.slice (some ⟨w1.heap.size + 1, 0, none⟩) 0 0, by rw [HE.out]; rfl, by rw [HE.out]; simpa [toksC] using ho, hbe⟩
    · have hend := lexF_end (l := s.data.toList) (f := f) (i := i) (line := line) (acc := acc) (by rw [HLL.out]; exact hlt)
      have HE : Hid (R = (acc, 0)) := HR.out.trans hend
      clear hend HR
      go_wp2
      go_ret2
      exact ⟨u4, by rw [HE.out]; rfl, by rw [HE.out]; exact HO.out, HB.out⟩

theorem specLex_any (s : ByteArray) (w : World) (hs : s.size ≤ maxLen) :
    Calls Tryz.prog 13 #[.string s] w fun e w' => ∃ v, e = .returned (.tuple #[v, .int .i64 (lexM s.data.toList).2]) ∧ w'.ownsRow w.heap.size 49 4 v (lexM s.data.toList).1.length (toksC (lexM s.data.toList).1) ∧ Below w.heap.size w w' := by
  by_cases hl : s.size ≤ 4000
  · exact specLex_short s w hl
  · exact specLex_long s w hs hl
end Go.Proofs.YtkomkhiinfdfmaaGreatDoor
