/-
  Texts of the proof, packed: ModOkImplA, ModOkRefs.
-/
import Derived.Test.YtoknolophmhlgaaGreatDoorPackA
import Derived.Test.YtoknolophmhlgaaGreatDoorPackB
import Derived.Test.YtoknolophmhlgaaGreatDoorPackC
/-
  The program's ModuleOk, by contract: an expression's own parts.
-/
namespace Go.Proofs.YtoknolophmhlgaaGreatDoor
open Go.ChangeShapes Go.WideShapes Go.ChangeAt Go.RowKit
set_option linter.unusedVariables false

/-- The table of what a kind has lies as its initialiser lays it. -/
def ShapesAt (w : World) : Prop :=
  ∀ k : Nat, k < 11 → w.cell? ⟨2, k * 5, none⟩ = some (.int .i64 (txtK k)) ∧ w.cell? ⟨2, k * 5 + 1, none⟩ = some (.int .i64 (kidLo k)) ∧ w.cell? ⟨2, k * 5 + 2, none⟩ = some (.int .i64 (kidHi k)) ∧
    w.cell? ⟨2, k * 5 + 3, none⟩ = some (.int .i64 (clsLo k)) ∧ w.cell? ⟨2, k * 5 + 4, none⟩ = some (.int .i64 (clsHi k))
structure Tabs (w : World) : Prop where
  keys : KeysAt w
  shapes : ShapesAt w
theorem Tabs.below {w w' : World} (h : Tabs w) (hb : Below w.heap.size w w') : Tabs w' :=
  ⟨⟨cell_next hb h.keys.1, cell_next hb h.keys.2.1, cell_next hb h.keys.2.2⟩, fun k hk => by
    obtain ⟨a, b, c, d, e⟩ := h.shapes k hk
    exact ⟨cell_next hb a, cell_next hb b, cell_next hb c, cell_next hb d, cell_next hb e⟩⟩

theorem withinM_any (a b c : Int) (w : World) : Calls Tryz.prog 39 #[.int .i64 a, .int .i64 b, .int .i64 c] w fun e w' => e = .returned (.bool (inB a b c)) ∧ w' = w := by
  by_cases h1 : b ≤ a <;> by_cases h2 : a ≤ c
  all_goals
    go_enter Tryz.func39, Tryz.ntmps39
    go_wp2
    go_ret
    exact ⟨by simp [inB, h1, h2], rfl⟩

theorem isOp_any (t : ByteArray) (w : World) : Calls Tryz.prog 145 #[.string t] w fun e w' => e = .returned (.bool (opB t)) ∧ w' = w := by
  cases h0 : (t.toList == [61, 61]) <;> cases h1 : (t.toList == [60]) <;> cases h2 : (t.toList == [43]) <;> cases h3 : (t.toList == [45]) <;> cases h4 : (t.toList == [42])
  all_goals
    go_enter Tryz.func145, Tryz.ntmps145
    go_wp2
    go_ret
    exact ⟨by simp [opB, h0, h1, h2, h3, h4], rfl⟩

theorem textOk_any (k : Int) (t : ByteArray) (w : World) (hts : t.size ≤ maxLen) (hk : KeysAt w) : Calls Tryz.prog 142 #[.int .i64 k, .string t] w fun e w' => e = .returned (.bool (tkB k t)) ∧ w' = w := by
  have HK : Hid (KeysAt w) := hk
  clear hk
  by_cases k1 : k = 1
  · subst k1
    go_enter Tryz.func142, Tryz.ntmps142
    go_wp2_with (go_at_call 57; go_must (refine (implAtomOk_any _ _ hts HK.out).mono ?_; rintro e w' ⟨rfl, rfl⟩))
    go_ret
    exact ⟨by simp [tkB], rfl⟩
  by_cases k2 : k = 2
  · subst k2
    go_enter Tryz.func142, Tryz.ntmps142
    go_wp2_with (go_at_call 144; go_must (refine (implVarOk_any _ _ hts).mono ?_; rintro e w' ⟨rfl, rfl⟩))
    go_ret
    exact ⟨by simp [tkB], rfl⟩
  by_cases k3 : k = 3
  · subst k3
    go_enter Tryz.func142, Tryz.ntmps142
    go_wp2_with (go_at_call 145; go_must (refine (isOp_any _ _).mono ?_; rintro e w' ⟨rfl, rfl⟩))
    go_ret
    exact ⟨by simp [tkB], rfl⟩
  · have HS : Hid (tkB k t = t.toList.isEmpty) := by show _ = _; rw [Bool.eq_iff_iff]; simp [tkB, k1, k2, k3]
    go_enter Tryz.func142, Tryz.ntmps142
    go_wp2
    go_ret
    exact ⟨by rw [HS.out]; rfl, rfl⟩

theorem numberOk_any (k n : Int) (t m : ByteArray) (p q : Option Addr) (nk c nc c' : Nat) (w : World) : Calls Tryz.prog 140 #[.agg #[.int .i64 k, .int .i64 n, .string t, .string m, .slice p nk c, .slice q nc c']] w fun e w' => e = .returned (.bool (numB k n)) ∧ Below w.heap.size w w' := by
  have BL : Hid (Below w.heap.size w (w.alloc (.cells #[.int .i64 k, .int .i64 n, .string t, .string m, .slice p nk c, .slice q nc c'] 73))) := (Below.refl _ _).alloc (Nat.le_refl _) _
  by_cases k0 : k = 0
  · subst k0
    go_enter Tryz.func140, Tryz.ntmps140
    go_wp2_with (go_at_call 39; go_must (refine (withinM_any _ _ _ _).mono ?_; rintro e w' ⟨rfl, rfl⟩))
    go_ret
    exact ⟨by simp [numB], BL.out⟩
  · have HS : Hid (numB k n = (n == 0)) := by show _ = _; rw [Bool.eq_iff_iff]; simp [numB, k0]
    go_enter Tryz.func140, Tryz.ntmps140
    go_wp2
    go_ret
    exact ⟨by rw [HS.out]; rfl, BL.out⟩

theorem modOk_any (k n : Int) (t m : ByteArray) (p q : Option Addr) (nk c nc c' : Nat) (w : World) (hms : m.size ≤ maxLen) (hk : KeysAt w) : Calls Tryz.prog 141 #[.agg #[.int .i64 k, .int .i64 n, .string t, .string m, .slice p nk c, .slice q nc c']] w fun e w' => e = .returned (.bool (modB k m)) ∧ Below w.heap.size w w' := by
  have BL : Hid (Below w.heap.size w (w.alloc (.cells #[.int .i64 k, .int .i64 n, .string t, .string m, .slice p nk c, .slice q nc c'] 73))) := (Below.refl _ _).alloc (Nat.le_refl _) _
  have HK : Hid (KeysAt (w.alloc (.cells #[.int .i64 k, .int .i64 n, .string t, .string m, .slice p nk c, .slice q nc c'] 73))) := ⟨cell_next BL.out hk.1, cell_next BL.out hk.2.1, cell_next BL.out hk.2.2⟩
  clear hk
  by_cases hm : m.toList = []
  · have hm2 : (m.toList == []) = true := by simpa using hm
    have HS : Hid (modB k m = true) := by show _ = _; simp [modB, hm]
    clear hm
    go_enter Tryz.func141, Tryz.ntmps141
    go_wp2
    go_ret
    exact ⟨by rw [HS.out]; rfl, BL.out⟩
  · have hm2 : (m.toList == []) = false := by simpa using hm
    by_cases k8 : k = 8
    · subst k8
      have HS : Hid (modB 8 m = atomB m) := by show _ = _; simp [modB, hm]
      clear hm
      go_enter Tryz.func141, Tryz.ntmps141
      go_wp2_with (go_at_call 57; go_must (refine (implAtomOk_any _ _ hms HK.out).mono ?_; rintro e w' ⟨rfl, rfl⟩))
      go_ret
      exact ⟨by rw [HS.out]; rfl, BL.out⟩
    · have HS : Hid (modB k m = false) := by show _ = _; simp [modB, hm, k8]
      clear hm
      go_enter Tryz.func141, Tryz.ntmps141
      go_wp2
      go_ret
      exact ⟨by rw [HS.out]; rfl, BL.out⟩

set_option maxHeartbeats 8000000 in
set_option maxRecDepth 100000 in
theorem partsOk_any (k n : Int) (t m : ByteArray) (p q : Option Addr) (nk c nc c' : Nat) (w : World) (hts : t.size ≤ maxLen) (hms : m.size ≤ maxLen) (hnk : nk ≤ 9223372036854775807) (hnc : nc ≤ 9223372036854775807) (hT : Tabs w) :
    Calls Tryz.prog 132 #[.agg #[.int .i64 k, .int .i64 n, .string t, .string m, .slice p nk c, .slice q nc c']] w fun e w' => e = .returned (.bool (plainB k n t m nk nc)) ∧ Below w.heap.size w w' := by
  have HT : Hid (Tabs w) := hT
  clear hT
  by_cases hr : 0 ≤ k ∧ k ≤ 10
  · obtain ⟨kn, rfl⟩ : ∃ kn : Nat, k = kn := ⟨k.toNat, by omega⟩
    have hkn : kn < 11 := by omega
    have hki : (kn : Int) < 11 := by omega
    have hk0 : (0 : Int) ≤ (kn : Int) := by omega
    have hin : inB (kn : Int) 0 10 = true := by simp [inB]; omega
    clear hr
    have BL : Hid (Below w.heap.size w (w.alloc (.cells #[.int .i64 (kn : Int), .int .i64 n, .string t, .string m, .slice p nk c, .slice q nc c'] 73))) := (Below.refl _ _).alloc (Nat.le_refl _) _
    have BM : Hid (Below w.heap.size w ((w.alloc (.cells #[.int .i64 (kn : Int), .int .i64 n, .string t, .string m, .slice p nk c, .slice q nc c'] 73)).alloc (.cells #[.int .i64 (txtK kn), .int .i64 (kidLo kn), .int .i64 (kidHi kn), .int .i64 (clsLo kn), .int .i64 (clsHi kn)] 181))) := BL.out.alloc BL.out.size _
    obtain ⟨s0, s1, s2, s3, s4⟩ := (HT.out.below BL.out).shapes kn hkn
    have HP : Hid (plainB kn n t m nk nc = (numB kn n && (modB kn m && (tkB (txtK kn) t && (inB nk (kidLo kn) (kidHi kn) && inB nc (clsLo kn) (clsHi kn)))))) := by show _ = _; simp [plainB, hin, txtB]
    cases h1 : numB kn n with
    | false =>
      go_enter Tryz.func132, Tryz.ntmps132
      go_wp2_with (first | (go_at_call 39; go_must (refine (withinM_any _ _ _ _).mono ?_; rintro e w9 ⟨rfl, rfl⟩; rw [hin])))
      refine (numberOk_any _ _ _ _ _ _ _ _ _ _ _).mono ?_
      rintro e w2 ⟨rfl, hb2⟩
      rw [h1]
      have B2 : Hid (Below w.heap.size w w2) := BM.out.trans (hb2.mono BM.out.size)
      go_wp2
      go_ret
      exact ⟨by rw [HP.out, h1]; simp, B2.out⟩
    | true =>
      cases h2 : modB kn m with
      | false =>
        go_enter Tryz.func132, Tryz.ntmps132
        go_wp2_with (first | (go_at_call 39; go_must (refine (withinM_any _ _ _ _).mono ?_; rintro e w9 ⟨rfl, rfl⟩; rw [hin])))
        refine (numberOk_any _ _ _ _ _ _ _ _ _ _ _).mono ?_
        rintro e w2 ⟨rfl, hb2⟩
        rw [h1]
        have B2 : Hid (Below w.heap.size w w2) := BM.out.trans (hb2.mono BM.out.size)
        have g1 : Hid (Blk w2 w.heap.size #[.int .i64 (kn : Int), .int .i64 n, .string t, .string m, .slice p nk c, .slice q nc c'] 73) := ((Blk.new (w := w)).alloc).next hb2
        have g2 : Hid (Blk w2 (w.heap.size + 1) #[.int .i64 (txtK kn), .int .i64 (kidLo kn), .int .i64 (kidHi kn), .int .i64 (clsLo kn), .int .i64 (clsHi kn)] 181) := by
          have := (Blk.new (w := (w.alloc (.cells #[.int .i64 (kn : Int), .int .i64 n, .string t, .string m, .slice p nk c, .slice q nc c'] 73))) (cs := #[.int .i64 (txtK kn), .int .i64 (kidLo kn), .int .i64 (kidHi kn), .int .i64 (clsLo kn), .int .i64 (clsHi kn)]) (t := 181)).next hb2
          simp only [alloc_hs] at this
          exact this
        have a0 := g1.out.cell 0 _ rfl
        have a1 := g1.out.cell 1 _ rfl
        have a2 := g1.out.cell 2 _ rfl
        have a3 := g1.out.cell 3 _ rfl
        have a4 := g1.out.cell 4 _ rfl
        have a5 := g1.out.cell 5 _ rfl
        clear hb2 s0 s1 s2 s3 s4
        go_wp2_with fail
        refine (modOk_any _ _ _ _ _ _ _ _ _ _ _ hms (HT.out.below B2.out).keys).mono ?_
        rintro e w3 ⟨rfl, hb3⟩
        rw [h2]
        have B3 : Hid (Below w.heap.size w w3) := B2.out.trans (hb3.mono B2.out.size)
        go_wp2
        go_ret
        exact ⟨by rw [HP.out, h1, h2]; simp, B3.out⟩
      | true =>
        cases h3 : tkB (txtK kn) t with
        | false =>
          go_enter Tryz.func132, Tryz.ntmps132
          go_wp2_with (first | (go_at_call 39; go_must (refine (withinM_any _ _ _ _).mono ?_; rintro e w9 ⟨rfl, rfl⟩; rw [hin])))
          refine (numberOk_any _ _ _ _ _ _ _ _ _ _ _).mono ?_
          rintro e w2 ⟨rfl, hb2⟩
          rw [h1]
          have B2 : Hid (Below w.heap.size w w2) := BM.out.trans (hb2.mono BM.out.size)
          have g1 : Hid (Blk w2 w.heap.size #[.int .i64 (kn : Int), .int .i64 n, .string t, .string m, .slice p nk c, .slice q nc c'] 73) := ((Blk.new (w := w)).alloc).next hb2
          have g2 : Hid (Blk w2 (w.heap.size + 1) #[.int .i64 (txtK kn), .int .i64 (kidLo kn), .int .i64 (kidHi kn), .int .i64 (clsLo kn), .int .i64 (clsHi kn)] 181) := by
            have := (Blk.new (w := (w.alloc (.cells #[.int .i64 (kn : Int), .int .i64 n, .string t, .string m, .slice p nk c, .slice q nc c'] 73))) (cs := #[.int .i64 (txtK kn), .int .i64 (kidLo kn), .int .i64 (kidHi kn), .int .i64 (clsLo kn), .int .i64 (clsHi kn)]) (t := 181)).next hb2
            simp only [alloc_hs] at this
            exact this
          have a0 := g1.out.cell 0 _ rfl
          have a1 := g1.out.cell 1 _ rfl
          have a2 := g1.out.cell 2 _ rfl
          have a3 := g1.out.cell 3 _ rfl
          have a4 := g1.out.cell 4 _ rfl
          have a5 := g1.out.cell 5 _ rfl
          clear hb2 s0 s1 s2 s3 s4
          go_wp2_with fail
          refine (modOk_any _ _ _ _ _ _ _ _ _ _ _ hms (HT.out.below B2.out).keys).mono ?_
          rintro e w3 ⟨rfl, hb3⟩
          rw [h2]
          have B3 : Hid (Below w.heap.size w w3) := B2.out.trans (hb3.mono B2.out.size)
          have g3 := g1.out.next hb3
          have g4 := g2.out.next hb3
          clear a0 a1 a2 a3 a4 a5
          have a0 := g3.cell 0 _ rfl
          have a1 := g3.cell 1 _ rfl
          have a2 := g3.cell 2 _ rfl
          have a3 := g3.cell 3 _ rfl
          have a4 := g3.cell 4 _ rfl
          have a5 := g3.cell 5 _ rfl
          have b0 := g4.cell 0 _ rfl
          have b1 := g4.cell 1 _ rfl
          have b2 := g4.cell 2 _ rfl
          have b3 := g4.cell 3 _ rfl
          have b4 := g4.cell 4 _ rfl
          clear hb3 g3 g4
          go_wp2_with (first | (go_at_call 142; go_must (refine (textOk_any _ _ _ hts (HT.out.below B3.out).keys).mono ?_; rintro e w9 ⟨rfl, rfl⟩; rw [h3])))
          go_ret
          exact ⟨by rw [HP.out, h1, h2, h3]; simp, B3.out⟩
        | true =>
          cases h4 : inB nk (kidLo kn) (kidHi kn) with
          | false =>
            go_enter Tryz.func132, Tryz.ntmps132
            go_wp2_with (first | (go_at_call 39; go_must (refine (withinM_any _ _ _ _).mono ?_; rintro e w9 ⟨rfl, rfl⟩; rw [hin])))
            refine (numberOk_any _ _ _ _ _ _ _ _ _ _ _).mono ?_
            rintro e w2 ⟨rfl, hb2⟩
            rw [h1]
            have B2 : Hid (Below w.heap.size w w2) := BM.out.trans (hb2.mono BM.out.size)
            have g1 : Hid (Blk w2 w.heap.size #[.int .i64 (kn : Int), .int .i64 n, .string t, .string m, .slice p nk c, .slice q nc c'] 73) := ((Blk.new (w := w)).alloc).next hb2
            have g2 : Hid (Blk w2 (w.heap.size + 1) #[.int .i64 (txtK kn), .int .i64 (kidLo kn), .int .i64 (kidHi kn), .int .i64 (clsLo kn), .int .i64 (clsHi kn)] 181) := by
              have := (Blk.new (w := (w.alloc (.cells #[.int .i64 (kn : Int), .int .i64 n, .string t, .string m, .slice p nk c, .slice q nc c'] 73))) (cs := #[.int .i64 (txtK kn), .int .i64 (kidLo kn), .int .i64 (kidHi kn), .int .i64 (clsLo kn), .int .i64 (clsHi kn)]) (t := 181)).next hb2
              simp only [alloc_hs] at this
              exact this
            have a0 := g1.out.cell 0 _ rfl
            have a1 := g1.out.cell 1 _ rfl
            have a2 := g1.out.cell 2 _ rfl
            have a3 := g1.out.cell 3 _ rfl
            have a4 := g1.out.cell 4 _ rfl
            have a5 := g1.out.cell 5 _ rfl
            clear hb2 s0 s1 s2 s3 s4
            go_wp2_with fail
            refine (modOk_any _ _ _ _ _ _ _ _ _ _ _ hms (HT.out.below B2.out).keys).mono ?_
            rintro e w3 ⟨rfl, hb3⟩
            rw [h2]
            have B3 : Hid (Below w.heap.size w w3) := B2.out.trans (hb3.mono B2.out.size)
            have g3 := g1.out.next hb3
            have g4 := g2.out.next hb3
            clear a0 a1 a2 a3 a4 a5
            have a0 := g3.cell 0 _ rfl
            have a1 := g3.cell 1 _ rfl
            have a2 := g3.cell 2 _ rfl
            have a3 := g3.cell 3 _ rfl
            have a4 := g3.cell 4 _ rfl
            have a5 := g3.cell 5 _ rfl
            have b0 := g4.cell 0 _ rfl
            have b1 := g4.cell 1 _ rfl
            have b2 := g4.cell 2 _ rfl
            have b3 := g4.cell 3 _ rfl
            have b4 := g4.cell 4 _ rfl
            clear hb3 g3 g4
            go_wp2_with (first | (go_at_call 142; go_must (refine (textOk_any _ _ _ hts (HT.out.below B3.out).keys).mono ?_; rintro e w9 ⟨rfl, rfl⟩; rw [h3])) | (go_at_call_of 39 (kidLo kn); go_must (refine (withinM_any _ _ _ _).mono ?_; rintro e w9 ⟨rfl, rfl⟩; rw [h4])))
            go_ret
            exact ⟨by rw [HP.out, h1, h2, h3, h4]; simp, B3.out⟩
          | true =>
            go_enter Tryz.func132, Tryz.ntmps132
            go_wp2_with (first | (go_at_call 39; go_must (refine (withinM_any _ _ _ _).mono ?_; rintro e w9 ⟨rfl, rfl⟩; rw [hin])))
            refine (numberOk_any _ _ _ _ _ _ _ _ _ _ _).mono ?_
            rintro e w2 ⟨rfl, hb2⟩
            rw [h1]
            have B2 : Hid (Below w.heap.size w w2) := BM.out.trans (hb2.mono BM.out.size)
            have g1 : Hid (Blk w2 w.heap.size #[.int .i64 (kn : Int), .int .i64 n, .string t, .string m, .slice p nk c, .slice q nc c'] 73) := ((Blk.new (w := w)).alloc).next hb2
            have g2 : Hid (Blk w2 (w.heap.size + 1) #[.int .i64 (txtK kn), .int .i64 (kidLo kn), .int .i64 (kidHi kn), .int .i64 (clsLo kn), .int .i64 (clsHi kn)] 181) := by
              have := (Blk.new (w := (w.alloc (.cells #[.int .i64 (kn : Int), .int .i64 n, .string t, .string m, .slice p nk c, .slice q nc c'] 73))) (cs := #[.int .i64 (txtK kn), .int .i64 (kidLo kn), .int .i64 (kidHi kn), .int .i64 (clsLo kn), .int .i64 (clsHi kn)]) (t := 181)).next hb2
              simp only [alloc_hs] at this
              exact this
            have a0 := g1.out.cell 0 _ rfl
            have a1 := g1.out.cell 1 _ rfl
            have a2 := g1.out.cell 2 _ rfl
            have a3 := g1.out.cell 3 _ rfl
            have a4 := g1.out.cell 4 _ rfl
            have a5 := g1.out.cell 5 _ rfl
            clear hb2 s0 s1 s2 s3 s4
            go_wp2_with fail
            refine (modOk_any _ _ _ _ _ _ _ _ _ _ _ hms (HT.out.below B2.out).keys).mono ?_
            rintro e w3 ⟨rfl, hb3⟩
            rw [h2]
            have B3 : Hid (Below w.heap.size w w3) := B2.out.trans (hb3.mono B2.out.size)
            have g3 := g1.out.next hb3
            have g4 := g2.out.next hb3
            clear a0 a1 a2 a3 a4 a5
            have a0 := g3.cell 0 _ rfl
            have a1 := g3.cell 1 _ rfl
            have a2 := g3.cell 2 _ rfl
            have a3 := g3.cell 3 _ rfl
            have a4 := g3.cell 4 _ rfl
            have a5 := g3.cell 5 _ rfl
            have b0 := g4.cell 0 _ rfl
            have b1 := g4.cell 1 _ rfl
            have b2 := g4.cell 2 _ rfl
            have b3 := g4.cell 3 _ rfl
            have b4 := g4.cell 4 _ rfl
            clear hb3 g3 g4
            go_wp2_with (first | (go_at_call 142; go_must (refine (textOk_any _ _ _ hts (HT.out.below B3.out).keys).mono ?_; rintro e w9 ⟨rfl, rfl⟩; rw [h3])) | (go_at_call_of 39 (kidLo kn); go_must (refine (withinM_any _ _ _ _).mono ?_; rintro e w9 ⟨rfl, rfl⟩; rw [h4])) | (go_at_call_of 39 (clsLo kn); go_must (refine (withinM_any _ _ _ _).mono ?_; rintro e w9 ⟨rfl, rfl⟩)))
            go_ret
            exact ⟨by rw [HP.out, h1, h2, h3, h4]; simp, B3.out⟩
  · have hin : inB k 0 10 = false := by simp [inB]; omega
    have BL : Hid (Below w.heap.size w (w.alloc (.cells #[.int .i64 k, .int .i64 n, .string t, .string m, .slice p nk c, .slice q nc c'] 73))) := (Below.refl _ _).alloc (Nat.le_refl _) _
    clear hr
    go_enter Tryz.func132, Tryz.ntmps132
    go_wp2_with (first | (go_at_call 39; go_must (refine (withinM_any _ _ _ _).mono ?_; rintro e w9 ⟨rfl, rfl⟩; rw [hin])))
    go_ret
    exact ⟨by simp [plainB, hin], BL.out⟩
end Go.Proofs.YtoknolophmhlgaaGreatDoor
/-
  The program's and the specification's ModuleOk, by contract: names with their numbers.
-/
namespace Go.Proofs.YtoknolophmhlgaaGreatDoor
open Go.ChangeShapes Go.WideShapes Go.ChangeAt Go.RowKit
set_option linter.unusedVariables false

def cmpRf (a b : Rf) : Int := or2 (cmpS a.name b.name) (cmpI a.arity b.arity)
def lessB (a b : Rf) : Bool := decide (cmpRf a b < 0)
def refB (r : Rf) : Bool := atomB r.name && inB r.arity 0 6
def sameR (r : Rf) (f : Fn') : Bool := f.name.toList == r.name.toList && f.arity == r.arity

set_option maxHeartbeats 2000000 in
theorem l02Less_any (a b : Rf) (w : World) : Calls Tryz.prog 51 #[.agg #[.string a.name, .int .i64 a.arity], .agg #[.string b.name, .int .i64 b.arity]] w fun e w' => e = .returned (.bool (lessB a b)) ∧ Below w.heap.size w w' := by
  obtain ⟨s, m⟩ := a
  obtain ⟨t, n⟩ := b
  have BL : Hid (Below w.heap.size w ((w.alloc (.cells #[.string s, .int .i64 m] 88)).alloc (.cells #[.string t, .int .i64 n] 88))) := ((Below.refl _ _).alloc (Nat.le_refl _) _).alloc (by simp) _
  simp only
  cases hb : Op.bytesLess s.toList t.toList with
  | true =>
    have HS : Hid (lessB ⟨s, m⟩ ⟨t, n⟩ = true) := by show _ = _; simp [lessB, cmpRf, or2, cmpS_lt hb]
    go_enter Tryz.func51, Tryz.ntmps51
    go_wp2
    go_ret
    exact ⟨by rw [HS.out]; rfl, BL.out⟩
  | false =>
    by_cases he : s = t
    · subst he
      have HS : Hid (lessB ⟨s, m⟩ ⟨s, n⟩ = decide (m < n)) := by
        show _ = _
        simp only [lessB, cmpRf, or2, cmpS_self, if_true, cmpI]
        by_cases h1 : m < n
        · simp [h1]
        · by_cases h2 : n < m <;> simp [h1, h2]
      go_enter Tryz.func51, Tryz.ntmps51
      go_wp2
      go_ret
      exact ⟨by rw [HS.out]; rfl, BL.out⟩
    · have HS : Hid (lessB ⟨s, m⟩ ⟨t, n⟩ = false) := by show _ = _; simp [lessB, cmpRf, or2, cmpS_gt hb he]
      have hq1 := str_ne he
      have hq2 := str_neB he
      go_enter Tryz.func51, Tryz.ntmps51
      go_wp2
      go_ret
      exact ⟨by rw [HS.out]; rfl, BL.out⟩

set_option maxHeartbeats 4000000 in
theorem compareRef_any (a b : Rf) (w : World) : Calls Tryz.prog 79 #[.agg #[.string a.name, .int .i64 a.arity], .agg #[.string b.name, .int .i64 b.arity]] w fun e w' => e = .returned (.int .i64 (cmpRf a b)) ∧ Below w.heap.size w w' := by
  obtain ⟨s, m⟩ := a
  obtain ⟨t, n⟩ := b
  simp only
  obtain ⟨W2, hW2⟩ : ∃ W2, W2 = (w.alloc (.cells #[.string s, .int .i64 m] 88)).alloc (.cells #[.string t, .int .i64 n] 88) := ⟨_, rfl⟩
  have bA : Hid (Blk W2 w.heap.size #[.string s, .int .i64 m] 88) := by show Blk _ _ _ _; rw [hW2]; exact Blk.new.alloc
  have bB : Hid (Blk W2 (w.heap.size + 1) #[.string t, .int .i64 n] 88) := by
    show Blk _ _ _ _
    rw [hW2]
    have := Blk.new (w := w.alloc (.cells #[.string s, .int .i64 m] 88)) (cs := #[.string t, .int .i64 n]) (t := 88)
    rwa [alloc_hs] at this
  have HAL : Hid (Below w.heap.size w W2) := by show Below _ _ _; rw [hW2]; exact ((Below.refl _ _).alloc (Nat.le_refl _) _).alloc (by simp) _
  have HW2 : Hid (W2 = (w.alloc (.cells #[.string s, .int .i64 m] 88)).alloc (.cells #[.string t, .int .i64 n] 88)) := hW2
  clear hW2
  have a0 := bA.out.cell 0 _ rfl
  have a1 := bA.out.cell 1 _ rfl
  have b0 := bB.out.cell 0 _ rfl
  have b1 := bB.out.cell 1 _ rfl
  generalize ho : or2 (cmpS s t) (cmpI m n) = o
  have HO : Hid (or2 (cmpS s t) (cmpI m n) = o) := ho
  have HS : Hid (cmpRf ⟨s, m⟩ ⟨t, n⟩ = o) := ho
  clear ho
  go_enter Tryz.func79, Tryz.ntmps79
  go_wp2_with fail
  rw [← HW2.out]
  go_region_held3 (fun w' => w'.cell? ⟨w.heap.size, 0, none⟩ = some (.string s) ∧ w'.cell? ⟨w.heap.size, 1, none⟩ = some (.int .i64 m) ∧ w'.cell? ⟨w.heap.size + 1, 0, none⟩ = some (.string t) ∧ w'.cell? ⟨w.heap.size + 1, 1, none⟩ = some (.int .i64 n))
    (first | go_keep)
    (first
      | (go_at_call 95; refine (cmpInt_any _ _ _).mono ?_; rintro e w' ⟨rfl, rfl⟩)
      | (go_at_call 94; refine (stringsCompare_any _ _ _).mono ?_; rintro e w' ⟨rfl, rfl⟩)
      | (go_at_call 93; refine (cmpOr2_any (cmpS s t) (cmpI m n) _ _ (by exact cell_new _ _ _ 0 _ rfl) (by exact cell_new _ _ _ 1 _ rfl)).mono ?_; rintro e w' ⟨rfl, rfl⟩; rw [HO.out]))
  go_split_ands
  have K3 : Below W2.heap.size W2 ((W2.alloc (.cells #[.int .i64 (cmpS s t), .int .i64 (cmpI m n)] 3)).drew) := ((Below.refl _ _).alloc (Nat.le_refl _) _).drew
  have HB3 : Hid (Below w.heap.size w ((W2.alloc (.cells #[.int .i64 (cmpS s t), .int .i64 (cmpI m n)] 3)).drew)) := HAL.out.trans (K3.mono HAL.out.size)
  clear K3
  go_wp2
  go_ret
  exact ⟨by rw [HS.out]; rfl, HB3.out⟩

theorem refOk_any (r : Rf) (w : World) (hs : r.name.size ≤ maxLen) (hk : KeysAt w) : Calls Tryz.prog 78 #[.agg #[.string r.name, .int .i64 r.arity]] w fun e w' => e = .returned (.bool (refB r)) ∧ Below w.heap.size w w' := by
  obtain ⟨s, n⟩ := r
  simp only at *
  have BL : Hid (Below w.heap.size w (w.alloc (.cells #[.string s, .int .i64 n] 88))) := (Below.refl _ _).alloc (Nat.le_refl _) _
  have HK : Hid (KeysAt (w.alloc (.cells #[.string s, .int .i64 n] 88))) := ⟨cell_next BL.out hk.1, cell_next BL.out hk.2.1, cell_next BL.out hk.2.2⟩
  clear hk
  cases ha : atomB s with
  | true =>
    go_enter Tryz.func78, Tryz.ntmps78
    go_wp2_with (first | (go_at_call 57; go_must (refine (implAtomOk_any _ _ hs HK.out).mono ?_; rintro e w' ⟨rfl, rfl⟩; rw [ha])) | (go_at_call 39; go_must (refine (withinM_any _ _ _ _).mono ?_; rintro e w' ⟨rfl, rfl⟩)))
    go_ret
    exact ⟨by simp [refB, ha], BL.out⟩
  | false =>
    go_enter Tryz.func78, Tryz.ntmps78
    go_wp2_with (first | (go_at_call 57; go_must (refine (implAtomOk_any _ _ hs HK.out).mono ?_; rintro e w' ⟨rfl, rfl⟩; rw [ha])))
    go_ret
    exact ⟨by simp [refB, ha], BL.out⟩

theorem refOf_any (s : ByteArray) (n : Int) (p : Option Addr) (l c : Nat) (w : World) : Calls Tryz.prog 60 #[.agg #[.string s, .int .i64 n, .slice p l c]] w fun e w' => e = .returned (.agg #[.string s, .int .i64 n]) ∧ Below w.heap.size w w' := by
  go_enter Tryz.func60, Tryz.ntmps60
  go_wp2
  refine bodyPost_ret (v := .agg #[.string s, .int .i64 n]) (by simp [results, Tryz.results60, go_sem]) rfl ⟨rfl, ?_⟩
  first | exact (Below.refl _ _).alloc (Nat.le_refl _) _ | exact ((Below.refl _ _).alloc (Nat.le_refl _) _).alloc (by simp) _ | exact ((((Below.refl _ _).alloc (Nat.le_refl _) _).alloc (by simp) _).setCell (by simp) _).setCell (by simp) _
end Go.Proofs.YtoknolophmhlgaaGreatDoor
