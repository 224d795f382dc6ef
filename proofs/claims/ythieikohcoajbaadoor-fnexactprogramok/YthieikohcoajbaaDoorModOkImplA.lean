/-
  The program's ModuleOk, by contract: an expression's own parts.
-/
import Derived.Test.YthieikohcoajbaaDoorModOkMath
namespace Go.Proofs.YthieikohcoajbaaDoor
open Go.ChangeShapes Go.WideShapes Go.ChangeAt Go.RowKit
set_option linter.unusedVariables false

/-- The table of what a kind has lies as its initialiser lays it. -/
def ShapesAt (w : World) : Prop :=
  ∀ k : Nat, k < 11 → w.cell? ⟨2, k * 5, none⟩ = some (.int .i64 (txtK k)) ∧ w.cell? ⟨2, k * 5 + 1, none⟩ = some (.int .i64 (kidLo k)) ∧ w.cell? ⟨2, k * 5 + 2, none⟩ = some (.int .i64 (kidHi k)) ∧
    w.cell? ⟨2, k * 5 + 3, none⟩ = some (.int .i64 (clsLo k)) ∧ w.cell? ⟨2, k * 5 + 4, none⟩ = some (.int .i64 (clsHi k))
structure Tabs (w : World) : Prop where
  keys : KeysAt w
  shapes : ShapesAt w
theorem Tabs.below {w w' : World} (h : Tabs w) (hb : Below w.heap.size w w') : Tabs w' :=
  ⟨⟨cell_next hb h.keys.1, cell_next hb h.keys.2.1, cell_next hb h.keys.2.2⟩, fun k hk => by
    obtain ⟨a, b, c, d, e⟩ := h.shapes k hk
    exact ⟨cell_next hb a, cell_next hb b, cell_next hb c, cell_next hb d, cell_next hb e⟩⟩

theorem withinM_any (a b c : Int) (w : World) : Calls Tryd.prog 50 #[.int .i64 a, .int .i64 b, .int .i64 c] w fun e w' => e = .returned (.bool (inB a b c)) ∧ w' = w := by
  by_cases h1 : b ≤ a <;> by_cases h2 : a ≤ c
  all_goals
    go_enter Tryd.func50, Tryd.ntmps50
    go_wp2
    go_ret
    exact ⟨by simp [inB, h1, h2], rfl⟩

theorem isOp_any (t : ByteArray) (w : World) : Calls Tryd.prog 106 #[.string t] w fun e w' => e = .returned (.bool (opB t)) ∧ w' = w := by
  cases h0 : (t.toList == [61, 61]) <;> cases h1 : (t.toList == [60]) <;> cases h2 : (t.toList == [43]) <;> cases h3 : (t.toList == [45]) <;> cases h4 : (t.toList == [42])
  all_goals
    go_enter Tryd.func106, Tryd.ntmps106
    go_wp2
    go_ret
    exact ⟨by simp [opB, h0, h1, h2, h3, h4], rfl⟩

theorem textOk_any (k : Int) (t : ByteArray) (w : World) (hts : t.size ≤ maxLen) (hk : KeysAt w) : Calls Tryd.prog 99 #[.int .i64 k, .string t] w fun e w' => e = .returned (.bool (tkB k t)) ∧ w' = w := by
  have HK : Hid (KeysAt w) := hk
  clear hk
  by_cases k1 : k = 1
  · subst k1
    go_enter Tryd.func99, Tryd.ntmps99
    go_wp2_with (go_at_call 30; go_must (refine (implAtomOk_any _ _ hts HK.out).mono ?_; rintro e w' ⟨rfl, rfl⟩))
    go_ret
    exact ⟨by simp [tkB], rfl⟩
  by_cases k2 : k = 2
  · subst k2
    go_enter Tryd.func99, Tryd.ntmps99
    go_wp2_with (go_at_call 105; go_must (refine (implVarOk_any _ _ hts).mono ?_; rintro e w' ⟨rfl, rfl⟩))
    go_ret
    exact ⟨by simp [tkB], rfl⟩
  by_cases k3 : k = 3
  · subst k3
    go_enter Tryd.func99, Tryd.ntmps99
    go_wp2_with (go_at_call 106; go_must (refine (isOp_any _ _).mono ?_; rintro e w' ⟨rfl, rfl⟩))
    go_ret
    exact ⟨by simp [tkB], rfl⟩
  · have HS : Hid (tkB k t = t.toList.isEmpty) := by show _ = _; rw [Bool.eq_iff_iff]; simp [tkB, k1, k2, k3]
    go_enter Tryd.func99, Tryd.ntmps99
    go_wp2
    go_ret
    exact ⟨by rw [HS.out]; rfl, rfl⟩

theorem numberOk_any (k n : Int) (t m : ByteArray) (p q : Option Addr) (nk c nc c' : Nat) (w : World) : Calls Tryd.prog 97 #[.agg #[.int .i64 k, .int .i64 n, .string t, .string m, .slice p nk c, .slice q nc c']] w fun e w' => e = .returned (.bool (numB k n)) ∧ Below w.heap.size w w' := by
  have BL : Hid (Below w.heap.size w (w.alloc (.cells #[.int .i64 k, .int .i64 n, .string t, .string m, .slice p nk c, .slice q nc c'] 82))) := (Below.refl _ _).alloc (Nat.le_refl _) _
  by_cases k0 : k = 0
  · subst k0
    go_enter Tryd.func97, Tryd.ntmps97
    go_wp2_with (go_at_call 50; go_must (refine (withinM_any _ _ _ _).mono ?_; rintro e w' ⟨rfl, rfl⟩))
    go_ret
    exact ⟨by simp [numB], BL.out⟩
  · have HS : Hid (numB k n = (n == 0)) := by show _ = _; rw [Bool.eq_iff_iff]; simp [numB, k0]
    go_enter Tryd.func97, Tryd.ntmps97
    go_wp2
    go_ret
    exact ⟨by rw [HS.out]; rfl, BL.out⟩

theorem modOk_any (k n : Int) (t m : ByteArray) (p q : Option Addr) (nk c nc c' : Nat) (w : World) (hms : m.size ≤ maxLen) (hk : KeysAt w) : Calls Tryd.prog 98 #[.agg #[.int .i64 k, .int .i64 n, .string t, .string m, .slice p nk c, .slice q nc c']] w fun e w' => e = .returned (.bool (modB k m)) ∧ Below w.heap.size w w' := by
  have BL : Hid (Below w.heap.size w (w.alloc (.cells #[.int .i64 k, .int .i64 n, .string t, .string m, .slice p nk c, .slice q nc c'] 82))) := (Below.refl _ _).alloc (Nat.le_refl _) _
  have HK : Hid (KeysAt (w.alloc (.cells #[.int .i64 k, .int .i64 n, .string t, .string m, .slice p nk c, .slice q nc c'] 82))) := ⟨cell_next BL.out hk.1, cell_next BL.out hk.2.1, cell_next BL.out hk.2.2⟩
  clear hk
  by_cases hm : m.toList = []
  · have hm2 : (m.toList == []) = true := by simpa using hm
    have HS : Hid (modB k m = true) := by show _ = _; simp [modB, hm]
    clear hm
    go_enter Tryd.func98, Tryd.ntmps98
    go_wp2
    go_ret
    exact ⟨by rw [HS.out]; rfl, BL.out⟩
  · have hm2 : (m.toList == []) = false := by simpa using hm
    by_cases k8 : k = 8
    · subst k8
      have HS : Hid (modB 8 m = atomB m) := by show _ = _; simp [modB, hm]
      clear hm
      go_enter Tryd.func98, Tryd.ntmps98
      go_wp2_with (go_at_call 30; go_must (refine (implAtomOk_any _ _ hms HK.out).mono ?_; rintro e w' ⟨rfl, rfl⟩))
      go_ret
      exact ⟨by rw [HS.out]; rfl, BL.out⟩
    · have HS : Hid (modB k m = false) := by show _ = _; simp [modB, hm, k8]
      clear hm
      go_enter Tryd.func98, Tryd.ntmps98
      go_wp2
      go_ret
      exact ⟨by rw [HS.out]; rfl, BL.out⟩

set_option maxHeartbeats 8000000 in
set_option maxRecDepth 100000 in
theorem partsOk_any (k n : Int) (t m : ByteArray) (p q : Option Addr) (nk c nc c' : Nat) (w : World) (hts : t.size ≤ maxLen) (hms : m.size ≤ maxLen) (hnk : nk ≤ 9223372036854775807) (hnc : nc ≤ 9223372036854775807) (hT : Tabs w) :
    Calls Tryd.prog 90 #[.agg #[.int .i64 k, .int .i64 n, .string t, .string m, .slice p nk c, .slice q nc c']] w fun e w' => e = .returned (.bool (plainB k n t m nk nc)) ∧ Below w.heap.size w w' := by
  have HT : Hid (Tabs w) := hT
  clear hT
  by_cases hr : 0 ≤ k ∧ k ≤ 10
  · obtain ⟨kn, rfl⟩ : ∃ kn : Nat, k = kn := ⟨k.toNat, by omega⟩
    have hkn : kn < 11 := by omega
    have hki : (kn : Int) < 11 := by omega
    have hk0 : (0 : Int) ≤ (kn : Int) := by omega
    have hin : inB (kn : Int) 0 10 = true := by simp [inB]; omega
    clear hr
    have BL : Hid (Below w.heap.size w (w.alloc (.cells #[.int .i64 (kn : Int), .int .i64 n, .string t, .string m, .slice p nk c, .slice q nc c'] 82))) := (Below.refl _ _).alloc (Nat.le_refl _) _
    have BM : Hid (Below w.heap.size w ((w.alloc (.cells #[.int .i64 (kn : Int), .int .i64 n, .string t, .string m, .slice p nk c, .slice q nc c'] 82)).alloc (.cells #[.int .i64 (txtK kn), .int .i64 (kidLo kn), .int .i64 (kidHi kn), .int .i64 (clsLo kn), .int .i64 (clsHi kn)] 130))) := BL.out.alloc BL.out.size _
    obtain ⟨s0, s1, s2, s3, s4⟩ := (HT.out.below BL.out).shapes kn hkn
    have HP : Hid (plainB kn n t m nk nc = (numB kn n && (modB kn m && (tkB (txtK kn) t && (inB nk (kidLo kn) (kidHi kn) && inB nc (clsLo kn) (clsHi kn)))))) := by show _ = _; simp [plainB, hin, txtB]
    cases h1 : numB kn n with
    | false =>
      go_enter Tryd.func90, Tryd.ntmps90
      go_wp2_with (first | (go_at_call 50; go_must (refine (withinM_any _ _ _ _).mono ?_; rintro e w9 ⟨rfl, rfl⟩; rw [hin])))
      refine (numberOk_any _ _ _ _ _ _ _ _ _ _ _).mono ?_
      rintro e w2 ⟨rfl, hb2⟩
      rw [h1]
      have B2 : Hid (Below w.heap.size w w2) := BM.out.trans (hb2.mono BM.out.size)
      go_wp2
      go_ret
      exact ⟨by rw [HP.out, h1]; simp, B2.out⟩
    | true =>
      cases h2 : modB kn m with
      | false =>
        go_enter Tryd.func90, Tryd.ntmps90
        go_wp2_with (first | (go_at_call 50; go_must (refine (withinM_any _ _ _ _).mono ?_; rintro e w9 ⟨rfl, rfl⟩; rw [hin])))
        refine (numberOk_any _ _ _ _ _ _ _ _ _ _ _).mono ?_
        rintro e w2 ⟨rfl, hb2⟩
        rw [h1]
        have B2 : Hid (Below w.heap.size w w2) := BM.out.trans (hb2.mono BM.out.size)
        have g1 : Hid (Blk w2 w.heap.size #[.int .i64 (kn : Int), .int .i64 n, .string t, .string m, .slice p nk c, .slice q nc c'] 82) := ((Blk.new (w := w)).alloc).next hb2
        have g2 : Hid (Blk w2 (w.heap.size + 1) #[.int .i64 (txtK kn), .int .i64 (kidLo kn), .int .i64 (kidHi kn), .int .i64 (clsLo kn), .int .i64 (clsHi kn)] 130) := by
          have := (Blk.new (w := (w.alloc (.cells #[.int .i64 (kn : Int), .int .i64 n, .string t, .string m, .slice p nk c, .slice q nc c'] 82))) (cs := #[.int .i64 (txtK kn), .int .i64 (kidLo kn), .int .i64 (kidHi kn), .int .i64 (clsLo kn), .int .i64 (clsHi kn)]) (t := 130)).next hb2
          simp only [alloc_hs] at this
          exact this
        have a0 := g1.out.cell 0 _ rfl
        have a1 := g1.out.cell 1 _ rfl
        have a2 := g1.out.cell 2 _ rfl
        have a3 := g1.out.cell 3 _ rfl
        have a4 := g1.out.cell 4 _ rfl
        have a5 := g1.out.cell 5 _ rfl
        clear hb2 s0 s1 s2 s3 s4
        go_wp2_with fail
        refine (modOk_any _ _ _ _ _ _ _ _ _ _ _ hms (HT.out.below B2.out).keys).mono ?_
        rintro e w3 ⟨rfl, hb3⟩
        rw [h2]
        have B3 : Hid (Below w.heap.size w w3) := B2.out.trans (hb3.mono B2.out.size)
        go_wp2
        go_ret
        exact ⟨by rw [HP.out, h1, h2]; simp, B3.out⟩
      | true =>
        cases h3 : tkB (txtK kn) t with
        | false =>
          go_enter Tryd.func90, Tryd.ntmps90
          go_wp2_with (first | (go_at_call 50; go_must (refine (withinM_any _ _ _ _).mono ?_; rintro e w9 ⟨rfl, rfl⟩; rw [hin])))
          refine (numberOk_any _ _ _ _ _ _ _ _ _ _ _).mono ?_
          rintro e w2 ⟨rfl, hb2⟩
          rw [h1]
          have B2 : Hid (Below w.heap.size w w2) := BM.out.trans (hb2.mono BM.out.size)
          have g1 : Hid (Blk w2 w.heap.size #[.int .i64 (kn : Int), .int .i64 n, .string t, .string m, .slice p nk c, .slice q nc c'] 82) := ((Blk.new (w := w)).alloc).next hb2
          have g2 : Hid (Blk w2 (w.heap.size + 1) #[.int .i64 (txtK kn), .int .i64 (kidLo kn), .int .i64 (kidHi kn), .int .i64 (clsLo kn), .int .i64 (clsHi kn)] 130) := by
            have := (Blk.new (w := (w.alloc (.cells #[.int .i64 (kn : Int), .int .i64 n, .string t, .string m, .slice p nk c, .slice q nc c'] 82))) (cs := #[.int .i64 (txtK kn), .int .i64 (kidLo kn), .int .i64 (kidHi kn), .int .i64 (clsLo kn), .int .i64 (clsHi kn)]) (t := 130)).next hb2
            simp only [alloc_hs] at this
            exact this
          have a0 := g1.out.cell 0 _ rfl
          have a1 := g1.out.cell 1 _ rfl
          have a2 := g1.out.cell 2 _ rfl
          have a3 := g1.out.cell 3 _ rfl
          have a4 := g1.out.cell 4 _ rfl
          have a5 := g1.out.cell 5 _ rfl
          clear hb2 s0 s1 s2 s3 s4
          go_wp2_with fail
          refine (modOk_any _ _ _ _ _ _ _ _ _ _ _ hms (HT.out.below B2.out).keys).mono ?_
          rintro e w3 ⟨rfl, hb3⟩
          rw [h2]
          have B3 : Hid (Below w.heap.size w w3) := B2.out.trans (hb3.mono B2.out.size)
          have g3 := g1.out.next hb3
          have g4 := g2.out.next hb3
          clear a0 a1 a2 a3 a4 a5
          have a0 := g3.cell 0 _ rfl
          have a1 := g3.cell 1 _ rfl
          have a2 := g3.cell 2 _ rfl
          have a3 := g3.cell 3 _ rfl
          have a4 := g3.cell 4 _ rfl
          have a5 := g3.cell 5 _ rfl
          have b0 := g4.cell 0 _ rfl
          have b1 := g4.cell 1 _ rfl
          have b2 := g4.cell 2 _ rfl
          have b3 := g4.cell 3 _ rfl
          have b4 := g4.cell 4 _ rfl
          clear hb3 g3 g4
          go_wp2_with (first | (go_at_call 99; go_must (refine (textOk_any _ _ _ hts (HT.out.below B3.out).keys).mono ?_; rintro e w9 ⟨rfl, rfl⟩; rw [h3])))
          go_ret
          exact ⟨by rw [HP.out, h1, h2, h3]; simp, B3.out⟩
        | true =>
          cases h4 : inB nk (kidLo kn) (kidHi kn) with
          | false =>
            go_enter Tryd.func90, Tryd.ntmps90
            go_wp2_with (first | (go_at_call 50; go_must (refine (withinM_any _ _ _ _).mono ?_; rintro e w9 ⟨rfl, rfl⟩; rw [hin])))
            refine (numberOk_any _ _ _ _ _ _ _ _ _ _ _).mono ?_
            rintro e w2 ⟨rfl, hb2⟩
            rw [h1]
            have B2 : Hid (Below w.heap.size w w2) := BM.out.trans (hb2.mono BM.out.size)
            have g1 : Hid (Blk w2 w.heap.size #[.int .i64 (kn : Int), .int .i64 n, .string t, .string m, .slice p nk c, .slice q nc c'] 82) := ((Blk.new (w := w)).alloc).next hb2
            have g2 : Hid (Blk w2 (w.heap.size + 1) #[.int .i64 (txtK kn), .int .i64 (kidLo kn), .int .i64 (kidHi kn), .int .i64 (clsLo kn), .int .i64 (clsHi kn)] 130) := by
              have := (Blk.new (w := (w.alloc (.cells #[.int .i64 (kn : Int), .int .i64 n, .string t, .string m, .slice p nk c, .slice q nc c'] 82))) (cs := #[.int .i64 (txtK kn), .int .i64 (kidLo kn), .int .i64 (kidHi kn), .int .i64 (clsLo kn), .int .i64 (clsHi kn)]) (t := 130)).next hb2
              simp only [alloc_hs] at this
              exact this
            have a0 := g1.out.cell 0 _ rfl
            have a1 := g1.out.cell 1 _ rfl
            have a2 := g1.out.cell 2 _ rfl
            have a3 := g1.out.cell 3 _ rfl
            have a4 := g1.out.cell 4 _ rfl
            have a5 := g1.out.cell 5 _ rfl
            clear hb2 s0 s1 s2 s3 s4
            go_wp2_with fail
            refine (modOk_any _ _ _ _ _ _ _ _ _ _ _ hms (HT.out.below B2.out).keys).mono ?_
            rintro e w3 ⟨rfl, hb3⟩
            rw [h2]
            have B3 : Hid (Below w.heap.size w w3) := B2.out.trans (hb3.mono B2.out.size)
            have g3 := g1.out.next hb3
            have g4 := g2.out.next hb3
            clear a0 a1 a2 a3 a4 a5
            have a0 := g3.cell 0 _ rfl
            have a1 := g3.cell 1 _ rfl
            have a2 := g3.cell 2 _ rfl
            have a3 := g3.cell 3 _ rfl
            have a4 := g3.cell 4 _ rfl
            have a5 := g3.cell 5 _ rfl
            have b0 := g4.cell 0 _ rfl
            have b1 := g4.cell 1 _ rfl
            have b2 := g4.cell 2 _ rfl
            have b3 := g4.cell 3 _ rfl
            have b4 := g4.cell 4 _ rfl
            clear hb3 g3 g4
            go_wp2_with (first | (go_at_call 99; go_must (refine (textOk_any _ _ _ hts (HT.out.below B3.out).keys).mono ?_; rintro e w9 ⟨rfl, rfl⟩; rw [h3])) | (go_at_call_of 50 (kidLo kn); go_must (refine (withinM_any _ _ _ _).mono ?_; rintro e w9 ⟨rfl, rfl⟩; rw [h4])))
            go_ret
            exact ⟨by rw [HP.out, h1, h2, h3, h4]; simp, B3.out⟩
          | true =>
            go_enter Tryd.func90, Tryd.ntmps90
            go_wp2_with (first | (go_at_call 50; go_must (refine (withinM_any _ _ _ _).mono ?_; rintro e w9 ⟨rfl, rfl⟩; rw [hin])))
            refine (numberOk_any _ _ _ _ _ _ _ _ _ _ _).mono ?_
            rintro e w2 ⟨rfl, hb2⟩
            rw [h1]
            have B2 : Hid (Below w.heap.size w w2) := BM.out.trans (hb2.mono BM.out.size)
            have g1 : Hid (Blk w2 w.heap.size #[.int .i64 (kn : Int), .int .i64 n, .string t, .string m, .slice p nk c, .slice q nc c'] 82) := ((Blk.new (w := w)).alloc).next hb2
            have g2 : Hid (Blk w2 (w.heap.size + 1) #[.int .i64 (txtK kn), .int .i64 (kidLo kn), .int .i64 (kidHi kn), .int .i64 (clsLo kn), .int .i64 (clsHi kn)] 130) := by
              have := (Blk.new (w := (w.alloc (.cells #[.int .i64 (kn : Int), .int .i64 n, .string t, .string m, .slice p nk c, .slice q nc c'] 82))) (cs := #[.int .i64 (txtK kn), .int .i64 (kidLo kn), .int .i64 (kidHi kn), .int .i64 (clsLo kn), .int .i64 (clsHi kn)]) (t := 130)).next hb2
              simp only [alloc_hs] at this
              exact this
            have a0 := g1.out.cell 0 _ rfl
            have a1 := g1.out.cell 1 _ rfl
            have a2 := g1.out.cell 2 _ rfl
            have a3 := g1.out.cell 3 _ rfl
            have a4 := g1.out.cell 4 _ rfl
            have a5 := g1.out.cell 5 _ rfl
            clear hb2 s0 s1 s2 s3 s4
            go_wp2_with fail
            refine (modOk_any _ _ _ _ _ _ _ _ _ _ _ hms (HT.out.below B2.out).keys).mono ?_
            rintro e w3 ⟨rfl, hb3⟩
            rw [h2]
            have B3 : Hid (Below w.heap.size w w3) := B2.out.trans (hb3.mono B2.out.size)
            have g3 := g1.out.next hb3
            have g4 := g2.out.next hb3
            clear a0 a1 a2 a3 a4 a5
            have a0 := g3.cell 0 _ rfl
            have a1 := g3.cell 1 _ rfl
            have a2 := g3.cell 2 _ rfl
            have a3 := g3.cell 3 _ rfl
            have a4 := g3.cell 4 _ rfl
            have a5 := g3.cell 5 _ rfl
            have b0 := g4.cell 0 _ rfl
            have b1 := g4.cell 1 _ rfl
            have b2 := g4.cell 2 _ rfl
            have b3 := g4.cell 3 _ rfl
            have b4 := g4.cell 4 _ rfl
            clear hb3 g3 g4
            go_wp2_with (first | (go_at_call 99; go_must (refine (textOk_any _ _ _ hts (HT.out.below B3.out).keys).mono ?_; rintro e w9 ⟨rfl, rfl⟩; rw [h3])) | (go_at_call_of 50 (kidLo kn); go_must (refine (withinM_any _ _ _ _).mono ?_; rintro e w9 ⟨rfl, rfl⟩; rw [h4])) | (go_at_call_of 50 (clsLo kn); go_must (refine (withinM_any _ _ _ _).mono ?_; rintro e w9 ⟨rfl, rfl⟩)))
            go_ret
            exact ⟨by rw [HP.out, h1, h2, h3, h4]; simp, B3.out⟩
  · have hin : inB k 0 10 = false := by simp [inB]; omega
    have BL : Hid (Below w.heap.size w (w.alloc (.cells #[.int .i64 k, .int .i64 n, .string t, .string m, .slice p nk c, .slice q nc c'] 82))) := (Below.refl _ _).alloc (Nat.le_refl _) _
    clear hr
    go_enter Tryd.func90, Tryd.ntmps90
    go_wp2_with (first | (go_at_call 50; go_must (refine (withinM_any _ _ _ _).mono ?_; rintro e w9 ⟨rfl, rfl⟩; rw [hin])))
    go_ret
    exact ⟨by simp [plainB, hin], BL.out⟩
end Go.Proofs.YthieikohcoajbaaDoor
