/-
  The specification's ValOk, by contract.
-/
import Derived.Test.YtafehfpjogbmfaaDoorValTree
import Derived.Test.YtafehfpjogbmfaaDoorAtomOk
namespace Go.Proofs.YtafehfpjogbmfaaDoor
open Go.ChangeShapes Go.WideShapes Go.ChangeAt Go.RowKit
set_option linter.unusedVariables false

/-- What a kind has not is zero. -/
def scalB (x : Va) : Bool := (decide (x.kind = 0) || decide (x.n = 0)) && (decide (x.kind = 1) || decide (x.text.toList = []))
/-- How many kids a kind has; an atom's text. -/
def shapeB (k : Int) (t : ByteArray) (n : Nat) : Bool :=
  if k = 0 ∨ k = 3 then decide (n = 0) else if k = 1 then decide (n = 0) && atomB t else if k = 2 then decide (1 ≤ n ∧ n ≤ 20) else if k = 4 then decide (n = 2) else false
def vaOk : Nat → Va → Int → Bool
  | 0, _, _ => false
  | d + 1, x, deep => decide (0 ≤ deep) && scalB x && x.kids.all (fun y => vaOk d y (deep - 1)) && shapeB x.kind x.text x.kids.length

/-- A function of a value and of how deep it may be. -/
def RightC (d : Nat) : Prop :=
  ∀ (w : World) (cs : List Value) (x : Va) (deep : Int), HVa w All d cs x → -1 ≤ deep → deep ≤ 200 → Calls Tryd.prog 19 #[.agg cs.toArray, .int .i64 deep] w fun e w' => e = .returned (.bool (vaOk d x deep)) ∧ Below w.heap.size w w'

theorem all_take_succ {α : Type} (f : α → Bool) (xs : List α) (k : Nat) (x : α) (h : xs[k]? = some x) (ht : (xs.take k).all f = true) (hx : f x = true) : (xs.take (k + 1)).all f = true := by
  rw [List.take_add_one, h, List.all_append, ht]; simp [hx]
theorem all_at_false {α : Type} (f : α → Bool) (xs : List α) (k : Nat) (x : α) (h : xs[k]? = some x) (hx : f x = false) : xs.all f = false := by
  rw [List.all_eq_false]; exact ⟨x, List.mem_of_getElem? h, by simp [hx]⟩

set_option maxHeartbeats 8000000 in
set_option maxRecDepth 100000 in
theorem right_of {d : Nat} (hE : RightC d) : RightC (d + 1) := by
  intro w cs x deep h hd0 hd1
  obtain ⟨kv, rfl, -, -, hts, f0⟩ := h
  obtain ⟨kx, nx, tx, es⟩ := x
  simp only [Va.kind, Va.n, Va.text, Va.kids] at *
  obtain ⟨p, cap, rfl, hcl, hcm, hx⟩ := f0
  have hnb : es.length ≤ 9223372036854775807 := by unfold maxLen at hcm; omega
  generalize hn : es.length = n at *
  have HN : Hid (es.length = n) := hn
  have HX : Hid (es ≠ [] → ∃ g off, p = some ⟨g, off, none⟩ ∧ All g ∧ g < w.heap.size ∧ ∀ i x, es[i]? = some x → ∃ cs, cs.length = 4 ∧ (∀ j, j < 4 → w.cell? ⟨g, off + i * 4 + j, none⟩ = cs[j]?) ∧ HVa w All d cs x) := hx
  have BL : Hid (Below w.heap.size w (w.alloc (.cells #[.int .i64 kx, .int .i64 nx, .string tx, .slice p n cap] 24))) := (Below.refl _ _).alloc (Nat.le_refl _) _
  clear hx hn
  have hv : vaOk (d + 1) (.mk kx nx tx es) deep = (decide (0 ≤ deep) && scalB (.mk kx nx tx es) && es.all (fun y => vaOk d y (deep - 1)) && shapeB kx tx es.length) := rfl
  by_cases c1 : deep < 0
  · have HS : Hid (vaOk (d + 1) (.mk kx nx tx es) deep = false) := by show _ = _; rw [hv, decide_eq_false (by omega)]; rfl
    clear hv
    go_enter Tryd.func19, Tryd.ntmps19
    go_wp2
    go_ret
    exact ⟨by rw [HS.out]; rfl, BL.out⟩
  have hs0 : scalB (.mk kx nx tx es) = ((decide (kx = 0) || decide (nx = 0)) && (decide (kx = 1) || decide (tx.toList = []))) := rfl
  by_cases c2 : ¬ kx = 0 ∧ ¬ nx = 0
  · have HS : Hid (vaOk (d + 1) (.mk kx nx tx es) deep = false) := by show _ = _; rw [hv, hs0]; simp [c2.1, c2.2]
    obtain ⟨c2a, c2b⟩ := c2
    clear hv hs0
    go_enter Tryd.func19, Tryd.ntmps19
    go_wp2
    go_ret
    exact ⟨by rw [HS.out]; rfl, BL.out⟩
  by_cases c3 : ¬ kx = 1 ∧ ¬ tx.toList = []
  · have HS : Hid (vaOk (d + 1) (.mk kx nx tx es) deep = false) := by show _ = _; rw [hv, hs0]; simp [c3.1, c3.2]
    obtain ⟨c3a, c3b⟩ := c3
    have c3c : (tx.toList == []) = false := by simpa using c3b
    clear hv hs0
    by_cases c2a : kx = 0
    · subst c2a
      go_enter Tryd.func19, Tryd.ntmps19
      go_wp2
      go_ret
      exact ⟨by rw [HS.out]; rfl, BL.out⟩
    · have c2b : nx = 0 := by
        by_cases h : nx = 0
        · exact h
        · exact absurd ⟨c2a, h⟩ c2
      subst c2b
      clear c2
      go_enter Tryd.func19, Tryd.ntmps19
      go_wp2
      go_ret
      exact ⟨by rw [HS.out]; rfl, BL.out⟩
  -- the kinds
  have hs1 : scalB (.mk kx nx tx es) = true := by
    rw [hs0]
    by_cases a : kx = 0 <;> by_cases b : nx = 0 <;> by_cases c : kx = 1 <;> by_cases e : tx.toList = [] <;> simp_all
  clear hs0
  by_cases k0 : kx = 0
  · subst k0
    have ht : tx.toList = [] := by
      by_cases h : tx.toList = []
      · exact h
      · exact absurd ⟨by omega, h⟩ c3
    have ht2 : (tx.toList == []) = true := by simpa using ht
    clear c2 c3 ht
    obtain ⟨W1, hW1⟩ : ∃ W1, W1 = w.alloc (.cells #[.int .i64 0, .int .i64 nx, .string tx, .slice p n cap] 24) := ⟨_, rfl⟩
    have bA : Hid (Blk W1 w.heap.size #[.int .i64 0, .int .i64 nx, .string tx, .slice p n cap] 24) := by show Blk _ _ _ _; rw [hW1]; exact Blk.new
    have B1 : Hid (Below w.heap.size w W1) := by show Below _ _ _; rw [hW1]; exact (Below.refl _ _).alloc (Nat.le_refl _) _
    have HW1 : Hid (W1 = w.alloc (.cells #[.int .i64 0, .int .i64 nx, .string tx, .slice p n cap] 24)) := hW1
    clear hW1 BL
    go_enter Tryd.func19, Tryd.ntmps19
    go_wp2
    rw [← HW1.out]
    go_loopw [6] (fun iv wr => ∃ k : Nat, k ≤ n ∧ iv = .int .i64 k ∧ Hid ((es.take k).all (fun y => vaOk d y (deep - 1)) = true) ∧ Hid (SameOn All W1 wr) ∧ Below w.heap.size w wr) (fun iv _ => n - (intOf iv).toNat)
    case atStart => exact ⟨0, Nat.zero_le _, rfl, rfl, ⟨Nat.le_refl _, fun _ _ _ => rfl⟩, B1.out⟩
    case round =>
      obtain ⟨k, hk, rfl, hall, hso, hb⟩ := hrel
      have HB : Hid (Below w.heap.size w wr) := hb
      have b1 := bA.out.same_on hso.out
      have xa0 := b1.cell 0 _ rfl
      have xa2 := b1.cell 2 _ rfl
      have xa3 := b1.cell 3 _ rfl
      clear b1
      by_cases hlt : k < n
      · obtain ⟨x, hxk⟩ : ∃ x, es[k]? = some x := ⟨es[k]'(by rw [HN.out]; exact hlt), List.getElem?_eq_getElem _⟩
        obtain ⟨g, off, rfl, -, hgl, hat⟩ := HX.out (by intro h; rw [h] at hxk; simp at hxk)
        obtain ⟨cs, hcs4, hcs, r1⟩ := hat k x hxk
        have E1 : ∀ w', SameOn All wr w' → HVa w' All d cs x := fun w' hw => r1.mono (SameOn.trans (SameOn.of_below hb) hw) (fun _ h => h)
        obtain ⟨c0, c1, c2, c3, rfl⟩ := len4 hcs4
        have a0 := hcs 0 (by omega)
        have a1 := hcs 1 (by omega)
        have a2 := hcs 2 (by omega)
        have a3 := hcs 3 (by omega)
        rw [← hb.cell (p := ⟨g, _, none⟩) hgl] at a0 a1 a2 a3
        simp at a0 a1 a2 a3
        have hki : (k : Int) < (n : Int) := by omega
        have hk0 : (0 : Int) ≤ (k : Int) := by omega
        clear hb hcs hat hcs4 r1
        generalize hcv : vaOk d x (deep - 1) = cv
        have HCV : Hid (vaOk d x (deep - 1) = cv) := hcv
        cases cv with
        | true =>
          clear hcv
          go_wp2_with (first | (go_at_call 19; go_must (refine (hE _ _ x (deep - 1) (E1 _ ⟨Nat.le_refl _, fun _ _ _ => rfl⟩) (by omega) (by omega)).mono ?_; rintro e w1 ⟨rfl, hb1⟩; rw [HCV.out]; have HB1 : Hid (Below wr.heap.size wr w1) := hb1; clear hb1)))
          exact ⟨⟨k + 1, by omega, by go_num, all_take_succ _ es k x hxk hall.out HCV.out, hso.out.trans (SameOn.of_below HB1.out), HB.out.trans (HB1.out.mono HB.out.size)⟩, by simp [intOf]; omega⟩
        | false =>
          have HS : Hid (vaOk (d + 1) (.mk 0 nx tx es) deep = false) := by show _ = _; rw [hv, all_at_false _ es k x hxk hcv]; simp
          clear hcv
          go_wp2_with (first | (go_at_call 19; go_must (refine (hE _ _ x (deep - 1) (E1 _ ⟨Nat.le_refl _, fun _ _ _ => rfl⟩) (by omega) (by omega)).mono ?_; rintro e w1 ⟨rfl, hb1⟩; rw [HCV.out]; have HB1 : Hid (Below wr.heap.size wr w1) := hb1; clear hb1)))
          go_ret
          exact ⟨by rw [HS.out]; rfl, HB.out.trans (HB1.out.mono HB.out.size)⟩
      · have hal : es.all (fun y => vaOk d y (deep - 1)) = true := by
          have := hall.out
          rwa [List.take_of_length_le (by rw [HN.out]; omega)] at this
        have HV : Hid (vaOk (d + 1) (.mk 0 nx tx es) deep = shapeB 0 tx n) := by show _ = _; rw [hv, hal, hs1, decide_eq_true (by omega), HN.out]; rfl
        clear hb hal
        have HS : Hid (vaOk (d + 1) (.mk 0 nx tx es) deep = ((n : Int) == 0)) := by
          show _ = _
          rw [HV.out]
          by_cases h : n = 0
          · subst h; simp [shapeB]
          · simp [shapeB, h]
        clear HV
        go_wp2
        go_ret
        exact ⟨by rw [HS.out]; rfl, HB.out⟩
  have n0 : nx = 0 := by
    by_cases h : nx = 0
    · exact h
    · exact absurd ⟨k0, h⟩ c2
  subst n0
  clear c2
  by_cases k1 : kx = 1
  · subst k1
    clear c3
    obtain ⟨W1, hW1⟩ : ∃ W1, W1 = w.alloc (.cells #[.int .i64 1, .int .i64 0, .string tx, .slice p n cap] 24) := ⟨_, rfl⟩
    have bA : Hid (Blk W1 w.heap.size #[.int .i64 1, .int .i64 0, .string tx, .slice p n cap] 24) := by show Blk _ _ _ _; rw [hW1]; exact Blk.new
    have B1 : Hid (Below w.heap.size w W1) := by show Below _ _ _; rw [hW1]; exact (Below.refl _ _).alloc (Nat.le_refl _) _
    have HW1 : Hid (W1 = w.alloc (.cells #[.int .i64 1, .int .i64 0, .string tx, .slice p n cap] 24)) := hW1
    clear hW1 BL
    go_enter Tryd.func19, Tryd.ntmps19
    go_wp2
    rw [← HW1.out]
    go_loopw [6] (fun iv wr => ∃ k : Nat, k ≤ n ∧ iv = .int .i64 k ∧ Hid ((es.take k).all (fun y => vaOk d y (deep - 1)) = true) ∧ Hid (SameOn All W1 wr) ∧ Below w.heap.size w wr) (fun iv _ => n - (intOf iv).toNat)
    case atStart => exact ⟨0, Nat.zero_le _, rfl, rfl, ⟨Nat.le_refl _, fun _ _ _ => rfl⟩, B1.out⟩
    case round =>
      obtain ⟨k, hk, rfl, hall, hso, hb⟩ := hrel
      have HB : Hid (Below w.heap.size w wr) := hb
      have b1 := bA.out.same_on hso.out
      have xa0 := b1.cell 0 _ rfl
      have xa2 := b1.cell 2 _ rfl
      have xa3 := b1.cell 3 _ rfl
      clear b1
      by_cases hlt : k < n
      · obtain ⟨x, hxk⟩ : ∃ x, es[k]? = some x := ⟨es[k]'(by rw [HN.out]; exact hlt), List.getElem?_eq_getElem _⟩
        obtain ⟨g, off, rfl, -, hgl, hat⟩ := HX.out (by intro h; rw [h] at hxk; simp at hxk)
        obtain ⟨cs, hcs4, hcs, r1⟩ := hat k x hxk
        have E1 : ∀ w', SameOn All wr w' → HVa w' All d cs x := fun w' hw => r1.mono (SameOn.trans (SameOn.of_below hb) hw) (fun _ h => h)
        obtain ⟨c0, c1, c2, c3, rfl⟩ := len4 hcs4
        have a0 := hcs 0 (by omega)
        have a1 := hcs 1 (by omega)
        have a2 := hcs 2 (by omega)
        have a3 := hcs 3 (by omega)
        rw [← hb.cell (p := ⟨g, _, none⟩) hgl] at a0 a1 a2 a3
        simp at a0 a1 a2 a3
        have hki : (k : Int) < (n : Int) := by omega
        have hk0 : (0 : Int) ≤ (k : Int) := by omega
        clear hb hcs hat hcs4 r1
        generalize hcv : vaOk d x (deep - 1) = cv
        have HCV : Hid (vaOk d x (deep - 1) = cv) := hcv
        cases cv with
        | true =>
          clear hcv
          go_wp2_with (first | (go_at_call 19; go_must (refine (hE _ _ x (deep - 1) (E1 _ ⟨Nat.le_refl _, fun _ _ _ => rfl⟩) (by omega) (by omega)).mono ?_; rintro e w1 ⟨rfl, hb1⟩; rw [HCV.out]; have HB1 : Hid (Below wr.heap.size wr w1) := hb1; clear hb1)))
          exact ⟨⟨k + 1, by omega, by go_num, all_take_succ _ es k x hxk hall.out HCV.out, hso.out.trans (SameOn.of_below HB1.out), HB.out.trans (HB1.out.mono HB.out.size)⟩, by simp [intOf]; omega⟩
        | false =>
          have HS : Hid (vaOk (d + 1) (.mk 1 0 tx es) deep = false) := by show _ = _; rw [hv, all_at_false _ es k x hxk hcv]; simp
          clear hcv
          go_wp2_with (first | (go_at_call 19; go_must (refine (hE _ _ x (deep - 1) (E1 _ ⟨Nat.le_refl _, fun _ _ _ => rfl⟩) (by omega) (by omega)).mono ?_; rintro e w1 ⟨rfl, hb1⟩; rw [HCV.out]; have HB1 : Hid (Below wr.heap.size wr w1) := hb1; clear hb1)))
          go_ret
          exact ⟨by rw [HS.out]; rfl, HB.out.trans (HB1.out.mono HB.out.size)⟩
      · have hal : es.all (fun y => vaOk d y (deep - 1)) = true := by
          have := hall.out
          rwa [List.take_of_length_le (by rw [HN.out]; omega)] at this
        have HV : Hid (vaOk (d + 1) (.mk 1 0 tx es) deep = shapeB 1 tx n) := by show _ = _; rw [hv, hal, hs1, decide_eq_true (by omega), HN.out]; rfl
        clear hb hal
        by_cases hz : n = 0
        · subst hz
          have HS : Hid (vaOk (d + 1) (.mk 1 0 tx es) deep = atomB tx) := by show _ = _; rw [HV.out]; simp [shapeB]
          clear HV
          go_wp2_with (first | (go_at_call 26; go_must (refine (specAtomOk_any _ _ hts).mono ?_; rintro e w1 ⟨rfl, rfl⟩)))
          go_ret
          exact ⟨by rw [HS.out]; rfl, HB.out⟩
        · have HS : Hid (vaOk (d + 1) (.mk 1 0 tx es) deep = false) := by show _ = _; rw [HV.out]; simp [shapeB, hz]
          have hz2 : ((n : Int) == 0) = false := by simp; omega
          clear HV
          go_wp2
          go_ret
          exact ⟨by rw [HS.out]; rfl, HB.out⟩
  have ht : tx.toList = [] := by
    by_cases h : tx.toList = []
    · exact h
    · exact absurd ⟨k1, h⟩ c3
  have ht2 : (tx.toList == []) = true := by simpa using ht
  clear c3 ht
  by_cases k2 : kx = 2
  · subst k2
    obtain ⟨W1, hW1⟩ : ∃ W1, W1 = w.alloc (.cells #[.int .i64 2, .int .i64 0, .string tx, .slice p n cap] 24) := ⟨_, rfl⟩
    have bA : Hid (Blk W1 w.heap.size #[.int .i64 2, .int .i64 0, .string tx, .slice p n cap] 24) := by show Blk _ _ _ _; rw [hW1]; exact Blk.new
    have B1 : Hid (Below w.heap.size w W1) := by show Below _ _ _; rw [hW1]; exact (Below.refl _ _).alloc (Nat.le_refl _) _
    have HW1 : Hid (W1 = w.alloc (.cells #[.int .i64 2, .int .i64 0, .string tx, .slice p n cap] 24)) := hW1
    clear hW1 BL
    go_enter Tryd.func19, Tryd.ntmps19
    go_wp2
    rw [← HW1.out]
    go_loopw [6] (fun iv wr => ∃ k : Nat, k ≤ n ∧ iv = .int .i64 k ∧ Hid ((es.take k).all (fun y => vaOk d y (deep - 1)) = true) ∧ Hid (SameOn All W1 wr) ∧ Below w.heap.size w wr) (fun iv _ => n - (intOf iv).toNat)
    case atStart => exact ⟨0, Nat.zero_le _, rfl, rfl, ⟨Nat.le_refl _, fun _ _ _ => rfl⟩, B1.out⟩
    case round =>
      obtain ⟨k, hk, rfl, hall, hso, hb⟩ := hrel
      have HB : Hid (Below w.heap.size w wr) := hb
      have b1 := bA.out.same_on hso.out
      have xa0 := b1.cell 0 _ rfl
      have xa2 := b1.cell 2 _ rfl
      have xa3 := b1.cell 3 _ rfl
      clear b1
      by_cases hlt : k < n
      · obtain ⟨x, hxk⟩ : ∃ x, es[k]? = some x := ⟨es[k]'(by rw [HN.out]; exact hlt), List.getElem?_eq_getElem _⟩
        obtain ⟨g, off, rfl, -, hgl, hat⟩ := HX.out (by intro h; rw [h] at hxk; simp at hxk)
        obtain ⟨cs, hcs4, hcs, r1⟩ := hat k x hxk
        have E1 : ∀ w', SameOn All wr w' → HVa w' All d cs x := fun w' hw => r1.mono (SameOn.trans (SameOn.of_below hb) hw) (fun _ h => h)
        obtain ⟨c0, c1, c2, c3, rfl⟩ := len4 hcs4
        have a0 := hcs 0 (by omega)
        have a1 := hcs 1 (by omega)
        have a2 := hcs 2 (by omega)
        have a3 := hcs 3 (by omega)
        rw [← hb.cell (p := ⟨g, _, none⟩) hgl] at a0 a1 a2 a3
        simp at a0 a1 a2 a3
        have hki : (k : Int) < (n : Int) := by omega
        have hk0 : (0 : Int) ≤ (k : Int) := by omega
        clear hb hcs hat hcs4 r1
        generalize hcv : vaOk d x (deep - 1) = cv
        have HCV : Hid (vaOk d x (deep - 1) = cv) := hcv
        cases cv with
        | true =>
          clear hcv
          go_wp2_with (first | (go_at_call 19; go_must (refine (hE _ _ x (deep - 1) (E1 _ ⟨Nat.le_refl _, fun _ _ _ => rfl⟩) (by omega) (by omega)).mono ?_; rintro e w1 ⟨rfl, hb1⟩; rw [HCV.out]; have HB1 : Hid (Below wr.heap.size wr w1) := hb1; clear hb1)))
          exact ⟨⟨k + 1, by omega, by go_num, all_take_succ _ es k x hxk hall.out HCV.out, hso.out.trans (SameOn.of_below HB1.out), HB.out.trans (HB1.out.mono HB.out.size)⟩, by simp [intOf]; omega⟩
        | false =>
          have HS : Hid (vaOk (d + 1) (.mk 2 0 tx es) deep = false) := by show _ = _; rw [hv, all_at_false _ es k x hxk hcv]; simp
          clear hcv
          go_wp2_with (first | (go_at_call 19; go_must (refine (hE _ _ x (deep - 1) (E1 _ ⟨Nat.le_refl _, fun _ _ _ => rfl⟩) (by omega) (by omega)).mono ?_; rintro e w1 ⟨rfl, hb1⟩; rw [HCV.out]; have HB1 : Hid (Below wr.heap.size wr w1) := hb1; clear hb1)))
          go_ret
          exact ⟨by rw [HS.out]; rfl, HB.out.trans (HB1.out.mono HB.out.size)⟩
      · have hal : es.all (fun y => vaOk d y (deep - 1)) = true := by
          have := hall.out
          rwa [List.take_of_length_le (by rw [HN.out]; omega)] at this
        have HV : Hid (vaOk (d + 1) (.mk 2 0 tx es) deep = shapeB 2 tx n) := by show _ = _; rw [hv, hal, hs1, decide_eq_true (by omega), HN.out]; rfl
        clear hb hal
        have HS : Hid (vaOk (d + 1) (.mk 2 0 tx es) deep = inB n 1 20) := by
          show _ = _
          rw [HV.out]
          unfold inB
          by_cases h1 : 1 ≤ n <;> by_cases h2 : n ≤ 20 <;> simp [shapeB, h1, h2] <;> omega
        clear HV
        go_wp2_with (first | (go_at_call 29; go_must (refine (l01In_any _ _ _ _).mono ?_; rintro e w1 ⟨rfl, rfl⟩)))
        go_ret
        exact ⟨by rw [HS.out]; rfl, HB.out⟩
  by_cases k3 : kx = 3
  · subst k3
    obtain ⟨W1, hW1⟩ : ∃ W1, W1 = w.alloc (.cells #[.int .i64 3, .int .i64 0, .string tx, .slice p n cap] 24) := ⟨_, rfl⟩
    have bA : Hid (Blk W1 w.heap.size #[.int .i64 3, .int .i64 0, .string tx, .slice p n cap] 24) := by show Blk _ _ _ _; rw [hW1]; exact Blk.new
    have B1 : Hid (Below w.heap.size w W1) := by show Below _ _ _; rw [hW1]; exact (Below.refl _ _).alloc (Nat.le_refl _) _
    have HW1 : Hid (W1 = w.alloc (.cells #[.int .i64 3, .int .i64 0, .string tx, .slice p n cap] 24)) := hW1
    clear hW1 BL
    go_enter Tryd.func19, Tryd.ntmps19
    go_wp2
    rw [← HW1.out]
    go_loopw [6] (fun iv wr => ∃ k : Nat, k ≤ n ∧ iv = .int .i64 k ∧ Hid ((es.take k).all (fun y => vaOk d y (deep - 1)) = true) ∧ Hid (SameOn All W1 wr) ∧ Below w.heap.size w wr) (fun iv _ => n - (intOf iv).toNat)
    case atStart => exact ⟨0, Nat.zero_le _, rfl, rfl, ⟨Nat.le_refl _, fun _ _ _ => rfl⟩, B1.out⟩
    case round =>
      obtain ⟨k, hk, rfl, hall, hso, hb⟩ := hrel
      have HB : Hid (Below w.heap.size w wr) := hb
      have b1 := bA.out.same_on hso.out
      have xa0 := b1.cell 0 _ rfl
      have xa2 := b1.cell 2 _ rfl
      have xa3 := b1.cell 3 _ rfl
      clear b1
      by_cases hlt : k < n
      · obtain ⟨x, hxk⟩ : ∃ x, es[k]? = some x := ⟨es[k]'(by rw [HN.out]; exact hlt), List.getElem?_eq_getElem _⟩
        obtain ⟨g, off, rfl, -, hgl, hat⟩ := HX.out (by intro h; rw [h] at hxk; simp at hxk)
        obtain ⟨cs, hcs4, hcs, r1⟩ := hat k x hxk
        have E1 : ∀ w', SameOn All wr w' → HVa w' All d cs x := fun w' hw => r1.mono (SameOn.trans (SameOn.of_below hb) hw) (fun _ h => h)
        obtain ⟨c0, c1, c2, c3, rfl⟩ := len4 hcs4
        have a0 := hcs 0 (by omega)
        have a1 := hcs 1 (by omega)
        have a2 := hcs 2 (by omega)
        have a3 := hcs 3 (by omega)
        rw [← hb.cell (p := ⟨g, _, none⟩) hgl] at a0 a1 a2 a3
        simp at a0 a1 a2 a3
        have hki : (k : Int) < (n : Int) := by omega
        have hk0 : (0 : Int) ≤ (k : Int) := by omega
        clear hb hcs hat hcs4 r1
        generalize hcv : vaOk d x (deep - 1) = cv
        have HCV : Hid (vaOk d x (deep - 1) = cv) := hcv
        cases cv with
        | true =>
          clear hcv
          go_wp2_with (first | (go_at_call 19; go_must (refine (hE _ _ x (deep - 1) (E1 _ ⟨Nat.le_refl _, fun _ _ _ => rfl⟩) (by omega) (by omega)).mono ?_; rintro e w1 ⟨rfl, hb1⟩; rw [HCV.out]; have HB1 : Hid (Below wr.heap.size wr w1) := hb1; clear hb1)))
          exact ⟨⟨k + 1, by omega, by go_num, all_take_succ _ es k x hxk hall.out HCV.out, hso.out.trans (SameOn.of_below HB1.out), HB.out.trans (HB1.out.mono HB.out.size)⟩, by simp [intOf]; omega⟩
        | false =>
          have HS : Hid (vaOk (d + 1) (.mk 3 0 tx es) deep = false) := by show _ = _; rw [hv, all_at_false _ es k x hxk hcv]; simp
          clear hcv
          go_wp2_with (first | (go_at_call 19; go_must (refine (hE _ _ x (deep - 1) (E1 _ ⟨Nat.le_refl _, fun _ _ _ => rfl⟩) (by omega) (by omega)).mono ?_; rintro e w1 ⟨rfl, hb1⟩; rw [HCV.out]; have HB1 : Hid (Below wr.heap.size wr w1) := hb1; clear hb1)))
          go_ret
          exact ⟨by rw [HS.out]; rfl, HB.out.trans (HB1.out.mono HB.out.size)⟩
      · have hal : es.all (fun y => vaOk d y (deep - 1)) = true := by
          have := hall.out
          rwa [List.take_of_length_le (by rw [HN.out]; omega)] at this
        have HV : Hid (vaOk (d + 1) (.mk 3 0 tx es) deep = shapeB 3 tx n) := by show _ = _; rw [hv, hal, hs1, decide_eq_true (by omega), HN.out]; rfl
        clear hb hal
        have HS : Hid (vaOk (d + 1) (.mk 3 0 tx es) deep = ((n : Int) == 0)) := by
          show _ = _
          rw [HV.out]
          by_cases h : n = 0
          · subst h; simp [shapeB]
          · simp [shapeB, h]
        clear HV
        go_wp2
        go_ret
        exact ⟨by rw [HS.out]; rfl, HB.out⟩
  by_cases k4 : kx = 4
  · subst k4
    obtain ⟨W1, hW1⟩ : ∃ W1, W1 = w.alloc (.cells #[.int .i64 4, .int .i64 0, .string tx, .slice p n cap] 24) := ⟨_, rfl⟩
    have bA : Hid (Blk W1 w.heap.size #[.int .i64 4, .int .i64 0, .string tx, .slice p n cap] 24) := by show Blk _ _ _ _; rw [hW1]; exact Blk.new
    have B1 : Hid (Below w.heap.size w W1) := by show Below _ _ _; rw [hW1]; exact (Below.refl _ _).alloc (Nat.le_refl _) _
    have HW1 : Hid (W1 = w.alloc (.cells #[.int .i64 4, .int .i64 0, .string tx, .slice p n cap] 24)) := hW1
    clear hW1 BL
    go_enter Tryd.func19, Tryd.ntmps19
    go_wp2
    rw [← HW1.out]
    go_loopw [6] (fun iv wr => ∃ k : Nat, k ≤ n ∧ iv = .int .i64 k ∧ Hid ((es.take k).all (fun y => vaOk d y (deep - 1)) = true) ∧ Hid (SameOn All W1 wr) ∧ Below w.heap.size w wr) (fun iv _ => n - (intOf iv).toNat)
    case atStart => exact ⟨0, Nat.zero_le _, rfl, rfl, ⟨Nat.le_refl _, fun _ _ _ => rfl⟩, B1.out⟩
    case round =>
      obtain ⟨k, hk, rfl, hall, hso, hb⟩ := hrel
      have HB : Hid (Below w.heap.size w wr) := hb
      have b1 := bA.out.same_on hso.out
      have xa0 := b1.cell 0 _ rfl
      have xa2 := b1.cell 2 _ rfl
      have xa3 := b1.cell 3 _ rfl
      clear b1
      by_cases hlt : k < n
      · obtain ⟨x, hxk⟩ : ∃ x, es[k]? = some x := ⟨es[k]'(by rw [HN.out]; exact hlt), List.getElem?_eq_getElem _⟩
        obtain ⟨g, off, rfl, -, hgl, hat⟩ := HX.out (by intro h; rw [h] at hxk; simp at hxk)
        obtain ⟨cs, hcs4, hcs, r1⟩ := hat k x hxk
        have E1 : ∀ w', SameOn All wr w' → HVa w' All d cs x := fun w' hw => r1.mono (SameOn.trans (SameOn.of_below hb) hw) (fun _ h => h)
        obtain ⟨c0, c1, c2, c3, rfl⟩ := len4 hcs4
        have a0 := hcs 0 (by omega)
        have a1 := hcs 1 (by omega)
        have a2 := hcs 2 (by omega)
        have a3 := hcs 3 (by omega)
        rw [← hb.cell (p := ⟨g, _, none⟩) hgl] at a0 a1 a2 a3
        simp at a0 a1 a2 a3
        have hki : (k : Int) < (n : Int) := by omega
        have hk0 : (0 : Int) ≤ (k : Int) := by omega
        clear hb hcs hat hcs4 r1
        generalize hcv : vaOk d x (deep - 1) = cv
        have HCV : Hid (vaOk d x (deep - 1) = cv) := hcv
        cases cv with
        | true =>
          clear hcv
          go_wp2_with (first | (go_at_call 19; go_must (refine (hE _ _ x (deep - 1) (E1 _ ⟨Nat.le_refl _, fun _ _ _ => rfl⟩) (by omega) (by omega)).mono ?_; rintro e w1 ⟨rfl, hb1⟩; rw [HCV.out]; have HB1 : Hid (Below wr.heap.size wr w1) := hb1; clear hb1)))
          exact ⟨⟨k + 1, by omega, by go_num, all_take_succ _ es k x hxk hall.out HCV.out, hso.out.trans (SameOn.of_below HB1.out), HB.out.trans (HB1.out.mono HB.out.size)⟩, by simp [intOf]; omega⟩
        | false =>
          have HS : Hid (vaOk (d + 1) (.mk 4 0 tx es) deep = false) := by show _ = _; rw [hv, all_at_false _ es k x hxk hcv]; simp
          clear hcv
          go_wp2_with (first | (go_at_call 19; go_must (refine (hE _ _ x (deep - 1) (E1 _ ⟨Nat.le_refl _, fun _ _ _ => rfl⟩) (by omega) (by omega)).mono ?_; rintro e w1 ⟨rfl, hb1⟩; rw [HCV.out]; have HB1 : Hid (Below wr.heap.size wr w1) := hb1; clear hb1)))
          go_ret
          exact ⟨by rw [HS.out]; rfl, HB.out.trans (HB1.out.mono HB.out.size)⟩
      · have hal : es.all (fun y => vaOk d y (deep - 1)) = true := by
          have := hall.out
          rwa [List.take_of_length_le (by rw [HN.out]; omega)] at this
        have HV : Hid (vaOk (d + 1) (.mk 4 0 tx es) deep = shapeB 4 tx n) := by show _ = _; rw [hv, hal, hs1, decide_eq_true (by omega), HN.out]; rfl
        clear hb hal
        have HS : Hid (vaOk (d + 1) (.mk 4 0 tx es) deep = ((n : Int) == 2)) := by
          show _ = _
          rw [HV.out]
          by_cases h : n = 2
          · subst h; simp [shapeB]
          · have h2 : ¬ (n : Int) = 2 := by omega
            simp [shapeB, h, h2]
        clear HV
        go_wp2
        go_ret
        exact ⟨by rw [HS.out]; rfl, HB.out⟩
  obtain ⟨W1, hW1⟩ : ∃ W1, W1 = w.alloc (.cells #[.int .i64 kx, .int .i64 0, .string tx, .slice p n cap] 24) := ⟨_, rfl⟩
  have bA : Hid (Blk W1 w.heap.size #[.int .i64 kx, .int .i64 0, .string tx, .slice p n cap] 24) := by show Blk _ _ _ _; rw [hW1]; exact Blk.new
  have B1 : Hid (Below w.heap.size w W1) := by show Below _ _ _; rw [hW1]; exact (Below.refl _ _).alloc (Nat.le_refl _) _
  have HW1 : Hid (W1 = w.alloc (.cells #[.int .i64 kx, .int .i64 0, .string tx, .slice p n cap] 24)) := hW1
  clear hW1 BL
  go_enter Tryd.func19, Tryd.ntmps19
  go_wp2
  rw [← HW1.out]
  go_loopw [6] (fun iv wr => ∃ k : Nat, k ≤ n ∧ iv = .int .i64 k ∧ Hid ((es.take k).all (fun y => vaOk d y (deep - 1)) = true) ∧ Hid (SameOn All W1 wr) ∧ Below w.heap.size w wr) (fun iv _ => n - (intOf iv).toNat)
  case atStart => exact ⟨0, Nat.zero_le _, rfl, rfl, ⟨Nat.le_refl _, fun _ _ _ => rfl⟩, B1.out⟩
  case round =>
    obtain ⟨k, hk, rfl, hall, hso, hb⟩ := hrel
    have HB : Hid (Below w.heap.size w wr) := hb
    have b1 := bA.out.same_on hso.out
    have xa0 := b1.cell 0 _ rfl
    have xa2 := b1.cell 2 _ rfl
    have xa3 := b1.cell 3 _ rfl
    clear b1
    by_cases hlt : k < n
    · obtain ⟨x, hxk⟩ : ∃ x, es[k]? = some x := ⟨es[k]'(by rw [HN.out]; exact hlt), List.getElem?_eq_getElem _⟩
      obtain ⟨g, off, rfl, -, hgl, hat⟩ := HX.out (by intro h; rw [h] at hxk; simp at hxk)
      obtain ⟨cs, hcs4, hcs, r1⟩ := hat k x hxk
      have E1 : ∀ w', SameOn All wr w' → HVa w' All d cs x := fun w' hw => r1.mono (SameOn.trans (SameOn.of_below hb) hw) (fun _ h => h)
      obtain ⟨c0, c1, c2, c3, rfl⟩ := len4 hcs4
      have a0 := hcs 0 (by omega)
      have a1 := hcs 1 (by omega)
      have a2 := hcs 2 (by omega)
      have a3 := hcs 3 (by omega)
      rw [← hb.cell (p := ⟨g, _, none⟩) hgl] at a0 a1 a2 a3
      simp at a0 a1 a2 a3
      have hki : (k : Int) < (n : Int) := by omega
      have hk0 : (0 : Int) ≤ (k : Int) := by omega
      clear hb hcs hat hcs4 r1
      generalize hcv : vaOk d x (deep - 1) = cv
      have HCV : Hid (vaOk d x (deep - 1) = cv) := hcv
      cases cv with
      | true =>
        clear hcv
        go_wp2_with (first | (go_at_call 19; go_must (refine (hE _ _ x (deep - 1) (E1 _ ⟨Nat.le_refl _, fun _ _ _ => rfl⟩) (by omega) (by omega)).mono ?_; rintro e w1 ⟨rfl, hb1⟩; rw [HCV.out]; have HB1 : Hid (Below wr.heap.size wr w1) := hb1; clear hb1)))
        exact ⟨⟨k + 1, by omega, by go_num, all_take_succ _ es k x hxk hall.out HCV.out, hso.out.trans (SameOn.of_below HB1.out), HB.out.trans (HB1.out.mono HB.out.size)⟩, by simp [intOf]; omega⟩
      | false =>
        have HS : Hid (vaOk (d + 1) (.mk kx 0 tx es) deep = false) := by show _ = _; rw [hv, all_at_false _ es k x hxk hcv]; simp
        clear hcv
        go_wp2_with (first | (go_at_call 19; go_must (refine (hE _ _ x (deep - 1) (E1 _ ⟨Nat.le_refl _, fun _ _ _ => rfl⟩) (by omega) (by omega)).mono ?_; rintro e w1 ⟨rfl, hb1⟩; rw [HCV.out]; have HB1 : Hid (Below wr.heap.size wr w1) := hb1; clear hb1)))
        go_ret
        exact ⟨by rw [HS.out]; rfl, HB.out.trans (HB1.out.mono HB.out.size)⟩
    · have hal : es.all (fun y => vaOk d y (deep - 1)) = true := by
        have := hall.out
        rwa [List.take_of_length_le (by rw [HN.out]; omega)] at this
      have HV : Hid (vaOk (d + 1) (.mk kx 0 tx es) deep = shapeB kx tx n) := by show _ = _; rw [hv, hal, hs1, decide_eq_true (by omega), HN.out]; rfl
      clear hb hal
      have HS : Hid (vaOk (d + 1) (.mk kx 0 tx es) deep = false) := by show _ = _; rw [HV.out]; simp [shapeB, k0, k1, k2, k3, k4]
      clear HV
      go_wp2
      go_ret
      exact ⟨by rw [HS.out]; rfl, HB.out⟩

theorem right_all : ∀ d, RightC d
  | 0 => fun w cs x deep h _ _ => h.elim
  | d + 1 => right_of (right_all d)

/-- THE SPECIFICATION's ValOk. -/
theorem specValOk_any (d : Nat) (w : World) (cs : List Value) (x : Va) (h : HVa w All d cs x) :
    Calls Tryd.prog 10 #[.agg cs.toArray] w fun e w' => e = .returned (.bool (vaOk d x 200)) ∧ Below w.heap.size w w' := by
  obtain ⟨kk, nn, s, p, l, c, rfl⟩ := h.shape
  have BL : Hid (Below w.heap.size w (w.alloc (.cells #[.int .i64 kk, .int .i64 nn, .string s, .slice p l c] 24))) := (Below.refl _ _).alloc (Nat.le_refl _) _
  have HH : Hid (HVa (w.alloc (.cells #[.int .i64 kk, .int .i64 nn, .string s, .slice p l c] 24)) All d [.int .i64 kk, .int .i64 nn, .string s, .slice p l c] x) := h.mono (SameOn.of_below BL.out) (fun _ h => h)
  clear h
  go_enter Tryd.func10, Tryd.ntmps10
  go_wp2_with fail
  refine (right_all d _ _ x 200 HH.out (by omega) (by omega)).mono ?_
  rintro e w1 ⟨rfl, hb⟩
  have HB1 : Hid (Below w.heap.size w w1) := BL.out.trans (hb.mono BL.out.size)
  clear hb
  go_wp2_with fail
  go_ret
  exact ⟨rfl, HB1.out⟩
end Go.Proofs.YtafehfpjogbmfaaDoor
