/-
  The program's ModuleOk, by contract: exports, modules.
-/
import Derived.Test.YthieikohcoajbaaDoorModOkImplC
namespace Go.Proofs.YthieikohcoajbaaDoor
open Go.ChangeShapes Go.WideShapes Go.ChangeAt Go.RowKit
set_option linter.unusedVariables false

set_option maxHeartbeats 8000000 in
set_option maxRecDepth 100000 in
theorem exportsOk_any (w : World) (v : Value) (es : List Rf) (hT : Tabs w) (h : Rows w All 2 HRf v es) :
    Calls Tryd.prog 31 #[v] w fun e w' => e = .returned (.bool (decide (es.length ≤ 20) && rfsB es)) ∧ Below w.heap.size w w' := by
  have HT : Hid (Tabs w) := hT
  obtain ⟨p, cap, rfl, hcl, hcm, hx⟩ := h
  have hnb : es.length ≤ 9223372036854775807 := by unfold maxLen at hcm; omega
  have hfn : rfsB es = (List.range es.length).all (rfsAt es) := rfl
  rw [hfn]
  clear hfn
  generalize hn : es.length = n at *
  have HN : Hid (es.length = n) := hn
  have HX : Hid (es ≠ [] → ∃ g off, p = some ⟨g, off, none⟩ ∧ All g ∧ g < w.heap.size ∧ ∀ i x, es[i]? = some x → ∃ cs, cs.length = 2 ∧ (∀ j, j < 2 → w.cell? ⟨g, off + i * 2 + j, none⟩ = cs[j]?) ∧ HRf cs x) := hx
  clear hx hn hT
  by_cases h20 : n ≤ 20
  · have h21 : ¬ (20 : Int) < (n : Int) := by omega
    rw [decide_eq_true h20]
    go_enter Tryd.func31, Tryd.ntmps31
    go_wp2_with fail
    go_loopw [10] (fun iv wr => ∃ k : Nat, k ≤ n ∧ iv = .int .i64 k ∧ Hid ((List.range k).all (rfsAt es) = true) ∧ Below w.heap.size w wr) (fun iv _ => n - (intOf iv).toNat)
    case atStart => exact ⟨0, Nat.zero_le _, rfl, by show _ = _; simp, Below.refl _ _⟩
    case round =>
      obtain ⟨k, hk, rfl, hall, hb⟩ := hrel
      have HB : Hid (Below w.heap.size w wr) := hb
      by_cases hlt : k < n
      · obtain ⟨x, hxk⟩ : ∃ x, es[k]? = some x := ⟨es[k]'(by rw [HN.out]; exact hlt), List.getElem?_eq_getElem _⟩
        obtain ⟨g, off, rfl, -, hgl, hat⟩ := HX.out (by intro h; rw [h] at hxk; simp at hxk)
        obtain ⟨cs, hcsl, hcs, r1⟩ := hat k x hxk
        obtain ⟨rfl, hxs, -⟩ := r1
        have hgw : g < wr.heap.size := Nat.lt_of_lt_of_le hgl hb.size
        have HAT0 : Hid (k = 0 → rfsAt es k = refB x) := fun h => rfsAt_zero h hxk
        have HATS : Hid (∀ j, k = j + 1 → ∃ q : Rf, rfsAt es k = (refB x && lessB q x) ∧ okS q.name ∧ wr.cell? ⟨g, off + j * 2, none⟩ = some (.string q.name) ∧ wr.cell? ⟨g, off + j * 2 + 1, none⟩ = some (.int .i64 q.arity)) := fun j hj => by
          obtain ⟨q, hq⟩ : ∃ q, es[j]? = some q := ⟨es[j]'(by rw [HN.out]; omega), List.getElem?_eq_getElem _⟩
          obtain ⟨cs', _, hcs', rfl, hqs, _⟩ := hat j q hq
          have b0 := hcs' 0 (by omega)
          have b1 := hcs' 1 (by omega)
          rw [← hb.cell (p := ⟨g, _, none⟩) hgl] at b0 b1
          exact ⟨q, rfsAt_succ (by omega) (by rw [hj]; exact hq) hxk, hqs, by simpa using b0, by simpa using b1⟩
        have a0 := hcs 0 (by omega)
        have a1 := hcs 1 (by omega)
        rw [← hb.cell (p := ⟨g, _, none⟩) hgl] at a0 a1
        simp at a0 a1
        have hki : (k : Int) < (n : Int) := by omega
        have hk0 : (0 : Int) ≤ (k : Int) := by omega
        generalize hca : refB x = ca at *
        have HCA : Hid (refB x = ca) := hca
        obtain ⟨xs, xn⟩ := x
        simp only at *
        obtain ⟨W5, hW5⟩ : ∃ W5, W5 = wr.alloc (.cells #[.string xs, .int .i64 xn] 51) := ⟨_, rfl⟩
        have bF : Hid (Blk W5 wr.heap.size #[.string xs, .int .i64 xn] 51) := by show Blk _ _ _ _; rw [hW5]; exact Blk.new
        have K5 : Hid (Below wr.heap.size wr W5) := by show Below _ _ _; rw [hW5]; exact (Below.refl _ _).alloc (Nat.le_refl _) _
        have B5 : Hid (Below w.heap.size w W5) := hb.trans (K5.out.mono hb.size)
        have HW5 : Hid (W5 = wr.alloc (.cells #[.string xs, .int .i64 xn] 51)) := hW5
        have hg5 : g < W5.heap.size := Nat.lt_of_lt_of_le hgw K5.out.size
        have z0 := bF.out.cell 0 _ rfl
        have z1 := bF.out.cell 1 _ rfl
        have l2 := bF.out.lt
        have qz0 : ∀ m : Wd (fun w' => SameOn All W5 w' ∧ Below w.heap.size w w'), m.val.cell? ⟨wr.heap.size, 0, none⟩ = some (.string xs) := fun m => (World.cell?_of_block (m.ok.1.2 wr.heap.size trivial l2)).trans z0
        have qz1 : ∀ m : Wd (fun w' => SameOn All W5 w' ∧ Below w.heap.size w w'), m.val.cell? ⟨wr.heap.size, 1, none⟩ = some (.int .i64 xn) := fun m => (World.cell?_of_block (m.ok.1.2 wr.heap.size trivial l2)).trans z1
        clear hb hcs hat hcsl hW5 z0 z1 l2 hca
        cases ca with
        | false =>
          have HF : Hid ((List.range n).all (rfsAt es) = false) := rangeT_at _ n k hlt (by
            rcases Nat.eq_zero_or_pos k with h | h
            · exact HAT0.out h
            · obtain ⟨q, hq, _⟩ := HATS.out (k - 1) (by omega)
              rw [hq]; rfl)
          clear HAT0 HATS
          go_wp2_with fail
          rw [← HW5.out]
          have hCne : Nonempty (Wd (fun w' => SameOn All W5 w' ∧ Below w.heap.size w w')) := ⟨⟨W5.drew, ⟨⟨Nat.le_refl _, fun _ _ _ => rfl⟩, B5.out.drew⟩⟩⟩
          refine wp_region_class (fun w' => SameOn All W5 w' ∧ Below w.heap.size w w') (by kernel_rfl) (by kernel_rfl) ⟨⟨Nat.le_refl _, fun _ _ _ => rfl⟩, B5.out.drew⟩ ?_
          repeat (go_big_quiet_step (first | (rename_i m; go_at_call 48; refine (refOk_any ⟨xs, xn⟩ _ hxs (HT.out.below m.ok.2).keys).mono ?_; rintro e w1 ⟨rfl, hb1⟩; exact ⟨by rw [HCA.out], ⟨⟨w1, ⟨(SameOn.trans m.ok.1 (SameOn.of_below hb1)), m.ok.2.trans (hb1.mono m.ok.2.size)⟩⟩, rfl⟩⟩)))
          refine wpQuiet_nil ?_
          rintro _ ⟨mq, rfl⟩
          have HB4 : Hid (Below w.heap.size w mq.val) := mq.ok.2
          have HS4 : Hid (SameOn All W5 mq.val) := mq.ok.1
          generalize mq.val = w4 at HB4 HS4 ⊢
          go_wp2_with fail
          go_ret
          exact ⟨by rw [HF.out]; rfl, HB4.out⟩
        | true =>
          rcases Nat.eq_zero_or_pos k with hz | hz
          · have HT' : Hid ((List.range (k + 1)).all (rfsAt es) = true) := rangeT_succ _ k hall.out (HAT0.out hz)
            have hz1 : ¬ (0 : Int) < (k : Int) := by omega
            have hz3 : ¬ 0 < k := by omega
            have hz4 : decide (0 < k) = false := decide_eq_false hz3
            clear HAT0 HATS hz
            go_wp2_with fail
            rw [← HW5.out]
            have hCne : Nonempty (Wd (fun w' => SameOn All W5 w' ∧ Below w.heap.size w w')) := ⟨⟨W5.drew, ⟨⟨Nat.le_refl _, fun _ _ _ => rfl⟩, B5.out.drew⟩⟩⟩
            refine wp_region_class (fun w' => SameOn All W5 w' ∧ Below w.heap.size w w') (by kernel_rfl) (by kernel_rfl) ⟨⟨Nat.le_refl _, fun _ _ _ => rfl⟩, B5.out.drew⟩ ?_
            repeat (go_big_quiet_step (first | (rename_i m; go_at_call 48; refine (refOk_any ⟨xs, xn⟩ _ hxs (HT.out.below m.ok.2).keys).mono ?_; rintro e w1 ⟨rfl, hb1⟩; exact ⟨by rw [HCA.out], ⟨⟨w1, ⟨(SameOn.trans m.ok.1 (SameOn.of_below hb1)), m.ok.2.trans (hb1.mono m.ok.2.size)⟩⟩, rfl⟩⟩)))
            refine wpQuiet_nil ?_
            rintro _ ⟨mq, rfl⟩
            have HB4 : Hid (Below w.heap.size w mq.val) := mq.ok.2
            have HS4 : Hid (SameOn All W5 mq.val) := mq.ok.1
            generalize mq.val = w4 at HB4 HS4 ⊢
            go_wp2_with fail
            exact ⟨⟨k + 1, by omega, by go_num, HT'.out, HB4.out⟩, by simp [intOf]; omega⟩
          · obtain ⟨j, rfl⟩ : ∃ j, k = j + 1 := ⟨k - 1, by omega⟩
            obtain ⟨q, hat, hqs, y0, y1⟩ := HATS.out j rfl
            have HAT : Hid (rfsAt es (j + 1) = (true && lessB q ⟨xs, xn⟩)) := hat
            obtain ⟨qs, qn⟩ := q
            simp only at *
            have qy0 : ∀ m : Wd (fun w' => SameOn All W5 w' ∧ Below w.heap.size w w'), m.val.cell? ⟨g, off + j * 2, none⟩ = some (.string qs) := fun m => (World.cell?_of_block (m.ok.1.2 g trivial hg5)).trans (cell_next K5.out y0)
            have qy1 : ∀ m : Wd (fun w' => SameOn All W5 w' ∧ Below w.heap.size w w'), m.val.cell? ⟨g, off + j * 2 + 1, none⟩ = some (.int .i64 qn) := fun m => (World.cell?_of_block (m.ok.1.2 g trivial hg5)).trans (cell_next K5.out y1)
            have hji : (j : Int) < (n : Int) := by omega
            have hj0 : (0 : Int) ≤ (j : Int) := by omega
            have hj1 : (0 : Int) < (j : Int) + 1 := by omega
            generalize hz9 : cmpRf ⟨qs, qn⟩ ⟨xs, xn⟩ = z
            have HZ : Hid (cmpRf ⟨qs, qn⟩ ⟨xs, xn⟩ = z) := hz9
            have HL : Hid (lessB ⟨qs, qn⟩ ⟨xs, xn⟩ = decide (z < 0)) := by show _ = _; unfold lessB; rw [hz9]
            clear HAT0 HATS hat hz y0 y1 hz9
            by_cases hzl : z < 0
            · have HT' : Hid ((List.range (j + 1 + 1)).all (rfsAt es) = true) := rangeT_succ _ (j + 1) hall.out (by rw [HAT.out, HL.out, decide_eq_true hzl]; rfl)
              have hzl2 : ¬ 0 ≤ z := by omega
              go_wp2_with fail
              rw [← HW5.out]
              have hCne : Nonempty (Wd (fun w' => SameOn All W5 w' ∧ Below w.heap.size w w')) := ⟨⟨W5.drew, ⟨⟨Nat.le_refl _, fun _ _ _ => rfl⟩, B5.out.drew⟩⟩⟩
              refine wp_region_class (fun w' => SameOn All W5 w' ∧ Below w.heap.size w w') (by kernel_rfl) (by kernel_rfl) ⟨⟨Nat.le_refl _, fun _ _ _ => rfl⟩, B5.out.drew⟩ ?_
              repeat (go_big_quiet_step (first | (rename_i m; go_at_call 48; refine (refOk_any ⟨xs, xn⟩ _ hxs (HT.out.below m.ok.2).keys).mono ?_; rintro e w1 ⟨rfl, hb1⟩; exact ⟨by rw [HCA.out], ⟨⟨w1, ⟨(SameOn.trans m.ok.1 (SameOn.of_below hb1)), m.ok.2.trans (hb1.mono m.ok.2.size)⟩⟩, rfl⟩⟩) | (rename_i m; go_at_call 49; refine (compareRef_any ⟨qs, qn⟩ ⟨xs, xn⟩ _).mono ?_; rintro e w1 ⟨rfl, hb1⟩; exact ⟨by rw [HZ.out], ⟨⟨w1, ⟨(SameOn.trans m.ok.1 (SameOn.of_below hb1)), m.ok.2.trans (hb1.mono m.ok.2.size)⟩⟩, rfl⟩⟩)))
              refine wpQuiet_nil ?_
              rintro _ ⟨mq, rfl⟩
              have HB4 : Hid (Below w.heap.size w mq.val) := mq.ok.2
              have HS4 : Hid (SameOn All W5 mq.val) := mq.ok.1
              generalize mq.val = w4 at HB4 HS4 ⊢
              go_wp2_with fail
              exact ⟨⟨j + 1 + 1, by omega, by go_num, HT'.out, HB4.out⟩, by simp [intOf]; omega⟩
            · have HF : Hid ((List.range n).all (rfsAt es) = false) := rangeT_at _ n (j + 1) hlt (by rw [HAT.out, HL.out, decide_eq_false hzl]; rfl)
              have hzl2 : 0 ≤ z := by omega
              go_wp2_with fail
              rw [← HW5.out]
              have hCne : Nonempty (Wd (fun w' => SameOn All W5 w' ∧ Below w.heap.size w w')) := ⟨⟨W5.drew, ⟨⟨Nat.le_refl _, fun _ _ _ => rfl⟩, B5.out.drew⟩⟩⟩
              refine wp_region_class (fun w' => SameOn All W5 w' ∧ Below w.heap.size w w') (by kernel_rfl) (by kernel_rfl) ⟨⟨Nat.le_refl _, fun _ _ _ => rfl⟩, B5.out.drew⟩ ?_
              repeat (go_big_quiet_step (first | (rename_i m; go_at_call 48; refine (refOk_any ⟨xs, xn⟩ _ hxs (HT.out.below m.ok.2).keys).mono ?_; rintro e w1 ⟨rfl, hb1⟩; exact ⟨by rw [HCA.out], ⟨⟨w1, ⟨(SameOn.trans m.ok.1 (SameOn.of_below hb1)), m.ok.2.trans (hb1.mono m.ok.2.size)⟩⟩, rfl⟩⟩) | (rename_i m; go_at_call 49; refine (compareRef_any ⟨qs, qn⟩ ⟨xs, xn⟩ _).mono ?_; rintro e w1 ⟨rfl, hb1⟩; exact ⟨by rw [HZ.out], ⟨⟨w1, ⟨(SameOn.trans m.ok.1 (SameOn.of_below hb1)), m.ok.2.trans (hb1.mono m.ok.2.size)⟩⟩, rfl⟩⟩)))
              refine wpQuiet_nil ?_
              rintro _ ⟨mq, rfl⟩
              have HB4 : Hid (Below w.heap.size w mq.val) := mq.ok.2
              have HS4 : Hid (SameOn All W5 mq.val) := mq.ok.1
              generalize mq.val = w4 at HB4 HS4 ⊢
              go_wp2_with fail
              go_ret
              exact ⟨by rw [HF.out]; rfl, HB4.out⟩
      · have HD : Hid ((List.range n).all (rfsAt es) = true) := by
          obtain rfl : k = n := by omega
          exact hall.out
        clear hb
        go_wp2_with fail
        go_ret
        exact ⟨by rw [HD.out]; rfl, HB.out⟩
  · have h21 : (20 : Int) < (n : Int) := by omega
    rw [decide_eq_false h20]
    go_enter Tryd.func31, Tryd.ntmps31
    go_wp2_with fail
    go_ret
    exact ⟨by simp, Below.refl _ _⟩

set_option maxHeartbeats 4000000 in
/-- THE PROGRAM's ModuleOk. -/
theorem implModuleOk_any (d : Nat) (w : World) (cs : List Value) (m : Md) (hT : Tabs w) (h : HMd w All d cs m) :
    Calls Tryd.prog 17 #[.agg cs.toArray] w fun e w' => e = .returned (.bool (mdOk d m)) ∧ Below w.heap.size w w' := by
  have HT : Hid (Tabs w) := hT
  obtain ⟨ev, fv, rfl, hs, f0, f1⟩ := h
  obtain ⟨ms, es, fs⟩ := m
  simp only at *
  have BL : Hid (∀ (cs : Array Value) (t : TypeId), Below w.heap.size w (w.alloc (.cells cs t))) := fun cs t => (Below.refl _ _).alloc (Nat.le_refl _) _
  have F0 : ∀ w', Below w.heap.size w w' → Rows w' All 2 HRf ev es := fun w' hw => f0.mono (SameOn.of_below hw) (fun _ h => h) (fun _ _ _ h => h)
  have F1 : ∀ w', Below w.heap.size w w' → Rows w' All 3 (HFn w' All d) fv fs := fun w' hw => f1.mono (SameOn.of_below hw) (fun _ h => h) (fun _ _ _ h => h.mono (SameOn.of_below hw) (fun _ h => h))
  obtain ⟨p, cap, rfl, -, -, -⟩ := f0
  obtain ⟨q, cap', rfl, -, -, -⟩ := f1
  have hv : mdOk d ⟨ms, es, fs⟩ = (atomB ms && ((decide (es.length ≤ 20) && rfsB es) && (inB fs.length 1 30 && fnsB d fs))) := rfl
  rw [hv]
  clear hv hT
  cases ha : atomB ms with
  | false =>
    go_enter Tryd.func17, Tryd.ntmps17
    go_wp2_with (first | (go_at_call 30; go_must (refine (implAtomOk_any _ _ hs (HT.out.below (BL.out _ _)).keys).mono ?_; rintro e w9 ⟨rfl, rfl⟩; rw [ha])))
    go_ret
    exact ⟨by simp, BL.out _ _⟩
  | true =>
    cases he : (decide (es.length ≤ 20) && rfsB es) with
    | false =>
      go_enter Tryd.func17, Tryd.ntmps17
      go_wp2_with (first | (go_at_call 30; go_must (refine (implAtomOk_any _ _ hs (HT.out.below (BL.out _ _)).keys).mono ?_; rintro e w9 ⟨rfl, rfl⟩; rw [ha])))
      refine (exportsOk_any _ _ es (HT.out.below (BL.out _ _)) (F0 _ (BL.out _ _))).mono ?_
      rintro e w2 ⟨rfl, hb2⟩
      rw [he]
      have B2 : Hid (Below w.heap.size w w2) := (BL.out _ _).trans (hb2.mono (BL.out _ _).size)
      clear hb2
      go_wp2_with fail
      go_ret
      exact ⟨by simp, B2.out⟩
    | true =>
      go_enter Tryd.func17, Tryd.ntmps17
      go_wp2_with (first | (go_at_call 30; go_must (refine (implAtomOk_any _ _ hs (HT.out.below (BL.out _ _)).keys).mono ?_; rintro e w9 ⟨rfl, rfl⟩; rw [ha])))
      refine (exportsOk_any _ _ es (HT.out.below (BL.out _ _)) (F0 _ (BL.out _ _))).mono ?_
      rintro e w2 ⟨rfl, hb2⟩
      rw [he]
      have B2 : Hid (Below w.heap.size w w2) := (BL.out _ _).trans (hb2.mono (BL.out _ _).size)
      have hbk := (Blk.new (w := w) (cs := #[.string ms, .slice p es.length cap, .slice q fs.length cap']) (t := 45)).next hb2
      have a2 := hbk.cell 2 _ rfl
      clear hb2 hbk
      go_wp2_with fail
      refine (funsOk_any d _ _ fs (HT.out.below B2.out) (F1 _ B2.out)).mono ?_
      rintro e w3 ⟨rfl, hb3⟩
      have B3 : Hid (Below w.heap.size w w3) := B2.out.trans (hb3.mono B2.out.size)
      clear hb3
      go_wp2_with fail
      go_ret
      exact ⟨by simp, B3.out⟩
end Go.Proofs.YthieikohcoajbaaDoor
