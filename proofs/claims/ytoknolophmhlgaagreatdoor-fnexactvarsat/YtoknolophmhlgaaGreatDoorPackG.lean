/-
  Texts of the proof, packed: ModOkImplD, ProgOkA, StrRow, CheckMath, PlBase, Wt.
-/
import Derived.Test.YtoknolophmhlgaaGreatDoorPackF
import Derived.Test.YtoknolophmhlgaaGreatDoorPackA
import Derived.Laws.AppendOwn
import Derived.Laws.AppendOwnNone
import Derived.OwnWalk
/-
  The program's ModuleOk, by contract: exports, modules.
-/
namespace Go.Proofs.YtoknolophmhlgaaGreatDoor
open Go.ChangeShapes Go.WideShapes Go.ChangeAt Go.RowKit
set_option linter.unusedVariables false

set_option maxHeartbeats 8000000 in
set_option maxRecDepth 100000 in
theorem exportsOk_any (w : World) (v : Value) (es : List Rf) (hT : Tabs w) (h : Rows w All 2 HRf v es) :
    Calls Tryz.prog 58 #[v] w fun e w' => e = .returned (.bool (decide (es.length ≤ 20) && rfsB es)) ∧ Below w.heap.size w w' := by
  have HT : Hid (Tabs w) := hT
  obtain ⟨p, cap, rfl, hcl, hcm, hx⟩ := h
  have hnb : es.length ≤ 9223372036854775807 := by unfold maxLen at hcm; omega
  have hfn : rfsB es = (List.range es.length).all (rfsAt es) := rfl
  rw [hfn]
  clear hfn
  generalize hn : es.length = n at *
  have HN : Hid (es.length = n) := hn
  have HX : Hid (es ≠ [] → ∃ g off, p = some ⟨g, off, none⟩ ∧ All g ∧ g < w.heap.size ∧ ∀ i x, es[i]? = some x → ∃ cs, cs.length = 2 ∧ (∀ j, j < 2 → w.cell? ⟨g, off + i * 2 + j, none⟩ = cs[j]?) ∧ HRf cs x) := hx
  clear hx hn hT
  by_cases h20 : n ≤ 20
  · have h21 : ¬ (20 : Int) < (n : Int) := by omega
    rw [decide_eq_true h20]
    go_enter Tryz.func58, Tryz.ntmps58
    go_wp2_with fail
    go_loopw [10] (fun iv wr => ∃ k : Nat, k ≤ n ∧ iv = .int .i64 k ∧ Hid ((List.range k).all (rfsAt es) = true) ∧ Below w.heap.size w wr) (fun iv _ => n - (intOf iv).toNat)
    case atStart => exact ⟨0, Nat.zero_le _, rfl, by show _ = _; simp, Below.refl _ _⟩
    case round =>
      obtain ⟨k, hk, rfl, hall, hb⟩ := hrel
      have HB : Hid (Below w.heap.size w wr) := hb
      by_cases hlt : k < n
      · obtain ⟨x, hxk⟩ : ∃ x, es[k]? = some x := ⟨es[k]'(by rw [HN.out]; exact hlt), List.getElem?_eq_getElem _⟩
        obtain ⟨g, off, rfl, -, hgl, hat⟩ := HX.out (by intro h; rw [h] at hxk; simp at hxk)
        obtain ⟨cs, hcsl, hcs, r1⟩ := hat k x hxk
        obtain ⟨rfl, hxs, -⟩ := r1
        have hgw : g < wr.heap.size := Nat.lt_of_lt_of_le hgl hb.size
        have HAT0 : Hid (k = 0 → rfsAt es k = refB x) := fun h => rfsAt_zero h hxk
        have HATS : Hid (∀ j, k = j + 1 → ∃ q : Rf, rfsAt es k = (refB x && lessB q x) ∧ okS q.name ∧ wr.cell? ⟨g, off + j * 2, none⟩ = some (.string q.name) ∧ wr.cell? ⟨g, off + j * 2 + 1, none⟩ = some (.int .i64 q.arity)) := fun j hj => by
          obtain ⟨q, hq⟩ : ∃ q, es[j]? = some q := ⟨es[j]'(by rw [HN.out]; omega), List.getElem?_eq_getElem _⟩
          obtain ⟨cs', _, hcs', rfl, hqs, _⟩ := hat j q hq
          have b0 := hcs' 0 (by omega)
          have b1 := hcs' 1 (by omega)
          rw [← hb.cell (p := ⟨g, _, none⟩) hgl] at b0 b1
          exact ⟨q, rfsAt_succ (by omega) (by rw [hj]; exact hq) hxk, hqs, by simpa using b0, by simpa using b1⟩
        have a0 := hcs 0 (by omega)
        have a1 := hcs 1 (by omega)
        rw [← hb.cell (p := ⟨g, _, none⟩) hgl] at a0 a1
        simp at a0 a1
        have hki : (k : Int) < (n : Int) := by omega
        have hk0 : (0 : Int) ≤ (k : Int) := by omega
        generalize hca : refB x = ca at *
        have HCA : Hid (refB x = ca) := hca
        obtain ⟨xs, xn⟩ := x
        simp only at *
        obtain ⟨W5, hW5⟩ : ∃ W5, W5 = wr.alloc (.cells #[.string xs, .int .i64 xn] 88) := ⟨_, rfl⟩
        have bF : Hid (Blk W5 wr.heap.size #[.string xs, .int .i64 xn] 88) := by show Blk _ _ _ _; rw [hW5]; exact Blk.new
        have K5 : Hid (Below wr.heap.size wr W5) := by show Below _ _ _; rw [hW5]; exact (Below.refl _ _).alloc (Nat.le_refl _) _
        have B5 : Hid (Below w.heap.size w W5) := hb.trans (K5.out.mono hb.size)
        have HW5 : Hid (W5 = wr.alloc (.cells #[.string xs, .int .i64 xn] 88)) := hW5
        have hg5 : g < W5.heap.size := Nat.lt_of_lt_of_le hgw K5.out.size
        have z0 := bF.out.cell 0 _ rfl
        have z1 := bF.out.cell 1 _ rfl
        have l2 := bF.out.lt
        have qz0 : ∀ m : Wd (fun w' => SameOn All W5 w' ∧ Below w.heap.size w w'), m.val.cell? ⟨wr.heap.size, 0, none⟩ = some (.string xs) := fun m => (World.cell?_of_block (m.ok.1.2 wr.heap.size trivial l2)).trans z0
        have qz1 : ∀ m : Wd (fun w' => SameOn All W5 w' ∧ Below w.heap.size w w'), m.val.cell? ⟨wr.heap.size, 1, none⟩ = some (.int .i64 xn) := fun m => (World.cell?_of_block (m.ok.1.2 wr.heap.size trivial l2)).trans z1
        clear hb hcs hat hcsl hW5 z0 z1 l2 hca
        cases ca with
        | false =>
          have HF : Hid ((List.range n).all (rfsAt es) = false) := rangeT_at _ n k hlt (by
            rcases Nat.eq_zero_or_pos k with h | h
            · exact HAT0.out h
            · obtain ⟨q, hq, _⟩ := HATS.out (k - 1) (by omega)
              rw [hq]; rfl)
          clear HAT0 HATS
          go_wp2_with fail
          rw [← HW5.out]
          have hCne : Nonempty (Wd (fun w' => SameOn All W5 w' ∧ Below w.heap.size w w')) := ⟨⟨W5.drew, ⟨⟨Nat.le_refl _, fun _ _ _ => rfl⟩, B5.out.drew⟩⟩⟩
          refine wp_region_class (fun w' => SameOn All W5 w' ∧ Below w.heap.size w w') (by kernel_rfl) (by kernel_rfl) ⟨⟨Nat.le_refl _, fun _ _ _ => rfl⟩, B5.out.drew⟩ ?_
          repeat (go_big_quiet_step (first | (rename_i m; go_at_call 78; refine (refOk_any ⟨xs, xn⟩ _ hxs (HT.out.below m.ok.2).keys).mono ?_; rintro e w1 ⟨rfl, hb1⟩; exact ⟨by rw [HCA.out], ⟨⟨w1, ⟨(SameOn.trans m.ok.1 (SameOn.of_below hb1)), m.ok.2.trans (hb1.mono m.ok.2.size)⟩⟩, rfl⟩⟩)))
          refine wpQuiet_nil ?_
          rintro _ ⟨mq, rfl⟩
          have HB4 : Hid (Below w.heap.size w mq.val) := mq.ok.2
          have HS4 : Hid (SameOn All W5 mq.val) := mq.ok.1
          generalize mq.val = w4 at HB4 HS4 ⊢
          go_wp2_with fail
          go_ret
          exact ⟨by rw [HF.out]; rfl, HB4.out⟩
        | true =>
          rcases Nat.eq_zero_or_pos k with hz | hz
          · have HT' : Hid ((List.range (k + 1)).all (rfsAt es) = true) := rangeT_succ _ k hall.out (HAT0.out hz)
            have hz1 : ¬ (0 : Int) < (k : Int) := by omega
            have hz3 : ¬ 0 < k := by omega
            have hz4 : decide (0 < k) = false := decide_eq_false hz3
            clear HAT0 HATS hz
            go_wp2_with fail
            rw [← HW5.out]
            have hCne : Nonempty (Wd (fun w' => SameOn All W5 w' ∧ Below w.heap.size w w')) := ⟨⟨W5.drew, ⟨⟨Nat.le_refl _, fun _ _ _ => rfl⟩, B5.out.drew⟩⟩⟩
            refine wp_region_class (fun w' => SameOn All W5 w' ∧ Below w.heap.size w w') (by kernel_rfl) (by kernel_rfl) ⟨⟨Nat.le_refl _, fun _ _ _ => rfl⟩, B5.out.drew⟩ ?_
            repeat (go_big_quiet_step (first | (rename_i m; go_at_call 78; refine (refOk_any ⟨xs, xn⟩ _ hxs (HT.out.below m.ok.2).keys).mono ?_; rintro e w1 ⟨rfl, hb1⟩; exact ⟨by rw [HCA.out], ⟨⟨w1, ⟨(SameOn.trans m.ok.1 (SameOn.of_below hb1)), m.ok.2.trans (hb1.mono m.ok.2.size)⟩⟩, rfl⟩⟩)))
            refine wpQuiet_nil ?_
            rintro _ ⟨mq, rfl⟩
            have HB4 : Hid (Below w.heap.size w mq.val) := mq.ok.2
            have HS4 : Hid (SameOn All W5 mq.val) := mq.ok.1
            generalize mq.val = w4 at HB4 HS4 ⊢
            go_wp2_with fail
            exact ⟨⟨k + 1, by omega, by go_num, HT'.out, HB4.out⟩, by simp [intOf]; omega⟩
          · obtain ⟨j, rfl⟩ : ∃ j, k = j + 1 := ⟨k - 1, by omega⟩
            obtain ⟨q, hat, hqs, y0, y1⟩ := HATS.out j rfl
            have HAT : Hid (rfsAt es (j + 1) = (true && lessB q ⟨xs, xn⟩)) := hat
            obtain ⟨qs, qn⟩ := q
            simp only at *
            have qy0 : ∀ m : Wd (fun w' => SameOn All W5 w' ∧ Below w.heap.size w w'), m.val.cell? ⟨g, off + j * 2, none⟩ = some (.string qs) := fun m => (World.cell?_of_block (m.ok.1.2 g trivial hg5)).trans (cell_next K5.out y0)
            have qy1 : ∀ m : Wd (fun w' => SameOn All W5 w' ∧ Below w.heap.size w w'), m.val.cell? ⟨g, off + j * 2 + 1, none⟩ = some (.int .i64 qn) := fun m => (World.cell?_of_block (m.ok.1.2 g trivial hg5)).trans (cell_next K5.out y1)
            have hji : (j : Int) < (n : Int) := by omega
            have hj0 : (0 : Int) ≤ (j : Int) := by omega
            have hj1 : (0 : Int) < (j : Int) + 1 := by omega
            generalize hz9 : cmpRf ⟨qs, qn⟩ ⟨xs, xn⟩ = z
            have HZ : Hid (cmpRf ⟨qs, qn⟩ ⟨xs, xn⟩ = z) := hz9
            have HL : Hid (lessB ⟨qs, qn⟩ ⟨xs, xn⟩ = decide (z < 0)) := by show _ = _; unfold lessB; rw [hz9]
            clear HAT0 HATS hat hz y0 y1 hz9
            by_cases hzl : z < 0
            · have HT' : Hid ((List.range (j + 1 + 1)).all (rfsAt es) = true) := rangeT_succ _ (j + 1) hall.out (by rw [HAT.out, HL.out, decide_eq_true hzl]; rfl)
              have hzl2 : ¬ 0 ≤ z := by omega
              go_wp2_with fail
              rw [← HW5.out]
              have hCne : Nonempty (Wd (fun w' => SameOn All W5 w' ∧ Below w.heap.size w w')) := ⟨⟨W5.drew, ⟨⟨Nat.le_refl _, fun _ _ _ => rfl⟩, B5.out.drew⟩⟩⟩
              refine wp_region_class (fun w' => SameOn All W5 w' ∧ Below w.heap.size w w') (by kernel_rfl) (by kernel_rfl) ⟨⟨Nat.le_refl _, fun _ _ _ => rfl⟩, B5.out.drew⟩ ?_
              repeat (go_big_quiet_step (first | (rename_i m; go_at_call 78; refine (refOk_any ⟨xs, xn⟩ _ hxs (HT.out.below m.ok.2).keys).mono ?_; rintro e w1 ⟨rfl, hb1⟩; exact ⟨by rw [HCA.out], ⟨⟨w1, ⟨(SameOn.trans m.ok.1 (SameOn.of_below hb1)), m.ok.2.trans (hb1.mono m.ok.2.size)⟩⟩, rfl⟩⟩) | (rename_i m; go_at_call 79; refine (compareRef_any ⟨qs, qn⟩ ⟨xs, xn⟩ _).mono ?_; rintro e w1 ⟨rfl, hb1⟩; exact ⟨by rw [HZ.out], ⟨⟨w1, ⟨(SameOn.trans m.ok.1 (SameOn.of_below hb1)), m.ok.2.trans (hb1.mono m.ok.2.size)⟩⟩, rfl⟩⟩)))
              refine wpQuiet_nil ?_
              rintro _ ⟨mq, rfl⟩
              have HB4 : Hid (Below w.heap.size w mq.val) := mq.ok.2
              have HS4 : Hid (SameOn All W5 mq.val) := mq.ok.1
              generalize mq.val = w4 at HB4 HS4 ⊢
              go_wp2_with fail
              exact ⟨⟨j + 1 + 1, by omega, by go_num, HT'.out, HB4.out⟩, by simp [intOf]; omega⟩
            · have HF : Hid ((List.range n).all (rfsAt es) = false) := rangeT_at _ n (j + 1) hlt (by rw [HAT.out, HL.out, decide_eq_false hzl]; rfl)
              have hzl2 : 0 ≤ z := by omega
              go_wp2_with fail
              rw [← HW5.out]
              have hCne : Nonempty (Wd (fun w' => SameOn All W5 w' ∧ Below w.heap.size w w')) := ⟨⟨W5.drew, ⟨⟨Nat.le_refl _, fun _ _ _ => rfl⟩, B5.out.drew⟩⟩⟩
              refine wp_region_class (fun w' => SameOn All W5 w' ∧ Below w.heap.size w w') (by kernel_rfl) (by kernel_rfl) ⟨⟨Nat.le_refl _, fun _ _ _ => rfl⟩, B5.out.drew⟩ ?_
              repeat (go_big_quiet_step (first | (rename_i m; go_at_call 78; refine (refOk_any ⟨xs, xn⟩ _ hxs (HT.out.below m.ok.2).keys).mono ?_; rintro e w1 ⟨rfl, hb1⟩; exact ⟨by rw [HCA.out], ⟨⟨w1, ⟨(SameOn.trans m.ok.1 (SameOn.of_below hb1)), m.ok.2.trans (hb1.mono m.ok.2.size)⟩⟩, rfl⟩⟩) | (rename_i m; go_at_call 79; refine (compareRef_any ⟨qs, qn⟩ ⟨xs, xn⟩ _).mono ?_; rintro e w1 ⟨rfl, hb1⟩; exact ⟨by rw [HZ.out], ⟨⟨w1, ⟨(SameOn.trans m.ok.1 (SameOn.of_below hb1)), m.ok.2.trans (hb1.mono m.ok.2.size)⟩⟩, rfl⟩⟩)))
              refine wpQuiet_nil ?_
              rintro _ ⟨mq, rfl⟩
              have HB4 : Hid (Below w.heap.size w mq.val) := mq.ok.2
              have HS4 : Hid (SameOn All W5 mq.val) := mq.ok.1
              generalize mq.val = w4 at HB4 HS4 ⊢
              go_wp2_with fail
              go_ret
              exact ⟨by rw [HF.out]; rfl, HB4.out⟩
      · have HD : Hid ((List.range n).all (rfsAt es) = true) := by
          obtain rfl : k = n := by omega
          exact hall.out
        clear hb
        go_wp2_with fail
        go_ret
        exact ⟨by rw [HD.out]; rfl, HB.out⟩
  · have h21 : (20 : Int) < (n : Int) := by omega
    rw [decide_eq_false h20]
    go_enter Tryz.func58, Tryz.ntmps58
    go_wp2_with fail
    go_ret
    exact ⟨by simp, Below.refl _ _⟩

set_option maxHeartbeats 4000000 in
/-- THE PROGRAM's ModuleOk. -/
theorem implModuleOk_any (d : Nat) (w : World) (cs : List Value) (m : Md) (hT : Tabs w) (h : HMd w All d cs m) :
    Calls Tryz.prog 37 #[.agg cs.toArray] w fun e w' => e = .returned (.bool (mdOk d m)) ∧ Below w.heap.size w w' := by
  have HT : Hid (Tabs w) := hT
  obtain ⟨ev, fv, rfl, hs, f0, f1⟩ := h
  obtain ⟨ms, es, fs⟩ := m
  simp only at *
  have BL : Hid (∀ (cs : Array Value) (t : TypeId), Below w.heap.size w (w.alloc (.cells cs t))) := fun cs t => (Below.refl _ _).alloc (Nat.le_refl _) _
  have F0 : ∀ w', Below w.heap.size w w' → Rows w' All 2 HRf ev es := fun w' hw => f0.mono (SameOn.of_below hw) (fun _ h => h) (fun _ _ _ h => h)
  have F1 : ∀ w', Below w.heap.size w w' → Rows w' All 3 (HFn w' All d) fv fs := fun w' hw => f1.mono (SameOn.of_below hw) (fun _ h => h) (fun _ _ _ h => h.mono (SameOn.of_below hw) (fun _ h => h))
  obtain ⟨p, cap, rfl, -, -, -⟩ := f0
  obtain ⟨q, cap', rfl, -, -, -⟩ := f1
  have hv : mdOk d ⟨ms, es, fs⟩ = (atomB ms && ((decide (es.length ≤ 20) && rfsB es) && (inB fs.length 1 30 && fnsB d fs))) := rfl
  rw [hv]
  clear hv hT
  cases ha : atomB ms with
  | false =>
    go_enter Tryz.func37, Tryz.ntmps37
    go_wp2_with (first | (go_at_call 57; go_must (refine (implAtomOk_any _ _ hs (HT.out.below (BL.out _ _)).keys).mono ?_; rintro e w9 ⟨rfl, rfl⟩; rw [ha])))
    go_ret
    exact ⟨by simp, BL.out _ _⟩
  | true =>
    cases he : (decide (es.length ≤ 20) && rfsB es) with
    | false =>
      go_enter Tryz.func37, Tryz.ntmps37
      go_wp2_with (first | (go_at_call 57; go_must (refine (implAtomOk_any _ _ hs (HT.out.below (BL.out _ _)).keys).mono ?_; rintro e w9 ⟨rfl, rfl⟩; rw [ha])))
      refine (exportsOk_any _ _ es (HT.out.below (BL.out _ _)) (F0 _ (BL.out _ _))).mono ?_
      rintro e w2 ⟨rfl, hb2⟩
      rw [he]
      have B2 : Hid (Below w.heap.size w w2) := (BL.out _ _).trans (hb2.mono (BL.out _ _).size)
      clear hb2
      go_wp2_with fail
      go_ret
      exact ⟨by simp, B2.out⟩
    | true =>
      go_enter Tryz.func37, Tryz.ntmps37
      go_wp2_with (first | (go_at_call 57; go_must (refine (implAtomOk_any _ _ hs (HT.out.below (BL.out _ _)).keys).mono ?_; rintro e w9 ⟨rfl, rfl⟩; rw [ha])))
      refine (exportsOk_any _ _ es (HT.out.below (BL.out _ _)) (F0 _ (BL.out _ _))).mono ?_
      rintro e w2 ⟨rfl, hb2⟩
      rw [he]
      have B2 : Hid (Below w.heap.size w w2) := (BL.out _ _).trans (hb2.mono (BL.out _ _).size)
      have hbk := (Blk.new (w := w) (cs := #[.string ms, .slice p es.length cap, .slice q fs.length cap']) (t := 53)).next hb2
      have a2 := hbk.cell 2 _ rfl
      clear hb2 hbk
      go_wp2_with fail
      refine (funsOk_any d _ _ fs (HT.out.below B2.out) (F1 _ B2.out)).mono ?_
      rintro e w3 ⟨rfl, hb3⟩
      have B3 : Hid (Below w.heap.size w w3) := B2.out.trans (hb3.mono B2.out.size)
      clear hb3
      go_wp2_with fail
      go_ret
      exact ⟨by simp, B3.out⟩
end Go.Proofs.YtoknolophmhlgaaGreatDoor
/-
  A program is right: its modules are, and ascending: both sides, by contract.
-/
namespace Go.Proofs.YtoknolophmhlgaaGreatDoor
open Go.ChangeShapes Go.WideShapes Go.ChangeAt Go.RowKit
set_option linter.unusedVariables false

/-- One module of a program: it is right, and behind the one ahead of it. -/
def mdsAt (d : Nat) (ms : List Md) (k : Nat) : Bool :=
  match ms[k]? with
  | none => true
  | some m => mdOk d m && (match k with
    | 0 => true
    | j + 1 => match ms[j]? with
      | none => true
      | some q => Op.bytesLess q.name.toList m.name.toList)
/-- Whether a program is right. -/
def pgOk (d : Nat) (ms : List Md) : Bool := decide (ms.length ≤ 10) && (List.range ms.length).all (mdsAt d ms)
theorem mdsAt_zero {d : Nat} {ms : List Md} {k : Nat} {r : Md} (hk : k = 0) (h : ms[k]? = some r) : mdsAt d ms k = mdOk d r := by
  subst hk; simp [mdsAt, h]
theorem mdsAt_succ {d : Nat} {ms : List Md} {j : Nat} {q r : Md} (hq : ms[j]? = some q) (hr : ms[j + 1]? = some r) : mdsAt d ms (j + 1) = (mdOk d r && Op.bytesLess q.name.toList r.name.toList) := by
  simp [mdsAt, hr, hq]
theorem mdsAt_bad {d : Nat} {ms : List Md} {k : Nat} {r : Md} (hr : ms[k]? = some r) (h : mdOk d r = false) : mdsAt d ms k = false := by
  simp [mdsAt, hr, h]
theorem less_flip : ∀ {a b : List UInt8}, Op.bytesLess a b = false → a ≠ b → Op.bytesLess b a = true
  | [], [], _, h => absurd rfl h
  | _ :: _, [], _, _ => rfl
  | [], _ :: _, h, _ => by simp [Op.bytesLess] at h
  | x :: a, y :: b, h, hne => by
    simp only [Op.bytesLess, Bool.or_eq_false_iff, decide_eq_false_iff_not, Bool.and_eq_false_iff, beq_eq_false_iff_ne] at h
    simp only [Op.bytesLess, Bool.or_eq_true, decide_eq_true_eq, Bool.and_eq_true, beq_iff_eq]
    by_cases hxy : x = y
    · subst hxy
      rcases h.2 with h2 | h2
      · exact absurd rfl h2
      · exact Or.inr ⟨rfl, less_flip h2 (fun e => hne (by rw [e]))⟩
    · left
      rw [UInt8.lt_iff_toNat_lt] at h ⊢
      have : x.toNat ≠ y.toNat := fun e => hxy (UInt8.toNat_inj.1 e)
      omega
theorem less_asym : ∀ {a b : List UInt8}, Op.bytesLess a b = true → Op.bytesLess b a = false
  | [], [], h => by simp [Op.bytesLess] at h
  | _ :: _, [], h => by simp [Op.bytesLess] at h
  | [], _ :: _, _ => rfl
  | x :: a, y :: b, h => by
    simp only [Op.bytesLess, Bool.or_eq_true, decide_eq_true_eq, Bool.and_eq_true, beq_iff_eq] at h
    simp only [Op.bytesLess, Bool.or_eq_false_iff, decide_eq_false_iff_not, Bool.and_eq_false_iff, beq_eq_false_iff_ne]
    rw [UInt8.lt_iff_toNat_lt] at h ⊢
    rcases h with h | ⟨rfl, h⟩
    · exact ⟨by omega, Or.inl (fun e => by rw [e] at h; omega)⟩
    · exact ⟨by omega, Or.inr (less_asym h)⟩

set_option maxHeartbeats 8000000 in
set_option maxRecDepth 100000 in
theorem specProgramOk_any (d : Nat) (w : World) (v : Value) (ms : List Md) (h : Rows w All 3 (HMd w All d) v ms) :
    Calls Tryz.prog 17 #[v] w fun e w' => e = .returned (.bool (pgOk d ms)) ∧ Below w.heap.size w w' := by
  obtain ⟨p, cap, rfl, hcl, hcm, hx⟩ := h
  have hv : pgOk d ms = (decide (ms.length ≤ 10) && (List.range ms.length).all (mdsAt d ms)) := rfl
  rw [hv]
  clear hv
  generalize hn : ms.length = n at *
  have HN : Hid (ms.length = n) := hn
  have HX : Hid (ms ≠ [] → ∃ g off, p = some ⟨g, off, none⟩ ∧ All g ∧ g < w.heap.size ∧ ∀ i x, ms[i]? = some x → ∃ cs, cs.length = 3 ∧ (∀ j, j < 3 → w.cell? ⟨g, off + i * 3 + j, none⟩ = cs[j]?) ∧ HMd w All d cs x) := hx
  have hnb : n ≤ 9223372036854775807 := by unfold maxLen at hcm; omega
  clear hx hn
  go_enter Tryz.func17, Tryz.ntmps17
  go_wp2
  go_loopw [3] (fun iv wr => ∃ k : Nat, k ≤ n ∧ iv = .int .i64 k ∧ Hid ((List.range k).all (mdsAt d ms) = true) ∧ Below w.heap.size w wr) (fun iv _ => n - (intOf iv).toNat)
  case atStart => exact ⟨0, Nat.zero_le _, rfl, by show _ = _; simp, Below.refl _ _⟩
  case round =>
    obtain ⟨k, hk, rfl, hall, hb⟩ := hrel
    have HB : Hid (Below w.heap.size w wr) := hb
    by_cases hlt : k < n
    · obtain ⟨x, hxk⟩ : ∃ x, ms[k]? = some x := ⟨ms[k]'(by rw [HN.out]; exact hlt), List.getElem?_eq_getElem _⟩
      obtain ⟨g, off, rfl, -, hgl, hat⟩ := HX.out (by intro h; rw [h] at hxk; simp at hxk)
      obtain ⟨cs, hcsl, hcs, hmd⟩ := hat k x hxk
      have hgw : g < wr.heap.size := Nat.lt_of_lt_of_le hgl hb.size
      have HATS : Hid (∀ j, k = j + 1 → ∃ q : Md, ms[j]? = some q ∧ wr.cell? ⟨g, off + j * 3, none⟩ = some (.string q.name)) := fun j hj => by
        obtain ⟨q, hq⟩ : ∃ q, ms[j]? = some q := ⟨ms[j]'(by rw [HN.out]; omega), List.getElem?_eq_getElem _⟩
        obtain ⟨cs', _, hcs', ev, fv, rfl, _⟩ := hat j q hq
        have b0 := hcs' 0 (by omega)
        rw [← hb.cell (p := ⟨g, _, none⟩) hgl] at b0
        exact ⟨q, hq, by simpa using b0⟩
      have HMD : Hid (∀ w', Below w.heap.size w w' → HMd w' All d cs x) := fun w' hw => hmd.mono (SameOn.of_below hw) (fun _ h => h)
      obtain ⟨ev, fv, rfl, hxs, f0, f1⟩ := hmd
      obtain ⟨pe, ce, rfl, -⟩ := f0
      obtain ⟨pf, cf, rfl, -⟩ := f1
      have a0 := hcs 0 (by omega)
      have a1 := hcs 1 (by omega)
      have a2 := hcs 2 (by omega)
      rw [← hb.cell (p := ⟨g, _, none⟩) hgl] at a0 a1 a2
      simp at a0 a1 a2
      have hki : (k : Int) < (n : Int) := by omega
      have hk0 : (0 : Int) ≤ (k : Int) := by omega
      generalize hca : mdOk d x = ca at *
      have HCA : Hid (mdOk d x = ca) := hca
      have HXK : Hid (ms[k]? = some x) := hxk
      have qa0 : ∀ m : Wd (fun w' => SameOn All wr w' ∧ Below w.heap.size w w'), m.val.cell? ⟨g, off + k * 3, none⟩ = some (.string x.name) := fun m => (World.cell?_of_block (m.ok.1.2 g trivial hgw)).trans a0
      have qa1 : ∀ m : Wd (fun w' => SameOn All wr w' ∧ Below w.heap.size w w'), m.val.cell? ⟨g, off + k * 3 + 1, none⟩ = some (.slice pe x.exports.length ce) := fun m => (World.cell?_of_block (m.ok.1.2 g trivial hgw)).trans a1
      have qa2 : ∀ m : Wd (fun w' => SameOn All wr w' ∧ Below w.heap.size w w'), m.val.cell? ⟨g, off + k * 3 + 2, none⟩ = some (.slice pf x.funs.length cf) := fun m => (World.cell?_of_block (m.ok.1.2 g trivial hgw)).trans a2
      clear hb hcs hat hcsl hca a0 a1 a2 hxk
      cases ca with
      | false =>
        have HF : Hid ((List.range n).all (mdsAt d ms) = false) := rangeT_at _ n k hlt (mdsAt_bad HXK.out HCA.out)
        clear HATS
        go_wp2_with fail
        have hCne : Nonempty (Wd (fun w' => SameOn All wr w' ∧ Below w.heap.size w w')) := ⟨⟨wr.drew, ⟨⟨Nat.le_refl _, fun _ _ _ => rfl⟩, HB.out.drew⟩⟩⟩
        refine wp_region_class (fun w' => SameOn All wr w' ∧ Below w.heap.size w w') (by kernel_rfl) (by kernel_rfl) ⟨⟨Nat.le_refl _, fun _ _ _ => rfl⟩, HB.out.drew⟩ ?_
        repeat (go_big_quiet_step (first | (rename_i m; go_at_call 31; refine (specModuleOk_any d _ _ x (HMD.out _ m.ok.2)).mono ?_; rintro e w1 ⟨rfl, hb1⟩; exact ⟨by rw [HCA.out], ⟨⟨w1, ⟨m.ok.1.trans (SameOn.of_below hb1), m.ok.2.trans (hb1.mono m.ok.2.size)⟩⟩, rfl⟩⟩)))
        refine wpQuiet_nil ?_
        rintro _ ⟨mq, rfl⟩
        have HB4 : Hid (Below w.heap.size w mq.val) := mq.ok.2
        have HS4 : Hid (SameOn All wr mq.val) := mq.ok.1
        generalize mq.val = w4 at HB4 HS4 ⊢
        go_wp2_with fail
        go_ret
        exact ⟨by rw [HF.out]; simp, HB4.out⟩
      | true =>
        rcases Nat.eq_zero_or_pos k with hz | hz
        · have HT' : Hid ((List.range (k + 1)).all (mdsAt d ms) = true) := rangeT_succ _ k hall.out (by rw [mdsAt_zero hz HXK.out]; exact HCA.out)
          have hz1 : ¬ (0 : Int) < (k : Int) := by omega
          have hz3 : ¬ 0 < k := by omega
          have hz4 : decide (0 < k) = false := decide_eq_false hz3
          clear HATS hz
          go_wp2_with fail
          have hCne : Nonempty (Wd (fun w' => SameOn All wr w' ∧ Below w.heap.size w w')) := ⟨⟨wr.drew, ⟨⟨Nat.le_refl _, fun _ _ _ => rfl⟩, HB.out.drew⟩⟩⟩
          refine wp_region_class (fun w' => SameOn All wr w' ∧ Below w.heap.size w w') (by kernel_rfl) (by kernel_rfl) ⟨⟨Nat.le_refl _, fun _ _ _ => rfl⟩, HB.out.drew⟩ ?_
          repeat (go_big_quiet_step (first | (rename_i m; go_at_call 31; refine (specModuleOk_any d _ _ x (HMD.out _ m.ok.2)).mono ?_; rintro e w1 ⟨rfl, hb1⟩; exact ⟨by rw [HCA.out], ⟨⟨w1, ⟨m.ok.1.trans (SameOn.of_below hb1), m.ok.2.trans (hb1.mono m.ok.2.size)⟩⟩, rfl⟩⟩)))
          refine wpQuiet_nil ?_
          rintro _ ⟨mq, rfl⟩
          have HB4 : Hid (Below w.heap.size w mq.val) := mq.ok.2
          have HS4 : Hid (SameOn All wr mq.val) := mq.ok.1
          generalize mq.val = w4 at HB4 HS4 ⊢
          go_wp2_with fail
          exact ⟨⟨k + 1, by omega, by go_num, HT'.out, HB4.out⟩, by simp [intOf]; omega⟩
        · obtain ⟨j, rfl⟩ : ∃ j, k = j + 1 := ⟨k - 1, by omega⟩
          obtain ⟨q, hqj, y0⟩ := HATS.out j rfl
          have HAT : Hid (mdsAt d ms (j + 1) = (true && Op.bytesLess q.name.toList x.name.toList)) := by show _ = _; rw [mdsAt_succ hqj HXK.out, HCA.out]
          have qy0 : ∀ m : Wd (fun w' => SameOn All wr w' ∧ Below w.heap.size w w'), m.val.cell? ⟨g, off + j * 3, none⟩ = some (.string q.name) := fun m => (World.cell?_of_block (m.ok.1.2 g trivial hgw)).trans y0
          have hji : (j : Int) < (n : Int) := by omega
          have hj0 : (0 : Int) ≤ (j : Int) := by omega
          have hj1 : (0 : Int) < (j : Int) + 1 := by omega
          clear HATS hqj hz y0
          cases hlq : Op.bytesLess x.name.toList q.name.toList with
          | true =>
            have HF : Hid ((List.range n).all (mdsAt d ms) = false) := rangeT_at _ n (j + 1) hlt (by rw [HAT.out, less_asym hlq]; rfl)
            go_wp2_with fail
            have hCne : Nonempty (Wd (fun w' => SameOn All wr w' ∧ Below w.heap.size w w')) := ⟨⟨wr.drew, ⟨⟨Nat.le_refl _, fun _ _ _ => rfl⟩, HB.out.drew⟩⟩⟩
            refine wp_region_class (fun w' => SameOn All wr w' ∧ Below w.heap.size w w') (by kernel_rfl) (by kernel_rfl) ⟨⟨Nat.le_refl _, fun _ _ _ => rfl⟩, HB.out.drew⟩ ?_
            repeat (go_big_quiet_step (first | (rename_i m; go_at_call 31; refine (specModuleOk_any d _ _ x (HMD.out _ m.ok.2)).mono ?_; rintro e w1 ⟨rfl, hb1⟩; exact ⟨by rw [HCA.out], ⟨⟨w1, ⟨m.ok.1.trans (SameOn.of_below hb1), m.ok.2.trans (hb1.mono m.ok.2.size)⟩⟩, rfl⟩⟩)))
            refine wpQuiet_nil ?_
            rintro _ ⟨mq, rfl⟩
            have HB4 : Hid (Below w.heap.size w mq.val) := mq.ok.2
            have HS4 : Hid (SameOn All wr mq.val) := mq.ok.1
            generalize mq.val = w4 at HB4 HS4 ⊢
            go_wp2_with fail
            go_ret
            exact ⟨by rw [HF.out]; simp, HB4.out⟩
          | false =>
            by_cases he : x.name = q.name
            · have HF : Hid ((List.range n).all (mdsAt d ms) = false) := rangeT_at _ n (j + 1) hlt (by rw [HAT.out, he, bytesLess_self]; rfl)
              rw [← he] at qy0 hlq
              clear he
              go_wp2_with fail
              have hCne : Nonempty (Wd (fun w' => SameOn All wr w' ∧ Below w.heap.size w w')) := ⟨⟨wr.drew, ⟨⟨Nat.le_refl _, fun _ _ _ => rfl⟩, HB.out.drew⟩⟩⟩
              refine wp_region_class (fun w' => SameOn All wr w' ∧ Below w.heap.size w w') (by kernel_rfl) (by kernel_rfl) ⟨⟨Nat.le_refl _, fun _ _ _ => rfl⟩, HB.out.drew⟩ ?_
              repeat (go_big_quiet_step (first | (rename_i m; go_at_call 31; refine (specModuleOk_any d _ _ x (HMD.out _ m.ok.2)).mono ?_; rintro e w1 ⟨rfl, hb1⟩; exact ⟨by rw [HCA.out], ⟨⟨w1, ⟨m.ok.1.trans (SameOn.of_below hb1), m.ok.2.trans (hb1.mono m.ok.2.size)⟩⟩, rfl⟩⟩)))
              refine wpQuiet_nil ?_
              rintro _ ⟨mq, rfl⟩
              have HB4 : Hid (Below w.heap.size w mq.val) := mq.ok.2
              have HS4 : Hid (SameOn All wr mq.val) := mq.ok.1
              generalize mq.val = w4 at HB4 HS4 ⊢
              go_wp2_with fail
              go_ret
              exact ⟨by rw [HF.out]; simp, HB4.out⟩
            · have hq1 := str_ne he
              have hq2 := str_neB he
              have HT' : Hid ((List.range (j + 1 + 1)).all (mdsAt d ms) = true) := rangeT_succ _ (j + 1) hall.out (by rw [HAT.out, less_flip hlq hq1]; rfl)
              go_wp2_with fail
              have hCne : Nonempty (Wd (fun w' => SameOn All wr w' ∧ Below w.heap.size w w')) := ⟨⟨wr.drew, ⟨⟨Nat.le_refl _, fun _ _ _ => rfl⟩, HB.out.drew⟩⟩⟩
              refine wp_region_class (fun w' => SameOn All wr w' ∧ Below w.heap.size w w') (by kernel_rfl) (by kernel_rfl) ⟨⟨Nat.le_refl _, fun _ _ _ => rfl⟩, HB.out.drew⟩ ?_
              repeat (go_big_quiet_step (first | (rename_i m; go_at_call 31; refine (specModuleOk_any d _ _ x (HMD.out _ m.ok.2)).mono ?_; rintro e w1 ⟨rfl, hb1⟩; exact ⟨by rw [HCA.out], ⟨⟨w1, ⟨m.ok.1.trans (SameOn.of_below hb1), m.ok.2.trans (hb1.mono m.ok.2.size)⟩⟩, rfl⟩⟩)))
              refine wpQuiet_nil ?_
              rintro _ ⟨mq, rfl⟩
              have HB4 : Hid (Below w.heap.size w mq.val) := mq.ok.2
              have HS4 : Hid (SameOn All wr mq.val) := mq.ok.1
              generalize mq.val = w4 at HB4 HS4 ⊢
              go_wp2_with fail
              exact ⟨⟨j + 1 + 1, by omega, by go_num, HT'.out, HB4.out⟩, by simp [intOf]; omega⟩
    · have HT : Hid ((List.range n).all (mdsAt d ms) = true) := by
        have := hall.out
        rwa [show k = n by omega] at this
      clear hall
      go_wp2
      go_ret
      exact ⟨by rw [HT.out]; simp; omega, HB.out⟩

set_option maxHeartbeats 8000000 in
set_option maxRecDepth 100000 in
theorem implProgramOk_any (d : Nat) (w : World) (v : Value) (ms : List Md) (hT : Tabs w) (h : Rows w All 3 (HMd w All d) v ms) :
    Calls Tryz.prog 20 #[v] w fun e w' => e = .returned (.bool (pgOk d ms)) ∧ Below w.heap.size w w' := by
  have HTAB : Hid (Tabs w) := hT
  clear hT
  obtain ⟨p, cap, rfl, hcl, hcm, hx⟩ := h
  have hv : pgOk d ms = (decide (ms.length ≤ 10) && (List.range ms.length).all (mdsAt d ms)) := rfl
  rw [hv]
  clear hv
  generalize hn : ms.length = n at *
  have HN : Hid (ms.length = n) := hn
  have HX : Hid (ms ≠ [] → ∃ g off, p = some ⟨g, off, none⟩ ∧ All g ∧ g < w.heap.size ∧ ∀ i x, ms[i]? = some x → ∃ cs, cs.length = 3 ∧ (∀ j, j < 3 → w.cell? ⟨g, off + i * 3 + j, none⟩ = cs[j]?) ∧ HMd w All d cs x) := hx
  have hnb : n ≤ 9223372036854775807 := by unfold maxLen at hcm; omega
  clear hx hn
  by_cases h10 : ¬ n ≤ 10
  · have h11 : (10 : Int) < (n : Int) := by omega
    rw [decide_eq_false h10]
    go_enter Tryz.func20, Tryz.ntmps20
    go_wp2
    go_ret
    exact ⟨rfl, Below.refl _ _⟩
  replace h10 : n ≤ 10 := by omega
  have h11 : ¬ (10 : Int) < (n : Int) := by omega
  rw [decide_eq_true h10]
  go_enter Tryz.func20, Tryz.ntmps20
  go_wp2
  go_loopw [10] (fun iv wr => ∃ k : Nat, k ≤ n ∧ iv = .int .i64 k ∧ Hid ((List.range k).all (mdsAt d ms) = true) ∧ Below w.heap.size w wr) (fun iv _ => n - (intOf iv).toNat)
  case atStart => exact ⟨0, Nat.zero_le _, rfl, by show _ = _; simp, Below.refl _ _⟩
  case round =>
    obtain ⟨k, hk, rfl, hall, hb⟩ := hrel
    have HB : Hid (Below w.heap.size w wr) := hb
    by_cases hlt : k < n
    · obtain ⟨x, hxk⟩ : ∃ x, ms[k]? = some x := ⟨ms[k]'(by rw [HN.out]; exact hlt), List.getElem?_eq_getElem _⟩
      obtain ⟨g, off, rfl, -, hgl, hat⟩ := HX.out (by intro h; rw [h] at hxk; simp at hxk)
      obtain ⟨cs, hcsl, hcs, hmd⟩ := hat k x hxk
      have hgw : g < wr.heap.size := Nat.lt_of_lt_of_le hgl hb.size
      have HATS : Hid (∀ j, k = j + 1 → ∃ q : Md, ms[j]? = some q ∧ wr.cell? ⟨g, off + j * 3, none⟩ = some (.string q.name)) := fun j hj => by
        obtain ⟨q, hq⟩ : ∃ q, ms[j]? = some q := ⟨ms[j]'(by rw [HN.out]; omega), List.getElem?_eq_getElem _⟩
        obtain ⟨cs', _, hcs', ev, fv, rfl, _⟩ := hat j q hq
        have b0 := hcs' 0 (by omega)
        rw [← hb.cell (p := ⟨g, _, none⟩) hgl] at b0
        exact ⟨q, hq, by simpa using b0⟩
      have HMD : Hid (∀ w', Below w.heap.size w w' → HMd w' All d cs x) := fun w' hw => hmd.mono (SameOn.of_below hw) (fun _ h => h)
      obtain ⟨ev, fv, rfl, hxs, f0, f1⟩ := hmd
      obtain ⟨pe, ce, rfl, -⟩ := f0
      obtain ⟨pf, cf, rfl, -⟩ := f1
      have a0 := hcs 0 (by omega)
      have a1 := hcs 1 (by omega)
      have a2 := hcs 2 (by omega)
      rw [← hb.cell (p := ⟨g, _, none⟩) hgl] at a0 a1 a2
      simp at a0 a1 a2
      have hki : (k : Int) < (n : Int) := by omega
      have hk0 : (0 : Int) ≤ (k : Int) := by omega
      generalize hca : mdOk d x = ca at *
      have HCA : Hid (mdOk d x = ca) := hca
      have HXK : Hid (ms[k]? = some x) := hxk
      obtain ⟨W5, hW5⟩ : ∃ W5, W5 = wr.alloc (.cells #[.string x.name, .slice pe x.exports.length ce, .slice pf x.funs.length cf] 53) := ⟨_, rfl⟩
      have bF : Hid (Blk W5 wr.heap.size #[.string x.name, .slice pe x.exports.length ce, .slice pf x.funs.length cf] 53) := by show Blk _ _ _ _; rw [hW5]; exact Blk.new
      have K5 : Hid (Below wr.heap.size wr W5) := by show Below _ _ _; rw [hW5]; exact (Below.refl _ _).alloc (Nat.le_refl _) _
      have B5 : Hid (Below w.heap.size w W5) := hb.trans (K5.out.mono hb.size)
      have HW5 : Hid (W5 = wr.alloc (.cells #[.string x.name, .slice pe x.exports.length ce, .slice pf x.funs.length cf] 53)) := hW5
      have hg5 : g < W5.heap.size := Nat.lt_of_lt_of_le hgw K5.out.size
      have z0 := bF.out.cell 0 _ rfl
      have z1 := bF.out.cell 1 _ rfl
      have z2 := bF.out.cell 2 _ rfl
      have l2 := bF.out.lt
      have qz0 : ∀ m : Wd (fun w' => SameOn All W5 w' ∧ Below w.heap.size w w'), m.val.cell? ⟨wr.heap.size, 0, none⟩ = some (.string x.name) := fun m => (World.cell?_of_block (m.ok.1.2 wr.heap.size trivial l2)).trans z0
      have qz1 : ∀ m : Wd (fun w' => SameOn All W5 w' ∧ Below w.heap.size w w'), m.val.cell? ⟨wr.heap.size, 1, none⟩ = some (.slice pe x.exports.length ce) := fun m => (World.cell?_of_block (m.ok.1.2 wr.heap.size trivial l2)).trans z1
      have qz2 : ∀ m : Wd (fun w' => SameOn All W5 w' ∧ Below w.heap.size w w'), m.val.cell? ⟨wr.heap.size, 2, none⟩ = some (.slice pf x.funs.length cf) := fun m => (World.cell?_of_block (m.ok.1.2 wr.heap.size trivial l2)).trans z2
      clear hb hcs hat hcsl hca hxk hW5 z0 z1 z2 l2
      cases ca with
      | false =>
        have HF : Hid ((List.range n).all (mdsAt d ms) = false) := rangeT_at _ n k hlt (mdsAt_bad HXK.out HCA.out)
        clear HATS
        go_wp2_with fail
        rw [← HW5.out]
        have hCne : Nonempty (Wd (fun w' => SameOn All W5 w' ∧ Below w.heap.size w w')) := ⟨⟨W5.drew, ⟨⟨Nat.le_refl _, fun _ _ _ => rfl⟩, B5.out.drew⟩⟩⟩
        refine wp_region_class (fun w' => SameOn All W5 w' ∧ Below w.heap.size w w') (by kernel_rfl) (by kernel_rfl) ⟨⟨Nat.le_refl _, fun _ _ _ => rfl⟩, B5.out.drew⟩ ?_
        repeat (go_big_quiet_step (first | (rename_i m; go_at_call 37; refine (implModuleOk_any d _ _ x (HTAB.out.below m.ok.2) (HMD.out _ m.ok.2)).mono ?_; rintro e w1 ⟨rfl, hb1⟩; exact ⟨by rw [HCA.out], ⟨⟨w1, ⟨m.ok.1.trans (SameOn.of_below hb1), m.ok.2.trans (hb1.mono m.ok.2.size)⟩⟩, rfl⟩⟩)))
        refine wpQuiet_nil ?_
        rintro _ ⟨mq, rfl⟩
        have HB4 : Hid (Below w.heap.size w mq.val) := mq.ok.2
        have HS4 : Hid (SameOn All W5 mq.val) := mq.ok.1
        generalize mq.val = w4 at HB4 HS4 ⊢
        go_wp2_with fail
        go_ret
        exact ⟨by rw [HF.out]; simp, HB4.out⟩
      | true =>
        rcases Nat.eq_zero_or_pos k with hz | hz
        · have HT' : Hid ((List.range (k + 1)).all (mdsAt d ms) = true) := rangeT_succ _ k hall.out (by rw [mdsAt_zero hz HXK.out]; exact HCA.out)
          have hz1 : ¬ (0 : Int) < (k : Int) := by omega
          have hz3 : ¬ 0 < k := by omega
          have hz4 : decide (0 < k) = false := decide_eq_false hz3
          clear HATS hz
          go_wp2_with fail
          rw [← HW5.out]
          have hCne : Nonempty (Wd (fun w' => SameOn All W5 w' ∧ Below w.heap.size w w')) := ⟨⟨W5.drew, ⟨⟨Nat.le_refl _, fun _ _ _ => rfl⟩, B5.out.drew⟩⟩⟩
          refine wp_region_class (fun w' => SameOn All W5 w' ∧ Below w.heap.size w w') (by kernel_rfl) (by kernel_rfl) ⟨⟨Nat.le_refl _, fun _ _ _ => rfl⟩, B5.out.drew⟩ ?_
          repeat (go_big_quiet_step (first | (rename_i m; go_at_call 37; refine (implModuleOk_any d _ _ x (HTAB.out.below m.ok.2) (HMD.out _ m.ok.2)).mono ?_; rintro e w1 ⟨rfl, hb1⟩; exact ⟨by rw [HCA.out], ⟨⟨w1, ⟨m.ok.1.trans (SameOn.of_below hb1), m.ok.2.trans (hb1.mono m.ok.2.size)⟩⟩, rfl⟩⟩)))
          refine wpQuiet_nil ?_
          rintro _ ⟨mq, rfl⟩
          have HB4 : Hid (Below w.heap.size w mq.val) := mq.ok.2
          have HS4 : Hid (SameOn All W5 mq.val) := mq.ok.1
          generalize mq.val = w4 at HB4 HS4 ⊢
          go_wp2_with fail
          exact ⟨⟨k + 1, by omega, by go_num, HT'.out, HB4.out⟩, by simp [intOf]; omega⟩
        · obtain ⟨j, rfl⟩ : ∃ j, k = j + 1 := ⟨k - 1, by omega⟩
          obtain ⟨q, hqj, y0⟩ := HATS.out j rfl
          have HAT : Hid (mdsAt d ms (j + 1) = (true && Op.bytesLess q.name.toList x.name.toList)) := by show _ = _; rw [mdsAt_succ hqj HXK.out, HCA.out]
          have qy0 : ∀ m : Wd (fun w' => SameOn All W5 w' ∧ Below w.heap.size w w'), m.val.cell? ⟨g, off + j * 3, none⟩ = some (.string q.name) := fun m => (World.cell?_of_block (m.ok.1.2 g trivial hg5)).trans (cell_next K5.out y0)
          have hji : (j : Int) < (n : Int) := by omega
          have hj0 : (0 : Int) ≤ (j : Int) := by omega
          have hj1 : (0 : Int) < (j : Int) + 1 := by omega
          clear HATS hqj hz y0
          cases hlq : Op.bytesLess q.name.toList x.name.toList with
          | false =>
            have HF : Hid ((List.range n).all (mdsAt d ms) = false) := rangeT_at _ n (j + 1) hlt (by rw [HAT.out, hlq]; rfl)
            go_wp2_with fail
            rw [← HW5.out]
            have hCne : Nonempty (Wd (fun w' => SameOn All W5 w' ∧ Below w.heap.size w w')) := ⟨⟨W5.drew, ⟨⟨Nat.le_refl _, fun _ _ _ => rfl⟩, B5.out.drew⟩⟩⟩
            refine wp_region_class (fun w' => SameOn All W5 w' ∧ Below w.heap.size w w') (by kernel_rfl) (by kernel_rfl) ⟨⟨Nat.le_refl _, fun _ _ _ => rfl⟩, B5.out.drew⟩ ?_
            repeat (go_big_quiet_step (first | (rename_i m; go_at_call 37; refine (implModuleOk_any d _ _ x (HTAB.out.below m.ok.2) (HMD.out _ m.ok.2)).mono ?_; rintro e w1 ⟨rfl, hb1⟩; exact ⟨by rw [HCA.out], ⟨⟨w1, ⟨m.ok.1.trans (SameOn.of_below hb1), m.ok.2.trans (hb1.mono m.ok.2.size)⟩⟩, rfl⟩⟩)))
            refine wpQuiet_nil ?_
            rintro _ ⟨mq, rfl⟩
            have HB4 : Hid (Below w.heap.size w mq.val) := mq.ok.2
            have HS4 : Hid (SameOn All W5 mq.val) := mq.ok.1
            generalize mq.val = w4 at HB4 HS4 ⊢
            go_wp2_with fail
            go_ret
            exact ⟨by rw [HF.out]; simp, HB4.out⟩
          | true =>
            have HT' : Hid ((List.range (j + 1 + 1)).all (mdsAt d ms) = true) := rangeT_succ _ (j + 1) hall.out (by rw [HAT.out, hlq]; rfl)
            go_wp2_with fail
            rw [← HW5.out]
            have hCne : Nonempty (Wd (fun w' => SameOn All W5 w' ∧ Below w.heap.size w w')) := ⟨⟨W5.drew, ⟨⟨Nat.le_refl _, fun _ _ _ => rfl⟩, B5.out.drew⟩⟩⟩
            refine wp_region_class (fun w' => SameOn All W5 w' ∧ Below w.heap.size w w') (by kernel_rfl) (by kernel_rfl) ⟨⟨Nat.le_refl _, fun _ _ _ => rfl⟩, B5.out.drew⟩ ?_
            repeat (go_big_quiet_step (first | (rename_i m; go_at_call 37; refine (implModuleOk_any d _ _ x (HTAB.out.below m.ok.2) (HMD.out _ m.ok.2)).mono ?_; rintro e w1 ⟨rfl, hb1⟩; exact ⟨by rw [HCA.out], ⟨⟨w1, ⟨m.ok.1.trans (SameOn.of_below hb1), m.ok.2.trans (hb1.mono m.ok.2.size)⟩⟩, rfl⟩⟩)))
            refine wpQuiet_nil ?_
            rintro _ ⟨mq, rfl⟩
            have HB4 : Hid (Below w.heap.size w mq.val) := mq.ok.2
            have HS4 : Hid (SameOn All W5 mq.val) := mq.ok.1
            generalize mq.val = w4 at HB4 HS4 ⊢
            go_wp2_with fail
            exact ⟨⟨j + 1 + 1, by omega, by go_num, HT'.out, HB4.out⟩, by simp [intOf]; omega⟩
    · have HT : Hid ((List.range n).all (mdsAt d ms) = true) := by
        have := hall.out
        rwa [show k = n by omega] at this
      clear hall
      go_wp2
      go_ret
      exact ⟨by rw [HT.out]; simp, HB.out⟩
end Go.Proofs.YtoknolophmhlgaaGreatDoor
/-
  Lists of texts in memory: rows that are read, and rows that the call owns and grows by append.
-/
namespace Go.Proofs.YtoknolophmhlgaaGreatDoor
open Go.ChangeShapes Go.WideShapes Go.ChangeAt Go.RowKit
set_option linter.unusedVariables false

/-- One cell that is a text. -/
def HStr (cs : List Value) (s : ByteArray) : Prop := cs = [.string s] ∧ okS s
abbrev StrR (w : World) (v : Value) (xs : List ByteArray) : Prop := Rows w All 1 HStr v xs
theorem StrR.mono {w w' : World} {v : Value} {xs : List ByteArray} (h : StrR w v xs) (hs : SameOn All w w') : StrR w' v xs := Rows.mono h hs (fun _ h => h) (fun _ _ _ h => h)
theorem StrR.okS {w : World} {v : Value} {xs : List ByteArray} (h : StrR w v xs) : ∀ x ∈ xs, Go.Proofs.YtoknolophmhlgaaGreatDoor.okS x := by
  intro x hx
  obtain ⟨p, cap, _, _, _, hr⟩ := h
  obtain ⟨i, hi⟩ := List.mem_iff_getElem?.1 hx
  obtain ⟨g, off, _, _, _, hat⟩ := hr (by intro e; rw [e] at hi; simp at hi)
  obtain ⟨cs, _, _, hv⟩ := hat i x hi
  exact hv.2

def strs (l : List ByteArray) : List Value := l.map Value.string
theorem strs_length (l : List ByteArray) : (strs l).length = l.length := by simp [strs]
theorem strs_append (a b : List ByteArray) : strs (a ++ b) = strs a ++ strs b := by simp [strs]
theorem strs_oneCell (l : List ByteArray) : ∀ u ∈ strs l, u.oneCell' = true := by
  intro u hu
  simp only [strs, List.mem_map] at hu
  obtain ⟨b, _, rfl⟩ := hu
  rfl
theorem info_str : (Tryz.prog.info? 9).map (fun i => (i.zero, i.size, i.bytes)) = some (some (.string ⟨#[]⟩), 1, 16) := by kernel_rfl

/-- The row v holds just the texts l; it lies in a block of its own at B or above. -/
def OwnS (w : World) (B : Nat) (v : Value) (l : List ByteArray) : Prop := w.ownsRow B 9 1 v l.length (strs l) ∧ B ≤ w.heap.size
theorem OwnS.next {w w' : World} {B : Nat} {v : Value} {l : List ByteArray} (h : OwnS w B v l) (hb : Below w.heap.size w w') : OwnS w' B v l := by
  refine ⟨⟨h.1.1, ?_⟩, Nat.le_trans h.2 hb.size⟩
  rcases h.1.2 with hn | ⟨g, cap, cur, hv, hB, hg, hr⟩
  · exact .inl hn
  · exact .inr ⟨g, cap, cur, hv, hB, (hb.block g (Array.getElem?_eq_some_iff.1 hg).1).trans hg, hr⟩
theorem OwnS.off {w : World} {B : Nat} {v : Value} {l : List ByteArray} (h : OwnS w B v l) {b : Nat} (hb : v.ownBlock = some b) : B ≤ b ∧ b < w.heap.size := by
  rcases h.1.2 with hn | ⟨g', cap', cur, hv', hB, hg, hr⟩
  · rw [hn.1] at hb; cases hb
  · rw [hv'] at hb
    simp [Value.ownBlock] at hb
    subst hb
    exact ⟨hB, (Array.getElem?_eq_some_iff.1 hg).1⟩
theorem OwnS.below {w w' : World} {B : Nat} {v : Value} {l : List ByteArray} (h : OwnS w B v l) (hg : w.grownBy w' v.ownBlock) : Below B w w' :=
  ⟨hg.os, hg.tape, hg.output, hg.size, fun j hj => hg.block j (by have := h.2; omega) (fun e => by have := (h.off e.symm).1; omega)⟩
theorem OwnS.blk {w w' : World} {B b : Nat} {v : Value} {l : List ByteArray} {cs : Array Value} {t : TypeId} (h : OwnS w B v l) (hg : w.grownBy w' v.ownBlock) (hb : Blk w b cs t) (hne : v.ownBlock ≠ some b) : Blk w' b cs t :=
  (hg.block b hb.lt (fun e => hne e.symm)).trans hb
theorem OwnS.of {w' : World} {B n : Nat} {v : Value} {l m : List ByteArray} {xs : List Value} (h : w'.ownsRow B 9 1 v n xs) (hn : n = (l ++ m).length) (hx : xs = strs l ++ strs m) (hB : B ≤ w'.heap.size) : OwnS w' B v (l ++ m) := by
  subst hn; subst hx; rw [← strs_append] at h; exact ⟨h, hB⟩
/-- The empty row that '[]string{}' makes. -/
theorem OwnS.fresh {w : World} : OwnS (w.alloc (.cells #[] 9)) w.heap.size (.slice (some ⟨w.heap.size, 0, none⟩) 0 0) [] := by
  refine ⟨⟨by simp [strs], .inr ⟨w.heap.size, 0, #[], rfl, Nat.le_refl _, ?_, Nat.le_refl _, Nat.zero_le _, rfl, rfl⟩⟩, by simp⟩
  exact Blk.new (w := w) (cs := #[]) (t := 9)
theorem OwnS.rows {w : World} {B : Nat} {v : Value} {l : List ByteArray} (h : OwnS w B v l) (ho : ∀ x ∈ l, okS x) : Rows w (fun g => B ≤ g) 1 HStr v l := by
  obtain ⟨h, _⟩ := h
  rcases h.2 with ⟨rfl, hn⟩ | ⟨g, cap, cur, rfl, hB, hg, h1, h2, h3, h4⟩
  · obtain rfl := List.length_eq_zero_iff.1 hn
    exact Rows.nil (Nat.zero_le _)
  · refine ⟨_, cap, rfl, h1, h2, fun hne => ⟨g, 0, rfl, hB, (Array.getElem?_eq_some_iff.1 hg).1, fun i x hi => ⟨[.string x], rfl, fun j hj => ?_, rfl, ho x (List.mem_of_getElem? hi)⟩⟩⟩
    obtain rfl : j = 0 := by omega
    rw [show 0 + i * 1 + 0 = i by omega]
    exact (h.cellAt i (by have := (List.getElem?_eq_some_iff.1 hi).1; omega)).trans (by simp [strs, hi])
theorem OwnS.strR {w : World} {B : Nat} {v : Value} {l : List ByteArray} (h : OwnS w B v l) (ho : ∀ x ∈ l, okS x) : StrR w v l := Rows.mono (h.rows ho) ⟨Nat.le_refl _, fun _ _ _ => rfl⟩ (fun _ _ => trivial) (fun _ _ _ h => h)

/-- A row that is nil where it has no memory. -/
def StrV (w : World) (v : Value) (xs : List ByteArray) : Prop := StrR w v xs ∧ ∀ n c, v = .slice none n c → v = .slice none 0 0
theorem OwnS.strV {w : World} {B : Nat} {v : Value} {l : List ByteArray} (h : OwnS w B v l) (ho : ∀ x ∈ l, okS x) : StrV w v l := by
  refine ⟨h.strR ho, fun n c hv => ?_⟩
  rcases h.1.2 with hn | ⟨g, cap, cur, hv', _⟩
  · exact hn.1
  · rw [hv] at hv'; simp at hv'
theorem StrV.next {w w' : World} {v : Value} {xs : List ByteArray} (h : StrV w v xs) (hs : SameOn All w w') : StrV w' v xs := ⟨h.1.mono hs, h.2⟩

/-- Texts that are there. -/
def hasS (l : List ByteArray) (s : ByteArray) : Bool := l.any fun x => x.toList == s.toList
/-- Names with more behind, those that are not there. -/
def onceS (l : List ByteArray) : List ByteArray → List ByteArray
  | [] => l
  | y :: ys => onceS (if hasS l y then l else l ++ [y]) ys
theorem onceS_snoc (l ys : List ByteArray) (y : ByteArray) : onceS l (ys ++ [y]) = if hasS (onceS l ys) y then onceS l ys else onceS l ys ++ [y] := by
  induction ys generalizing l with
  | nil => rfl
  | cons z zs ih => exact ih _
theorem onceS_length (l ys : List ByteArray) : (onceS l ys).length ≤ l.length + ys.length := by
  induction ys generalizing l with
  | nil => simp [onceS]
  | cons z zs ih =>
    have := ih (if hasS l z then l else l ++ [z])
    have h2 : (if hasS l z then l else l ++ [z]).length ≤ l.length + 1 := by split <;> simp
    simp only [onceS, List.length_cons]
    omega
theorem onceS_mem (l ys : List ByteArray) : ∀ x ∈ onceS l ys, x ∈ l ∨ x ∈ ys := by
  induction ys generalizing l with
  | nil => intro x hx; exact .inl hx
  | cons z zs ih =>
    intro x hx
    rcases ih _ x hx with h | h
    · split at h
      · exact .inl h
      · rcases List.mem_append.1 h with h | h
        · exact .inl h
        · simp at h; subst h; exact .inr (by simp)
    · exact .inr (by simp [h])
end Go.Proofs.YtoknolophmhlgaaGreatDoor
/-
  What is wrong with a program: plain mathematics.
-/
namespace Go.Proofs.YtoknolophmhlgaaGreatDoor
open Go.ChangeShapes Go.WideShapes Go.ChangeAt Go.RowKit
set_option linter.unusedVariables false

def cCall : ByteArray := ⟨#[99, 97, 108, 108]⟩
def cFar : ByteArray := ⟨#[102, 97, 114]⟩
def cLoose : ByteArray := ⟨#[108, 111, 111, 115, 101]⟩
def cExport : ByteArray := ⟨#[101, 120, 112, 111, 114, 116]⟩

/-- The place of the first that fits, or -1. -/
def findI {α : Type} (f : α → Bool) (xs : List α) : Int := match xs.findIdx? f with
  | some k => k
  | none => -1
theorem findI_none {α : Type} {f : α → Bool} {xs : List α} (h : xs.any f = false) : findI f xs = -1 := by
  have : xs.findIdx? f = none := by
    rw [List.findIdx?_eq_none_iff]
    intro x hx
    exact Bool.eq_false_iff.2 fun e => by
      have := List.any_eq_false.1 h x hx
      exact this e
  simp [findI, this]
theorem findI_at {α : Type} {f : α → Bool} {xs : List α} {k : Nat} {x : α} (h : (xs.take k).any f = false) (hx : xs[k]? = some x) (hf : f x = true) : findI f xs = k := by
  have : xs.findIdx? f = some k := by
    rw [List.findIdx?_eq_some_iff_getElem]
    obtain ⟨hk, he⟩ := List.getElem?_eq_some_iff.1 hx
    refine ⟨hk, by rw [he]; exact hf, fun j hj => ?_⟩
    have := List.any_eq_false.1 h (xs[j]) (List.mem_of_getElem? (i := j) (by rw [List.getElem?_take, if_pos hj]; exact List.getElem?_eq_getElem _))
    exact this
  simp [findI, this]
theorem findI_cases {α : Type} (f : α → Bool) (xs : List α) : (xs.any f = false ∧ findI f xs = -1) ∨ (∃ k x, xs.any f = true ∧ xs[k]? = some x ∧ f x = true ∧ findI f xs = (k : Nat) ∧ xs.find? f = some x) := by
  cases h : xs.any f with
  | false => exact Or.inl ⟨rfl, findI_none h⟩
  | true =>
    right
    rw [List.any_eq_true] at h
    obtain ⟨x, hx, hf⟩ := h
    cases hi : xs.findIdx? f with
    | none =>
      rw [List.findIdx?_eq_none_iff] at hi
      rw [hi x hx] at hf; cases hf
    | some k =>
      rw [List.findIdx?_eq_some_iff_getElem] at hi
      obtain ⟨hk, hfk, hj⟩ := hi
      refine ⟨k, xs[k], rfl, List.getElem?_eq_getElem _, hfk, ?_, ?_⟩
      · exact findI_at (x := xs[k]) (by
          rw [List.any_eq_false]
          intro y hy
          obtain ⟨j, hj'⟩ := List.mem_iff_getElem?.1 hy
          rw [List.getElem?_take] at hj'
          split at hj'
          · rename_i hjk
            obtain ⟨h1, rfl⟩ := List.getElem?_eq_some_iff.1 hj'
            simpa using hj j hjk
          · cases hj') (List.getElem?_eq_getElem _) hfk
      · rw [List.find?_eq_some_iff_getElem]
        exact ⟨hfk, k, hk, rfl, fun j hj' => by simpa using hj j hj'⟩

def hasF (m : Md) (s : ByteArray) (n : Int) : Bool := m.funs.any (sameR ⟨s, n⟩)
def sameRf (s : ByteArray) (n : Int) (q : Rf) : Bool := q.name.toList == s.toList && q.arity == n
def hasX (m : Md) (s : ByteArray) (n : Int) : Bool := m.exports.any (sameRf s n)
def named (s : ByteArray) (m : Md) : Bool := m.name.toList == s.toList
def isPutB (s : ByteArray) (n : Int) : Bool := s.toList == [112, 117, 116] && n == 1
/-- Whether there is such a module, which exports such a function and has it. -/
def offersB (ms : List Md) (mod s : ByteArray) (n : Int) : Bool := match ms.find? (named mod) with
  | none => false
  | some q => hasX q s n && hasF q s n
/-- What is wrong with a call, or the empty text. -/
def callC (ms : List Md) (m : Md) (x : Ex) : ByteArray :=
  if x.mod.toList = [] then (if hasF m x.text x.kids.length || isPutB x.text x.kids.length then ⟨#[]⟩ else cCall)
  else (if offersB ms x.mod x.text x.kids.length then ⟨#[]⟩ else cFar)
def callL (ms : List Md) (m : Md) (x : Ex) : List ByteArray := if x.kind = 8 then (if (callC ms m x).toList = [] then [] else [callC ms m x]) else []
def bodiesOf (cl : List Cl) : List Ex := cl.flatMap fun c : Cl => c.2
theorem bodiesOf_snoc (cl : List Cl) (k : Nat) (c : Cl) (h : cl[k]? = some c) : bodiesOf (cl.take (k + 1)) = bodiesOf (cl.take k) ++ c.2 := by
  unfold bodiesOf
  rw [List.take_add_one, h]; simp
theorem bodiesOf_le (cl : List Cl) (k : Nat) : (bodiesOf (cl.take k)).length ≤ (bodiesOf cl).length := by
  conv => rhs; rw [← List.take_append_drop k cl]
  unfold bodiesOf
  rw [List.flatMap_append, List.length_append]; omega
def withinX (x : Ex) : List Ex := x.kids ++ bodiesOf x.clauses
/-- What is wrong with an expression and all within, in order. -/
def codesX (ms : List Md) (m : Md) : Nat → Ex → List ByteArray
  | 0, _ => []
  | d + 1, x => callL ms m x ++ (withinX x).flatMap (codesX ms m d)
end Go.Proofs.YtoknolophmhlgaaGreatDoor
/-
  Places: a module's name, a function's with its number of parameters, and a clause's number; the laws' readers of them, by contract.
-/
namespace Go.Proofs.YtoknolophmhlgaaGreatDoor
open Go.ChangeShapes Go.WideShapes Go.ChangeAt Go.RowKit
set_option linter.unusedVariables false

structure Pl where
  mod : ByteArray
  name : ByteArray
  arity : Int
  clause : Int
def wtPl (q : Pl) : Nat := q.mod.size + q.name.size

theorem szPlace_any (w : World) (q : Pl) (r : Nat) (hr : r ≤ 1048576) (h0 : okS q.mod) (h1 : okS q.name) :
    Calls Tryz.prog 5 #[.agg #[.string q.mod, .string q.name, .int .i64 q.arity, .int .i64 q.clause], .int .i64 r] w fun e w' => e = .returned (.int .i64 (leftOf r (wtPl q))) ∧ Below w.heap.size w w' := by
  obtain ⟨m, s, n, c⟩ := q
  simp only [okS, maxLen] at h0 h1
  have HW : Hid (wtPl ⟨m, s, n, c⟩ = m.size + s.size) := rfl
  generalize wtPl ⟨m, s, n, c⟩ = W at *
  have BL : Hid (∀ (cs : Array Value) (t : TypeId), Below w.heap.size w (w.alloc (.cells cs t))) := fun cs t => (Below.refl _ _).alloc (Nat.le_refl _) _
  by_cases t0 : r < m.size
  · have HR : Hid (leftOf r W = -1) := leftOf_lt (by rw [HW.out]; omega)
    go_enter Tryz.func5, Tryz.ntmps5
    go_wp2_with fail
    go_ret
    exact ⟨by rw [HR.out]; rfl, BL.out _ _⟩
  · by_cases t1 : r < m.size + s.size
    · have HR : Hid (leftOf r W = -1) := leftOf_lt (by rw [HW.out]; omega)
      go_enter Tryz.func5, Tryz.ntmps5
      go_wp2_with fail
      go_ret
      exact ⟨by rw [HR.out]; rfl, BL.out _ _⟩
    · have HR : Hid (leftOf r W = r - m.size - s.size) := by
        show leftOf r W = _
        rw [leftOf_ge (by rw [HW.out]; omega), HW.out]; omega
      go_enter Tryz.func5, Tryz.ntmps5
      go_wp2_with fail
      go_ret
      exact ⟨by rw [HR.out]; rfl, BL.out _ _⟩

theorem toPlace_any (w : World) (q : Pl) :
    Calls Tryz.prog 8 #[.agg #[.string q.mod, .string q.name, .int .i64 q.arity, .int .i64 q.clause]] w fun e w' => e = .returned (.agg #[.string q.mod, .string q.name, .int .i64 q.arity, .int .i64 q.clause]) ∧ Below w.heap.size w w' := by
  obtain ⟨m, s, n, c⟩ := q
  have BL : Hid (∀ (cs cs' : Array Value) (t t' : TypeId), Below w.heap.size w ((w.alloc (.cells cs t)).alloc (.cells cs' t'))) := fun cs cs' t t' => ((Below.refl _ _).alloc (Nat.le_refl _) _).alloc (by simp) _
  have RB : Hid (∀ (cs cs' : Array Value) (t t' : TypeId), Blk (((w.alloc (.cells cs t)).alloc (.cells #[.string m, .string s, .int .i64 n, .int .i64 c] 31)).alloc (.cells cs' t')) (w.heap.size + 1) #[.string m, .string s, .int .i64 n, .int .i64 c] 31) := fun cs cs' t t' => by
    have := Blk.new (w := w.alloc (.cells cs t)) (cs := #[.string m, .string s, .int .i64 n, .int .i64 c]) (t := 31)
    rw [alloc_hs] at this
    exact this.alloc
  have BL3 : Hid (∀ (cs cs' cs'' : Array Value) (t t' t'' : TypeId), Below w.heap.size w (((w.alloc (.cells cs t)).alloc (.cells cs' t')).alloc (.cells cs'' t''))) := fun cs cs' cs'' t t' t'' => (((Below.refl _ _).alloc (Nat.le_refl _) _).alloc (by simp only [alloc_hs]; omega) _).alloc (by simp only [alloc_hs]; omega) _
  go_enter Tryz.func8, Tryz.ntmps8
  go_wp2_with fail
  have q := RB.out #[.string m, .string s, .int .i64 n, .int .i64 c] #[.string m, .string s, .int .i64 n, .int .i64 c] 24 31
  have q0 := q.cell 0 _ rfl
  have q1 := q.cell 1 _ rfl
  have q2 := q.cell 2 _ rfl
  have q3 := q.cell 3 _ rfl
  exact bodyPost_ret (v := .agg #[.string m, .string s, .int .i64 n, .int .i64 c]) (by simp [results, Tryz.results8, go_sem, q0, q1, q2, q3]) rfl ⟨rfl, BL3.out _ _ _ _ _ _⟩
end Go.Proofs.YtoknolophmhlgaaGreatDoor
/-
  How great a module is: weights.
-/
namespace Go.Proofs.YtoknolophmhlgaaGreatDoor
open Go.ChangeShapes Go.WideShapes Go.ChangeAt Go.RowKit
set_option linter.unusedVariables false

def wtCl (f : Ex → Nat) (c : Cl) : Nat := wtS f c.1 + wtS f c.2
def wtEx : Nat → Ex → Nat
  | 0, _ => 0
  | d + 1, e => e.text.size + e.mod.size + wtS (wtEx d) e.kids + wtS (wtCl (wtEx d)) e.clauses
def wtRf (r : Rf) : Nat := r.name.size
def wtFn (d : Nat) (f : Fn') : Nat := f.name.size + wtS (wtCl (wtEx d)) f.clauses
def wtMd (d : Nat) (m : Md) : Nat := m.name.size + wtS wtRf m.exports + wtS (wtFn d) m.funs
end Go.Proofs.YtoknolophmhlgaaGreatDoor
