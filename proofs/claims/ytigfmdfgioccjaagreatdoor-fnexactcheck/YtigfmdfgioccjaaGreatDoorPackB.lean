/-
  Texts of the proof, packed: ModOkSpecE, ModOkImplD, ProgOkA, StrRow, CheckMath, RowG, Own, Grow, RowH, Pb, Boxes, CheckImplA, CheckImplB, NameSpecA, CheckSpecA, CheckSpecB, Tight, Wt, CheckSpecC, NameMath, NameSpecB.
-/
import Derived.Test.YtigfmdfgioccjaaGreatDoorPackA
import Derived.Laws.AppendOwn
import Derived.Laws.AppendOwnNone
import Derived.OwnWalk
import Derived.Deep.AppendLies
/-
  The specification's ModuleOk, by contract: modules.
-/
namespace Go.Proofs.YtigfmdfgioccjaaGreatDoor
open Go.ChangeShapes Go.WideShapes Go.ChangeAt Go.RowKit
set_option linter.unusedVariables false

theorem any_take_lt {α : Type} (f : α → Bool) (xs : List α) (i k : Nat) (x : α) (h : xs[k]? = some x) (hf : f x = true) (hki : k < i) : (xs.take i).any f = true := by
  rw [List.any_eq_true]
  refine ⟨x, List.mem_of_getElem? (i := k) ?_, hf⟩
  rw [List.getElem?_take, if_pos hki]; exact h
theorem any_take_get {α : Type} (f : α → Bool) (xs : List α) (i : Nat) (h : (xs.take i).any f = true) : ∃ j x, j < i ∧ xs[j]? = some x ∧ f x = true := by
  rw [List.any_eq_true] at h
  obtain ⟨x, hx, hf⟩ := h
  obtain ⟨j, hj⟩ := List.mem_iff_getElem?.1 hx
  rw [List.getElem?_take] at hj
  split at hj
  · exact ⟨j, x, by assumption, hj, hf⟩
  · cases hj

set_option maxHeartbeats 8000000 in
set_option maxRecDepth 100000 in
theorem l02Find_any (d : Nat) (w : World) (ms : ByteArray) (pe : Option Addr) (ne ce : Nat) (v : Value) (fs : List Fn') (i : Nat) (f : Fn') (h : Rows w All 3 (HFn w All d) v fs) (hi : fs[i]? = some f) :
    Calls Tryz.prog 18 #[.agg #[.string ms, .slice pe ne ce, v], .string f.name, .int .i64 f.arity] w fun e w' => ∃ r : Int, e = .returned (.int .i64 r) ∧ (r == (i : Int)) = !(fs.take i).any (sameR ⟨f.name, f.arity⟩) ∧ Below w.heap.size w w' := by
  obtain ⟨pf, cf, rfl, hcl, hcm, hx⟩ := h
  have hnb : fs.length ≤ 9223372036854775807 := by unfold maxLen at hcm; omega
  have HI : Hid (fs[i]? = some f) := hi
  have hself : sameR ⟨f.name, f.arity⟩ f = true := by simp [sameR]
  have HSELF : Hid (sameR ⟨f.name, f.arity⟩ f = true) := hself
  obtain ⟨rs, rn, fcl⟩ := f
  simp only at *
  generalize hn : fs.length = nf at *
  have HN : Hid (fs.length = nf) := hn
  have HX : Hid (fs ≠ [] → ∃ g off, pf = some ⟨g, off, none⟩ ∧ All g ∧ g < w.heap.size ∧ ∀ i x, fs[i]? = some x → ∃ cs, cs.length = 3 ∧ (∀ j, j < 3 → w.cell? ⟨g, off + i * 3 + j, none⟩ = cs[j]?) ∧ HFn w All d cs x) := hx
  obtain ⟨W1, hW1⟩ : ∃ W1, W1 = w.alloc (.cells #[.string ms, .slice pe ne ce, .slice pf nf cf] 42) := ⟨_, rfl⟩
  have bA : Hid (Blk W1 w.heap.size #[.string ms, .slice pe ne ce, .slice pf nf cf] 42) := by show Blk _ _ _ _; rw [hW1]; exact Blk.new
  have B1 : Hid (Below w.heap.size w W1) := by show Below _ _ _; rw [hW1]; exact (Below.refl _ _).alloc (Nat.le_refl _) _
  have xa2 := bA.out.cell 2 _ rfl
  have HW1 : Hid (W1 = w.alloc (.cells #[.string ms, .slice pe ne ce, .slice pf nf cf] 42)) := hW1
  clear hx hn hi hself hW1
  go_enter Tryz.func18, Tryz.ntmps18
  go_wp2_with fail
  rw [← HW1.out]
  go_loop [7] (fun iv => ∃ k : Nat, k ≤ nf ∧ iv = .int .i64 k ∧ Hid ((fs.take k).any (sameR ⟨rs, rn⟩) = false)) (fun iv => nf - (intOf iv).toNat)
  case atStart => exact ⟨0, Nat.zero_le _, rfl, by show _ = _; simp⟩
  case round =>
    obtain ⟨k, hk, rfl, hall⟩ := hrel
    by_cases hlt : k < nf
    · obtain ⟨x, hxk⟩ : ∃ x, fs[k]? = some x := ⟨fs[k]'(by rw [HN.out]; exact hlt), List.getElem?_eq_getElem _⟩
      obtain ⟨g, off, rfl, -, hgl, hat⟩ := HX.out (by intro h; rw [h] at hxk; simp at hxk)
      obtain ⟨cs, hcsl, hcs, r1⟩ := hat k x hxk
      obtain ⟨p1, n1, q1, rfl⟩ := fnShape r1
      have HC2 : Hid (sameR ⟨rs, rn⟩ x = false → (fs.take (k + 1)).any (sameR ⟨rs, rn⟩) = false) := fun h => anyT_succ _ fs k _ hxk hall.out h
      have HC3 : Hid (sameR ⟨rs, rn⟩ x = true → ((k : Int) == (i : Int)) = !(fs.take i).any (sameR ⟨rs, rn⟩)) := fun h => by
        have hki : k ≤ i := Classical.byContradiction fun hc => by
          have := any_take_lt (sameR ⟨rs, rn⟩) fs k i _ HI.out HSELF.out (by omega)
          rw [hall.out] at this; cases this
        by_cases he : k = i
        · subst he; rw [hall.out]; simp
        · rw [any_take_lt (sameR ⟨rs, rn⟩) fs i k x hxk h (by omega)]; simp; omega
      obtain ⟨xs, xn, xc⟩ := x
      simp only at *
      have hsm : sameR ⟨rs, rn⟩ ⟨xs, xn, xc⟩ = (xs.toList == rs.toList && xn == rn) := rfl
      rw [hsm] at HC2 HC3
      have a0 := hcs 0 (by omega)
      have a1 := hcs 1 (by omega)
      have a2 := hcs 2 (by omega)
      rw [← B1.out.cell (p := ⟨g, _, none⟩) hgl] at a0 a1 a2
      simp at a0 a1 a2
      have hki : (k : Int) < (nf : Int) := by omega
      have hk0 : (0 : Int) ≤ (k : Int) := by omega
      clear hcs hat hcsl r1 hsm
      cases c1 : (xs.toList == rs.toList) with
      | false =>
        have HT' : Hid ((fs.take (k + 1)).any (sameR ⟨rs, rn⟩) = false) := HC2.out (by rw [c1]; rfl)
        clear HC2 HC3
        go_wp2
        go_round
        case rel => exact ⟨k + 1, by omega, by go_num, HT'⟩
        case measure => simp [intOf]; omega
      | true =>
        cases c2 : (xn == rn) with
        | false =>
          have HT' : Hid ((fs.take (k + 1)).any (sameR ⟨rs, rn⟩) = false) := HC2.out (by rw [c2, Bool.and_false])
          clear HC2 HC3
          go_wp2
          go_round
          case rel => exact ⟨k + 1, by omega, by go_num, HT'⟩
          case measure => simp [intOf]; omega
        | true =>
          have HF : Hid (((k : Int) == (i : Int)) = !(fs.take i).any (sameR ⟨rs, rn⟩)) := HC3.out (by rw [c1, c2]; rfl)
          clear HC2 HC3
          go_wp2
          go_ret
          exact ⟨_, rfl, HF.out, B1.out⟩
    · exfalso
      have h1 := hall.out
      have h2 := any_take_lt (sameR ⟨rs, rn⟩) fs k i _ HI.out HSELF.out (by
        have := (List.getElem?_eq_some_iff.1 HI.out).1
        have := HN.out
        omega)
      rw [h1] at h2; cases h2

set_option maxHeartbeats 16000000 in
set_option maxRecDepth 100000 in
/-- THE SPECIFICATION's ModuleOk. -/
theorem specModuleOk_any (d : Nat) (w : World) (cs : List Value) (m : Md) (h : HMd w All d cs m) :
    Calls Tryz.prog 30 #[.agg cs.toArray] w fun e w' => e = .returned (.bool (mdOk d m)) ∧ Below w.heap.size w w' := by
  obtain ⟨ev, fv, rfl, hs, f0, f1⟩ := h
  obtain ⟨ms, es, fs⟩ := m
  simp only at *
  have FR : ∀ w', Below w.heap.size w w' → Rows w' All 3 (HFn w' All d) fv fs := fun w' hw => f1.mono (SameOn.of_below hw) (fun _ h => h) (fun _ _ _ h => h.mono (SameOn.of_below hw) (fun _ h => h))
  obtain ⟨pe, ce, rfl, hce, hcme, hxe⟩ := f0
  obtain ⟨pf, cf, rfl, hcf, hcmf, hxf⟩ := f1
  have hne : es.length ≤ 9223372036854775807 := by unfold maxLen at hcme; omega
  have hnf : fs.length ≤ 9223372036854775807 := by unfold maxLen at hcmf; omega
  have hv : mdOk d ⟨ms, es, fs⟩ = (atomB ms && ((decide (es.length ≤ 20) && (List.range es.length).all (rfsAt es)) && (inB fs.length 1 30 && (List.range fs.length).all (fnsAt d fs)))) := rfl
  rw [hv]
  clear hv
  generalize hn : es.length = ne at *
  generalize hn2 : fs.length = nf at *
  have HN : Hid (es.length = ne) := hn
  have HN2 : Hid (fs.length = nf) := hn2
  have HE : Hid (es ≠ [] → ∃ g off, pe = some ⟨g, off, none⟩ ∧ All g ∧ g < w.heap.size ∧ ∀ i x, es[i]? = some x → ∃ cs, cs.length = 2 ∧ (∀ j, j < 2 → w.cell? ⟨g, off + i * 2 + j, none⟩ = cs[j]?) ∧ HRf cs x) := hxe
  have HF0 : Hid (fs ≠ [] → ∃ g off, pf = some ⟨g, off, none⟩ ∧ All g ∧ g < w.heap.size ∧ ∀ i x, fs[i]? = some x → ∃ cs, cs.length = 3 ∧ (∀ j, j < 3 → w.cell? ⟨g, off + i * 3 + j, none⟩ = cs[j]?) ∧ HFn w All d cs x) := hxf
  obtain ⟨W1, hW1⟩ : ∃ W1, W1 = w.alloc (.cells #[.string ms, .slice pe ne ce, .slice pf nf cf] 42) := ⟨_, rfl⟩
  have bA : Hid (Blk W1 w.heap.size #[.string ms, .slice pe ne ce, .slice pf nf cf] 42) := by show Blk _ _ _ _; rw [hW1]; exact Blk.new
  have B1 : Hid (Below w.heap.size w W1) := by show Below _ _ _; rw [hW1]; exact (Below.refl _ _).alloc (Nat.le_refl _) _
  have HW1 : Hid (W1 = w.alloc (.cells #[.string ms, .slice pe ne ce, .slice pf nf cf] 42)) := hW1
  clear hxe hxf hn hn2 hW1
  cases ha : atomB ms with
  | false =>
    go_enter Tryz.func30, Tryz.ntmps30
    go_wp2_with (first | (go_at_call 48; go_must (refine (specAtomOk_any _ _ hs).mono ?_; rintro e w9 ⟨rfl, rfl⟩; rw [ha])))
    rw [← HW1.out]
    go_ret
    exact ⟨by simp, B1.out⟩
  | true =>
  by_cases h20 : ¬ ne ≤ 20
  · have h21 : (20 : Int) < (ne : Int) := by omega
    rw [decide_eq_false h20]
    go_enter Tryz.func30, Tryz.ntmps30
    go_wp2_with (first | (go_at_call 48; go_must (refine (specAtomOk_any _ _ hs).mono ?_; rintro e w9 ⟨rfl, rfl⟩; rw [ha])))
    rw [← HW1.out]
    go_ret
    exact ⟨by simp, B1.out⟩
  replace h20 : ne ≤ 20 := by omega
  have h21 : ¬ (20 : Int) < (ne : Int) := by omega
  rw [decide_eq_true h20]
  cases hin : inB nf 1 30 with
  | false =>
    go_enter Tryz.func30, Tryz.ntmps30
    go_wp2_with (first | (go_at_call 48; go_must (refine (specAtomOk_any _ _ hs).mono ?_; rintro e w9 ⟨rfl, rfl⟩; rw [ha])) | (go_at_call 49; go_must (refine (l01In_any _ _ _ _).mono ?_; rintro e w9 ⟨rfl, rfl⟩; rw [hin])))
    rw [← HW1.out]
    go_ret
    exact ⟨by simp, B1.out⟩
  | true =>
  simp only [Bool.true_and]
  go_enter Tryz.func30, Tryz.ntmps30
  go_wp2_with (first | (go_at_call 48; go_must (refine (specAtomOk_any _ _ hs).mono ?_; rintro e w9 ⟨rfl, rfl⟩; rw [ha])) | (go_at_call 49; go_must (refine (l01In_any _ _ _ _).mono ?_; rintro e w9 ⟨rfl, rfl⟩; rw [hin])))
  rw [← HW1.out]
  go_loopw [3] (fun iv wr => ∃ k : Nat, k ≤ ne ∧ iv = .int .i64 k ∧ Hid ((List.range k).all (rfsAt es) = true) ∧ Hid (SameOn All W1 wr) ∧ Below w.heap.size w wr) (fun iv _ => ne - (intOf iv).toNat)
  case atStart => exact ⟨0, Nat.zero_le _, rfl, by show _ = _; simp, ⟨Nat.le_refl _, fun _ _ _ => rfl⟩, B1.out⟩
  case round =>
    obtain ⟨k, hk, rfl, hall, hso, hb⟩ := hrel
    have HB : Hid (Below w.heap.size w wr) := hb
    have b1 := bA.out.same_on hso.out
    have hlw := b1.lt
    have xa0 := b1.cell 0 _ rfl
    have xa1 := b1.cell 1 _ rfl
    have xa2 := b1.cell 2 _ rfl
    clear b1
    by_cases hlt : k < ne
    · obtain ⟨x, hxk⟩ : ∃ x, es[k]? = some x := ⟨es[k]'(by rw [HN.out]; exact hlt), List.getElem?_eq_getElem _⟩
      obtain ⟨g, off, rfl, -, hgl, hat⟩ := HE.out (by intro h; rw [h] at hxk; simp at hxk)
      obtain ⟨cs, hcsl, hcs, r1⟩ := hat k x hxk
      obtain ⟨rfl, hxs, -⟩ := r1
      have hgw : g < wr.heap.size := Nat.lt_of_lt_of_le hgl hb.size
      have HAT0 : Hid (k = 0 → rfsAt es k = refB x) := fun h => rfsAt_zero h hxk
      have HATS : Hid (∀ j, k = j + 1 → ∃ q : Rf, rfsAt es k = (refB x && lessB q x) ∧ wr.cell? ⟨g, off + j * 2, none⟩ = some (.string q.name) ∧ wr.cell? ⟨g, off + j * 2 + 1, none⟩ = some (.int .i64 q.arity)) := fun j hj => by
        obtain ⟨q, hq⟩ : ∃ q, es[j]? = some q := ⟨es[j]'(by rw [HN.out]; omega), List.getElem?_eq_getElem _⟩
        obtain ⟨cs', _, hcs', rfl, hqs, _⟩ := hat j q hq
        have b0 := hcs' 0 (by omega)
        have b1 := hcs' 1 (by omega)
        rw [← hb.cell (p := ⟨g, _, none⟩) hgl] at b0 b1
        exact ⟨q, rfsAt_succ (by omega) (by rw [hj]; exact hq) hxk, by simpa using b0, by simpa using b1⟩
      have a0 := hcs 0 (by omega)
      have a1 := hcs 1 (by omega)
      rw [← hb.cell (p := ⟨g, _, none⟩) hgl] at a0 a1
      simp at a0 a1
      have hki : (k : Int) < (ne : Int) := by omega
      have hk0 : (0 : Int) ≤ (k : Int) := by omega
      obtain ⟨xs, xn⟩ := x
      simp only at *
      have hrf : refB ⟨xs, xn⟩ = (atomB xs && inB xn 0 6) := rfl
      rw [hrf] at HAT0 HATS
      generalize hca : atomB xs = ca at *
      have HCA : Hid (atomB xs = ca) := hca
      generalize hci : inB xn 0 6 = ci at *
      have HCI : Hid (inB xn 0 6 = ci) := hci
      obtain ⟨W5, hW5⟩ : ∃ W5, W5 = wr.alloc (.cells #[.string xs, .int .i64 xn] 44) := ⟨_, rfl⟩
      have bF : Hid (Blk W5 wr.heap.size #[.string xs, .int .i64 xn] 44) := by show Blk _ _ _ _; rw [hW5]; exact Blk.new
      have K5 : Hid (Below wr.heap.size wr W5) := by show Below _ _ _; rw [hW5]; exact (Below.refl _ _).alloc (Nat.le_refl _) _
      have B5 : Hid (Below w.heap.size w W5) := hb.trans (K5.out.mono hb.size)
      have S5 : Hid (SameOn All W1 W5) := hso.out.trans (SameOn.of_below K5.out)
      have HW5 : Hid (W5 = wr.alloc (.cells #[.string xs, .int .i64 xn] 44)) := hW5
      have hg5 : g < W5.heap.size := Nat.lt_of_lt_of_le hgw K5.out.size
      have z0 := bF.out.cell 0 _ rfl
      have z1 := bF.out.cell 1 _ rfl
      have l2 := bF.out.lt
      have bM := bA.out.same_on S5.out
      have u1 := bM.cell 1 _ rfl
      have l3 := bM.lt
      have qz0 : ∀ m : Wd (fun w' => SameOn All W5 w' ∧ Below w.heap.size w w'), m.val.cell? ⟨wr.heap.size, 0, none⟩ = some (.string xs) := fun m => (World.cell?_of_block (m.ok.1.2 wr.heap.size trivial l2)).trans z0
      have qz1 : ∀ m : Wd (fun w' => SameOn All W5 w' ∧ Below w.heap.size w w'), m.val.cell? ⟨wr.heap.size, 1, none⟩ = some (.int .i64 xn) := fun m => (World.cell?_of_block (m.ok.1.2 wr.heap.size trivial l2)).trans z1
      have qu1 : ∀ m : Wd (fun w' => SameOn All W5 w' ∧ Below w.heap.size w w'), m.val.cell? ⟨w.heap.size, 1, none⟩ = some (.slice (some ⟨g, off, none⟩) ne ce) := fun m => (World.cell?_of_block (m.ok.1.2 w.heap.size trivial l3)).trans u1
      clear hb hcs hat hcsl hW5 z0 z1 l2 hca hci bM u1 l3
      by_cases hac : (ca && ci) = false
      · have HF : Hid ((List.range ne).all (rfsAt es) = false) := rangeT_at _ ne k hlt (by
          rcases Nat.eq_zero_or_pos k with h | h
          · rw [HAT0.out h, hac]
          · obtain ⟨q, hq, _⟩ := HATS.out (k - 1) (by omega)
            rw [hq, hac]; rfl)
        clear HAT0 HATS
        cases ca with
        | false =>
          go_wp2_with fail
          rw [← HW5.out]
          have hCne : Nonempty (Wd (fun w' => SameOn All W5 w' ∧ Below w.heap.size w w')) := ⟨⟨W5.drew, ⟨⟨Nat.le_refl _, fun _ _ _ => rfl⟩, B5.out.drew⟩⟩⟩
          refine wp_region_class (fun w' => SameOn All W5 w' ∧ Below w.heap.size w w') (by kernel_rfl) (by kernel_rfl) ⟨⟨Nat.le_refl _, fun _ _ _ => rfl⟩, B5.out.drew⟩ ?_
          repeat (go_big_quiet_step (first | (rename_i m; go_at_call 48; refine (specAtomOk_any _ _ hxs).mono ?_; rintro e w1 ⟨rfl, rfl⟩; exact ⟨by rw [HCA.out], ⟨m, rfl⟩⟩)))
          refine wpQuiet_nil ?_
          rintro _ ⟨mq, rfl⟩
          have HB4 : Hid (Below w.heap.size w mq.val) := mq.ok.2
          have HS4 : Hid (SameOn All W5 mq.val) := mq.ok.1
          generalize mq.val = w4 at HB4 HS4 ⊢
          go_wp2_with fail
          go_ret
          exact ⟨by rw [HF.out]; rfl, HB4.out⟩
        | true =>
          obtain rfl : ci = false := by simpa using hac
          clear hac
          go_wp2_with fail
          rw [← HW5.out]
          have hCne : Nonempty (Wd (fun w' => SameOn All W5 w' ∧ Below w.heap.size w w')) := ⟨⟨W5.drew, ⟨⟨Nat.le_refl _, fun _ _ _ => rfl⟩, B5.out.drew⟩⟩⟩
          refine wp_region_class (fun w' => SameOn All W5 w' ∧ Below w.heap.size w w') (by kernel_rfl) (by kernel_rfl) ⟨⟨Nat.le_refl _, fun _ _ _ => rfl⟩, B5.out.drew⟩ ?_
          repeat (go_big_quiet_step (first | (rename_i m; go_at_call 48; refine (specAtomOk_any _ _ hxs).mono ?_; rintro e w1 ⟨rfl, rfl⟩; exact ⟨by rw [HCA.out], ⟨m, rfl⟩⟩) | (rename_i m; go_at_call 49; refine (l01In_any _ _ _ _).mono ?_; rintro e w1 ⟨rfl, rfl⟩; exact ⟨by rw [HCI.out], ⟨m, rfl⟩⟩)))
          refine wpQuiet_nil ?_
          rintro _ ⟨mq, rfl⟩
          have HB4 : Hid (Below w.heap.size w mq.val) := mq.ok.2
          have HS4 : Hid (SameOn All W5 mq.val) := mq.ok.1
          generalize mq.val = w4 at HB4 HS4 ⊢
          go_wp2_with fail
          go_ret
          exact ⟨by rw [HF.out]; rfl, HB4.out⟩
      · obtain ⟨rfl, rfl⟩ : ca = true ∧ ci = true := by simpa using hac
        clear hac
        rcases Nat.eq_zero_or_pos k with hz | hz
        · have HT' : Hid ((List.range (k + 1)).all (rfsAt es) = true) := rangeT_succ _ k hall.out (HAT0.out hz)
          have hz1 : ¬ (0 : Int) < (k : Int) := by omega
          have hz3 : ¬ 0 < k := by omega
          have hz4 : decide (0 < k) = false := decide_eq_false hz3
          clear HAT0 HATS hz
          go_wp2_with fail
          rw [← HW5.out]
          have hCne : Nonempty (Wd (fun w' => SameOn All W5 w' ∧ Below w.heap.size w w')) := ⟨⟨W5.drew, ⟨⟨Nat.le_refl _, fun _ _ _ => rfl⟩, B5.out.drew⟩⟩⟩
          refine wp_region_class (fun w' => SameOn All W5 w' ∧ Below w.heap.size w w') (by kernel_rfl) (by kernel_rfl) ⟨⟨Nat.le_refl _, fun _ _ _ => rfl⟩, B5.out.drew⟩ ?_
          repeat (go_big_quiet_step (first | (rename_i m; go_at_call 48; refine (specAtomOk_any _ _ hxs).mono ?_; rintro e w1 ⟨rfl, rfl⟩; exact ⟨by rw [HCA.out], ⟨m, rfl⟩⟩) | (rename_i m; go_at_call 49; refine (l01In_any _ _ _ _).mono ?_; rintro e w1 ⟨rfl, rfl⟩; exact ⟨by rw [HCI.out], ⟨m, rfl⟩⟩)))
          refine wpQuiet_nil ?_
          rintro _ ⟨mq, rfl⟩
          have HB4 : Hid (Below w.heap.size w mq.val) := mq.ok.2
          have HS4 : Hid (SameOn All W5 mq.val) := mq.ok.1
          generalize mq.val = w4 at HB4 HS4 ⊢
          have HS9 : Hid (SameOn All W1 w4) := S5.out.trans HS4.out
          go_wp2_with fail
          exact ⟨⟨k + 1, by omega, by go_num, HT'.out, HS9.out, HB4.out⟩, by simp [intOf]; omega⟩
        · obtain ⟨j, rfl⟩ : ∃ j, k = j + 1 := ⟨k - 1, by omega⟩
          obtain ⟨q, hat, y0, y1⟩ := HATS.out j rfl
          have HAT : Hid (rfsAt es (j + 1) = ((true && true) && lessB q ⟨xs, xn⟩)) := hat
          obtain ⟨qs, qn⟩ := q
          simp only at *
          have qy0 : ∀ m : Wd (fun w' => SameOn All W5 w' ∧ Below w.heap.size w w'), m.val.cell? ⟨g, off + j * 2, none⟩ = some (.string qs) := fun m => (World.cell?_of_block (m.ok.1.2 g trivial hg5)).trans (cell_next K5.out y0)
          have qy1 : ∀ m : Wd (fun w' => SameOn All W5 w' ∧ Below w.heap.size w w'), m.val.cell? ⟨g, off + j * 2 + 1, none⟩ = some (.int .i64 qn) := fun m => (World.cell?_of_block (m.ok.1.2 g trivial hg5)).trans (cell_next K5.out y1)
          have hji : (j : Int) < (ne : Int) := by omega
          have hj0 : (0 : Int) ≤ (j : Int) := by omega
          have hj1 : (0 : Int) < (j : Int) + 1 := by omega
          generalize hz9 : lessB ⟨qs, qn⟩ ⟨xs, xn⟩ = z
          have HCL : Hid (lessB ⟨qs, qn⟩ ⟨xs, xn⟩ = z) := hz9
          have HT2 : Hid (z = true → (List.range (j + 1 + 1)).all (rfsAt es) = true) := fun h => rangeT_succ _ (j + 1) hall.out (by rw [HAT.out, hz9, h]; rfl)
          have HF2 : Hid (z = false → (List.range ne).all (rfsAt es) = false) := fun h => rangeT_at _ ne (j + 1) hlt (by rw [HAT.out, hz9, h]; rfl)
          clear HAT0 HATS hat hz y0 y1 hz9
          go_wp2_with fail
          rw [← HW5.out]
          have hCne : Nonempty (Wd (fun w' => SameOn All W5 w' ∧ Below w.heap.size w w')) := ⟨⟨W5.drew, ⟨⟨Nat.le_refl _, fun _ _ _ => rfl⟩, B5.out.drew⟩⟩⟩
          refine wp_region_class (fun w' => SameOn All W5 w' ∧ Below w.heap.size w w') (by kernel_rfl) (by kernel_rfl) ⟨⟨Nat.le_refl _, fun _ _ _ => rfl⟩, B5.out.drew⟩ ?_
          repeat (go_big_quiet_step (first | (rename_i m; go_at_call 48; refine (specAtomOk_any _ _ hxs).mono ?_; rintro e w1 ⟨rfl, rfl⟩; exact ⟨by rw [HCA.out], ⟨m, rfl⟩⟩) | (rename_i m; go_at_call 49; refine (l01In_any _ _ _ _).mono ?_; rintro e w1 ⟨rfl, rfl⟩; exact ⟨by rw [HCI.out], ⟨m, rfl⟩⟩) | (rename_i m; go_at_call 50; refine (l02Less_any ⟨qs, qn⟩ ⟨xs, xn⟩ _).mono ?_; rintro e w1 ⟨rfl, hb1⟩; exact ⟨by rw [HCL.out], ⟨⟨w1, ⟨(SameOn.trans m.ok.1 (SameOn.of_below hb1)), m.ok.2.trans (hb1.mono m.ok.2.size)⟩⟩, rfl⟩⟩)))
          refine wpQuiet_nil ?_
          rintro _ ⟨mq, rfl⟩
          have HB4 : Hid (Below w.heap.size w mq.val) := mq.ok.2
          have HS4 : Hid (SameOn All W5 mq.val) := mq.ok.1
          generalize mq.val = w4 at HB4 HS4 ⊢
          have HS9 : Hid (SameOn All W1 w4) := S5.out.trans HS4.out
          cases z with
          | true =>
            have HT' : Hid _ := HT2.out rfl
            clear HT2 HF2
            go_wp2_with fail
            exact ⟨⟨j + 1 + 1, by omega, by go_num, HT'.out, HS9.out, HB4.out⟩, by simp [intOf]; omega⟩
          | false =>
            have HF' : Hid _ := HF2.out rfl
            clear HT2 HF2
            go_wp2_with fail
            go_ret
            exact ⟨by rw [HF'.out]; rfl, HB4.out⟩
    · have HDE : Hid ((List.range ne).all (rfsAt es) = true) := by
        obtain rfl : k = ne := by omega
        exact hall.out
      clear hb
      go_wp2_with fail
      clear xa0 xa1 xa2
      go_loopw [5] (fun iv wr => ∃ k : Nat, k ≤ nf ∧ iv = .int .i64 k ∧ Hid ((List.range k).all (fnsAt d fs) = true) ∧ Hid (SameOn All W1 wr) ∧ Below w.heap.size w wr) (fun iv _ => nf - (intOf iv).toNat)
      case atStart => exact ⟨0, Nat.zero_le _, rfl, by show _ = _; simp, hso.out, HB.out⟩
      case round =>
        clear HB hso
        obtain ⟨k, hk, rfl, hall, hso, hb⟩ := hrel
        have HB : Hid (Below w.heap.size w wr) := hb
        have b1 := bA.out.same_on hso.out
        have hlw := b1.lt
        have xa0 := b1.cell 0 _ rfl
        have xa1 := b1.cell 1 _ rfl
        have xa2 := b1.cell 2 _ rfl
        clear b1
        by_cases hlt : k < nf
        · obtain ⟨x, hxk⟩ : ∃ x, fs[k]? = some x := ⟨fs[k]'(by rw [HN2.out]; exact hlt), List.getElem?_eq_getElem _⟩
          obtain ⟨g, off, rfl, -, hgl, hat⟩ := HF0.out (by intro h; rw [h] at hxk; simp at hxk)
          obtain ⟨cs, hcsl, hcs, r1⟩ := hat k x hxk
          have HAT : Hid (fnsAt d fs k = (fnB d x && !(fs.take k).any (sameR ⟨x.name, x.arity⟩))) := fnsAt_eq hxk
          have HFI : Hid (∀ w', Below w.heap.size w w' → Calls Tryz.prog 18 #[.agg #[.string ms, .slice pe ne ce, .slice (some ⟨g, off, none⟩) nf cf], .string x.name, .int .i64 x.arity] w' fun e w'' => ∃ r : Int, e = .returned (.int .i64 r) ∧ (r == (k : Int)) = !(fs.take k).any (sameR ⟨x.name, x.arity⟩) ∧ Below w'.heap.size w' w'') := fun w' hw => l02Find_any d w' ms pe ne ce _ fs k x (FR w' hw) hxk
          obtain ⟨cv, rfl, hxs, -, hcr⟩ := r1
          obtain ⟨xs, xn, xc⟩ := x
          simp only at *
          have CR : ∀ w', Below w.heap.size w w' → Rows w' All 2 (HCl w' All (HEx w' All d)) cv xc := fun w' hw => hcr.mono (SameOn.of_below hw) (fun _ h => h) (fun _ _ _ h => h.mono (SameOn.of_below hw) (fun _ h => h) (fun _ _ h => h.mono (SameOn.of_below hw) (fun _ h => h)))
          obtain ⟨pc, cc, rfl, hcc, hcmc, hxc⟩ := hcr
          have hncb : xc.length ≤ 9223372036854775807 := by unfold maxLen at hcmc; omega
          have hfb : fnB d ⟨xs, xn, xc⟩ = ((atomB xs && inB xn 0 6) && (inB xc.length 1 20 && xc.all (fun c => clB (fun y q => exOk d y q 40) c xn))) := rfl
          rw [hfb] at HAT
          clear hfb
          generalize hn3 : xc.length = nc at *
          have HN3 : Hid (xc.length = nc) := hn3
          have HC0 : Hid (xc ≠ [] → ∃ g off, pc = some ⟨g, off, none⟩ ∧ All g ∧ g < w.heap.size ∧ ∀ i x, xc[i]? = some x → ∃ cs, cs.length = 2 ∧ (∀ j, j < 2 → w.cell? ⟨g, off + i * 2 + j, none⟩ = cs[j]?) ∧ HCl w All (HEx w All d) cs x) := hxc
          have a0 := hcs 0 (by omega)
          have a1 := hcs 1 (by omega)
          have a2 := hcs 2 (by omega)
          rw [← hb.cell (p := ⟨g, _, none⟩) hgl] at a0 a1 a2
          simp at a0 a1 a2
          have hki : (k : Int) < (nf : Int) := by omega
          have hk0 : (0 : Int) ≤ (k : Int) := by omega
          generalize hcb : (fs.take k).any (sameR ⟨xs, xn⟩) = cb at *
          obtain ⟨W5, hW5⟩ : ∃ W5, W5 = wr.alloc (.cells #[.string xs, .int .i64 xn, .slice pc nc cc] 52) := ⟨_, rfl⟩
          have bF : Hid (Blk W5 wr.heap.size #[.string xs, .int .i64 xn, .slice pc nc cc] 52) := by show Blk _ _ _ _; rw [hW5]; exact Blk.new
          have K5 : Hid (Below wr.heap.size wr W5) := by show Below _ _ _; rw [hW5]; exact (Below.refl _ _).alloc (Nat.le_refl _) _
          have B5 : Hid (Below w.heap.size w W5) := hb.trans (K5.out.mono hb.size)
          have S5 : Hid (SameOn All W1 W5) := hso.out.trans (SameOn.of_below K5.out)
          have HW5 : Hid (W5 = wr.alloc (.cells #[.string xs, .int .i64 xn, .slice pc nc cc] 52)) := hW5
          clear hb hcs hat hcsl hW5 hcb hxc hn3
          by_cases hac : (atomB xs && inB xn 0 6) = false
          · have HF : Hid ((List.range nf).all (fnsAt d fs) = false) := rangeT_at _ nf k hlt (by rw [HAT.out, hac]; rfl)
            clear HAT
            cases ca : atomB xs with
            | false =>
              go_wp2_with (first | (go_at_call 48; go_must (refine (specAtomOk_any _ _ hxs).mono ?_; rintro e w9 ⟨rfl, rfl⟩; rw [ca])))
              rw [← HW5.out]
              go_ret
              exact ⟨by rw [HDE.out, HF.out]; rfl, B5.out⟩
            | true =>
              have ci : inB xn 0 6 = false := by rw [ca] at hac; simpa using hac
              go_wp2_with (first | (go_at_call 48; go_must (refine (specAtomOk_any _ _ hxs).mono ?_; rintro e w9 ⟨rfl, rfl⟩; rw [ca])) | (go_at_call 49; go_must (refine (l01In_any _ _ _ _).mono ?_; rintro e w9 ⟨rfl, rfl⟩; rw [ci])))
              rw [← HW5.out]
              go_ret
              exact ⟨by rw [HDE.out, HF.out]; rfl, B5.out⟩
          obtain ⟨ca, ci⟩ : atomB xs = true ∧ inB xn 0 6 = true := by simpa using hac
          rw [ca, ci] at HAT
          clear hac
          have bM := bA.out.same_on S5.out
          have u0 := bM.cell 0 _ rfl
          have u1 := bM.cell 1 _ rfl
          have u2 := bM.cell 2 _ rfl
          rw [HW5.out] at u0 u1 u2
          clear bM
          cases cb with
          | true =>
            have HF : Hid ((List.range nf).all (fnsAt d fs) = false) := rangeT_at _ nf k hlt (by rw [HAT.out]; simp)
            clear HAT
            go_wp2_with (first | (go_at_call 48; go_must (refine (specAtomOk_any _ _ hxs).mono ?_; rintro e w9 ⟨rfl, rfl⟩; rw [ca])) | (go_at_call 49; go_must (refine (l01In_any _ _ _ _).mono ?_; rintro e w9 ⟨rfl, rfl⟩; rw [ci])))
            rw [← HW5.out]
            refine (HFI.out _ B5.out).mono ?_
            rintro e w6 ⟨r, rfl, hri, hb6⟩
            have hr2 : (r != (k : Int)) = true := by simpa using hri
            have B6 : Hid (Below w.heap.size w w6) := B5.out.trans (hb6.mono B5.out.size)
            clear hri hb6
            go_wp2_with fail
            go_ret
            exact ⟨by rw [HDE.out, HF.out]; rfl, B6.out⟩
          | false =>
            cases cin : inB nc 1 20 with
            | false =>
              have HF : Hid ((List.range nf).all (fnsAt d fs) = false) := rangeT_at _ nf k hlt (by rw [HAT.out, cin]; simp)
              clear HAT
              go_wp2_with (first | (go_at_call 48; go_must (refine (specAtomOk_any _ _ hxs).mono ?_; rintro e w9 ⟨rfl, rfl⟩; rw [ca])) | (go_at_call 49; go_must (refine (l01In_any _ _ _ _).mono ?_; rintro e w9 ⟨rfl, rfl⟩; rw [ci])))
              rw [← HW5.out]
              refine (HFI.out _ B5.out).mono ?_
              rintro e w6 ⟨r, rfl, hri, hb6⟩
              obtain rfl : r = (k : Int) := by simpa using hri
              have B6 : Hid (Below w.heap.size w w6) := B5.out.trans (hb6.mono B5.out.size)
              have S6 : Hid (SameOn All W5 w6) := SameOn.of_below hb6
              have bG : Hid (Blk w6 wr.heap.size #[.string xs, .int .i64 xn, .slice pc nc cc] 52) := bF.out.next hb6
              have v0 := bG.out.cell 0 _ rfl
              have v1 := bG.out.cell 1 _ rfl
              have v2 := bG.out.cell 2 _ rfl
              clear hri hb6
              go_wp2_with (first | (go_at_call 49; go_must (refine (l01In_any _ _ _ _).mono ?_; rintro e w9 ⟨rfl, hw9⟩; rw [cin, hw9]; clear hw9 w9)))
              go_ret
              exact ⟨by rw [HDE.out, HF.out]; rfl, B6.out⟩
            | true =>
              rw [cin] at HAT
              go_wp2_with (first | (go_at_call 48; go_must (refine (specAtomOk_any _ _ hxs).mono ?_; rintro e w9 ⟨rfl, rfl⟩; rw [ca])) | (go_at_call 49; go_must (refine (l01In_any _ _ _ _).mono ?_; rintro e w9 ⟨rfl, rfl⟩; rw [ci])))
              rw [← HW5.out]
              refine (HFI.out _ B5.out).mono ?_
              rintro e w6 ⟨r, rfl, hri, hb6⟩
              obtain rfl : r = (k : Int) := by simpa using hri
              have B6 : Hid (Below w.heap.size w w6) := B5.out.trans (hb6.mono B5.out.size)
              have S6 : Hid (SameOn All W5 w6) := SameOn.of_below hb6
              have bG : Hid (Blk w6 wr.heap.size #[.string xs, .int .i64 xn, .slice pc nc cc] 52) := bF.out.next hb6
              have v0 := bG.out.cell 0 _ rfl
              have v1 := bG.out.cell 1 _ rfl
              have v2 := bG.out.cell 2 _ rfl
              clear hri hb6
              go_wp2_with (first | (go_at_call 49; go_must (refine (l01In_any _ _ _ _).mono ?_; rintro e w9 ⟨rfl, hw9⟩; rw [cin, hw9]; clear hw9 w9)))
              clear v0 v1 v2 u0 u1 u2 xa0 xa1 xa2
              obtain ⟨W6, hW6⟩ : ∃ W6, W6 = wr.heap.size := ⟨_, rfl⟩
              have HW6 : Hid (W6 = wr.heap.size) := hW6
              rw [← hW6] at bG ⊢
              have S1 : Hid (SameOn All W1 w6) := S5.out.trans S6.out
              clear hW6 HW6 hlw bF HW5 K5 S5 S6 B5
              go_loopw [7] (fun iv wr => ∃ k2 : Nat, k2 ≤ nc ∧ iv = .int .i64 k2 ∧ Hid ((xc.take k2).all (fun c => clB (fun y q => exOk d y q 40) c xn) = true) ∧ Hid (SameOn All w6 wr) ∧ Below w.heap.size w wr) (fun iv _ => nc - (intOf iv).toNat)
              case atStart => exact ⟨0, Nat.zero_le _, rfl, by show _ = _; simp, ⟨Nat.le_refl _, fun _ _ _ => rfl⟩, B6.out⟩
              case round =>
                clear HB hso
                obtain ⟨k2, hk2, rfl, hall2, hso, hb⟩ := hrel
                have HB : Hid (Below w.heap.size w wr) := hb
                have b1 := bG.out.same_on hso.out
                have hlw := b1.lt
                have xa1 := b1.cell 1 _ rfl
                have xa2 := b1.cell 2 _ rfl
                clear b1
                by_cases hlt2 : k2 < nc
                · obtain ⟨c, hck⟩ : ∃ c, xc[k2]? = some c := ⟨xc[k2]'(by rw [HN3.out]; exact hlt2), List.getElem?_eq_getElem _⟩
                  obtain ⟨g2, off2, rfl, -, hgl2, hat2⟩ := HC0.out (by intro h; rw [h] at hck; simp at hck)
                  obtain ⟨cs, hcsl, hcs, r1⟩ := hat2 k2 c hck
                  have E1 : ∀ w', SameOn All wr w' → HCl w' All (HEx w' All d) cs c := fun w' hw => r1.mono (SameOn.trans (SameOn.of_below hb) hw) (fun _ h => h) (fun _ _ h => h.mono (SameOn.trans (SameOn.of_below hb) hw) (fun _ h => h))
                  obtain ⟨c0, c1, rfl⟩ := len2 hcsl
                  have a0 := hcs 0 (by omega)
                  have a1 := hcs 1 (by omega)
                  rw [← hb.cell (p := ⟨g2, _, none⟩) hgl2] at a0 a1
                  simp at a0 a1
                  have hki2 : (k2 : Int) < (nc : Int) := by omega
                  have hk02 : (0 : Int) ≤ (k2 : Int) := by omega
                  have hgw : g2 < wr.heap.size := Nat.lt_of_lt_of_le hgl2 hb.size
                  have qa0 : ∀ m : Wd (fun w' => SameOn All wr w' ∧ Below w.heap.size w w'), m.val.cell? ⟨g2, off2 + k2 * 2, none⟩ = some c0 := fun m => (World.cell?_of_block (m.ok.1.2 g2 trivial hgw)).trans a0
                  have qa1 : ∀ m : Wd (fun w' => SameOn All wr w' ∧ Below w.heap.size w w'), m.val.cell? ⟨g2, off2 + k2 * 2 + 1, none⟩ = some c1 := fun m => (World.cell?_of_block (m.ok.1.2 g2 trivial hgw)).trans a1
                  have qx1 : ∀ m : Wd (fun w' => SameOn All wr w' ∧ Below w.heap.size w w'), m.val.cell? ⟨W6, 1, none⟩ = some (.int .i64 xn) := fun m => (World.cell?_of_block (m.ok.1.2 W6 trivial hlw)).trans xa1
                  have qx2 : ∀ m : Wd (fun w' => SameOn All wr w' ∧ Below w.heap.size w w'), m.val.cell? ⟨W6, 2, none⟩ = some (.slice (some ⟨g2, off2, none⟩) nc cc) := fun m => (World.cell?_of_block (m.ok.1.2 W6 trivial hlw)).trans xa2
                  clear hb hcs hat2 hcsl r1
                  generalize hcv : clB (fun y q => exOk d y q 40) c xn = cv
                  have HCV : Hid (clB (fun y q => exOk d y q 40) c xn = cv) := hcv
                  have HC2 : Hid (cv = true → (xc.take (k2 + 1)).all (fun c => clB (fun y q => exOk d y q 40) c xn) = true) := fun h => allT_succ _ xc k2 c hck hall2.out (hcv.trans h)
                  have HC3 : Hid (cv = false → (List.range nf).all (fnsAt d fs) = false) := fun h => rangeT_at _ nf k hlt (by rw [HAT.out, allT_at _ xc k2 c hck (hcv.trans h)]; rfl)
                  clear hcv
                  go_wp2
                  have hCne : Nonempty (Wd (fun w' => SameOn All wr w' ∧ Below w.heap.size w w')) := ⟨⟨wr.drew, ⟨⟨Nat.le_refl _, fun _ _ _ => rfl⟩, HB.out.drew⟩⟩⟩
                  refine wp_region_class (fun w' => SameOn All wr w' ∧ Below w.heap.size w w') (by kernel_rfl) (by kernel_rfl) ⟨⟨Nat.le_refl _, fun _ _ _ => rfl⟩, HB.out.drew⟩ ?_
                  repeat (go_big_quiet_step (first | (rename_i m; go_at_call 51; refine (clause_allS d _ _ c xn 40 (E1 _ m.ok.1) (by omega) (by omega)).mono ?_; rintro e w1 ⟨rfl, hb1⟩; exact ⟨by rw [HCV.out], ⟨⟨w1, ⟨(SameOn.trans m.ok.1 (SameOn.of_below hb1)), m.ok.2.trans (hb1.mono m.ok.2.size)⟩⟩, rfl⟩⟩)))
                  refine wpQuiet_nil ?_
                  rintro _ ⟨mq, rfl⟩
                  have HB4 : Hid (Below w.heap.size w mq.val) := mq.ok.2
                  have HS4 : Hid (SameOn All w6 mq.val) := hso.out.trans mq.ok.1
                  generalize mq.val = w4 at HB4 HS4 ⊢
                  clear HCV
                  cases cv with
                  | true =>
                    have HT' : Hid _ := HC2.out rfl
                    clear HC2 HC3
                    go_wp2_with fail
                    exact ⟨⟨k2 + 1, by omega, by go_num, HT'.out, HS4.out, HB4.out⟩, by simp [intOf]; omega⟩
                  | false =>
                    have HF : Hid _ := HC3.out rfl
                    clear HC2 HC3
                    go_wp2_with fail
                    go_ret
                    exact ⟨by rw [HDE.out, HF.out]; rfl, HB4.out⟩
                · have HT' : Hid ((List.range (k + 1)).all (fnsAt d fs) = true) := rangeT_succ _ k hall.out (by
                    have := hall2.out
                    rw [List.take_of_length_le (by rw [HN3.out]; omega)] at this
                    rw [HAT.out, this]; rfl)
                  have HS9 : Hid (SameOn All W1 wr) := S1.out.trans hso.out
                  clear hb
                  go_wp2_with fail
                  exact ⟨⟨k + 1, by omega, by go_num, HT'.out, HS9.out, HB.out⟩, by simp [intOf]; omega⟩
        · have HD : Hid ((List.range nf).all (fnsAt d fs) = true) := by
            obtain rfl : k = nf := by omega
            exact hall.out
          clear hb
          go_wp2_with fail
          go_ret
          exact ⟨by rw [HDE.out, HD.out]; rfl, HB.out⟩
end Go.Proofs.YtigfmdfgioccjaaGreatDoor
/-
  The program's ModuleOk, by contract: exports, modules.
-/
namespace Go.Proofs.YtigfmdfgioccjaaGreatDoor
open Go.ChangeShapes Go.WideShapes Go.ChangeAt Go.RowKit
set_option linter.unusedVariables false

set_option maxHeartbeats 8000000 in
set_option maxRecDepth 100000 in
theorem exportsOk_any (w : World) (v : Value) (es : List Rf) (hT : Tabs w) (h : Rows w All 2 HRf v es) :
    Calls Tryz.prog 61 #[v] w fun e w' => e = .returned (.bool (decide (es.length ≤ 20) && rfsB es)) ∧ Below w.heap.size w w' := by
  have HT : Hid (Tabs w) := hT
  obtain ⟨p, cap, rfl, hcl, hcm, hx⟩ := h
  have hnb : es.length ≤ 9223372036854775807 := by unfold maxLen at hcm; omega
  have hfn : rfsB es = (List.range es.length).all (rfsAt es) := rfl
  rw [hfn]
  clear hfn
  generalize hn : es.length = n at *
  have HN : Hid (es.length = n) := hn
  have HX : Hid (es ≠ [] → ∃ g off, p = some ⟨g, off, none⟩ ∧ All g ∧ g < w.heap.size ∧ ∀ i x, es[i]? = some x → ∃ cs, cs.length = 2 ∧ (∀ j, j < 2 → w.cell? ⟨g, off + i * 2 + j, none⟩ = cs[j]?) ∧ HRf cs x) := hx
  clear hx hn hT
  by_cases h20 : n ≤ 20
  · have h21 : ¬ (20 : Int) < (n : Int) := by omega
    rw [decide_eq_true h20]
    go_enter Tryz.func61, Tryz.ntmps61
    go_wp2_with fail
    go_loopw [10] (fun iv wr => ∃ k : Nat, k ≤ n ∧ iv = .int .i64 k ∧ Hid ((List.range k).all (rfsAt es) = true) ∧ Below w.heap.size w wr) (fun iv _ => n - (intOf iv).toNat)
    case atStart => exact ⟨0, Nat.zero_le _, rfl, by show _ = _; simp, Below.refl _ _⟩
    case round =>
      obtain ⟨k, hk, rfl, hall, hb⟩ := hrel
      have HB : Hid (Below w.heap.size w wr) := hb
      by_cases hlt : k < n
      · obtain ⟨x, hxk⟩ : ∃ x, es[k]? = some x := ⟨es[k]'(by rw [HN.out]; exact hlt), List.getElem?_eq_getElem _⟩
        obtain ⟨g, off, rfl, -, hgl, hat⟩ := HX.out (by intro h; rw [h] at hxk; simp at hxk)
        obtain ⟨cs, hcsl, hcs, r1⟩ := hat k x hxk
        obtain ⟨rfl, hxs, -⟩ := r1
        have hgw : g < wr.heap.size := Nat.lt_of_lt_of_le hgl hb.size
        have HAT0 : Hid (k = 0 → rfsAt es k = refB x) := fun h => rfsAt_zero h hxk
        have HATS : Hid (∀ j, k = j + 1 → ∃ q : Rf, rfsAt es k = (refB x && lessB q x) ∧ okS q.name ∧ wr.cell? ⟨g, off + j * 2, none⟩ = some (.string q.name) ∧ wr.cell? ⟨g, off + j * 2 + 1, none⟩ = some (.int .i64 q.arity)) := fun j hj => by
          obtain ⟨q, hq⟩ : ∃ q, es[j]? = some q := ⟨es[j]'(by rw [HN.out]; omega), List.getElem?_eq_getElem _⟩
          obtain ⟨cs', _, hcs', rfl, hqs, _⟩ := hat j q hq
          have b0 := hcs' 0 (by omega)
          have b1 := hcs' 1 (by omega)
          rw [← hb.cell (p := ⟨g, _, none⟩) hgl] at b0 b1
          exact ⟨q, rfsAt_succ (by omega) (by rw [hj]; exact hq) hxk, hqs, by simpa using b0, by simpa using b1⟩
        have a0 := hcs 0 (by omega)
        have a1 := hcs 1 (by omega)
        rw [← hb.cell (p := ⟨g, _, none⟩) hgl] at a0 a1
        simp at a0 a1
        have hki : (k : Int) < (n : Int) := by omega
        have hk0 : (0 : Int) ≤ (k : Int) := by omega
        generalize hca : refB x = ca at *
        have HCA : Hid (refB x = ca) := hca
        obtain ⟨xs, xn⟩ := x
        simp only at *
        obtain ⟨W5, hW5⟩ : ∃ W5, W5 = wr.alloc (.cells #[.string xs, .int .i64 xn] 44) := ⟨_, rfl⟩
        have bF : Hid (Blk W5 wr.heap.size #[.string xs, .int .i64 xn] 44) := by show Blk _ _ _ _; rw [hW5]; exact Blk.new
        have K5 : Hid (Below wr.heap.size wr W5) := by show Below _ _ _; rw [hW5]; exact (Below.refl _ _).alloc (Nat.le_refl _) _
        have B5 : Hid (Below w.heap.size w W5) := hb.trans (K5.out.mono hb.size)
        have HW5 : Hid (W5 = wr.alloc (.cells #[.string xs, .int .i64 xn] 44)) := hW5
        have hg5 : g < W5.heap.size := Nat.lt_of_lt_of_le hgw K5.out.size
        have z0 := bF.out.cell 0 _ rfl
        have z1 := bF.out.cell 1 _ rfl
        have l2 := bF.out.lt
        have qz0 : ∀ m : Wd (fun w' => SameOn All W5 w' ∧ Below w.heap.size w w'), m.val.cell? ⟨wr.heap.size, 0, none⟩ = some (.string xs) := fun m => (World.cell?_of_block (m.ok.1.2 wr.heap.size trivial l2)).trans z0
        have qz1 : ∀ m : Wd (fun w' => SameOn All W5 w' ∧ Below w.heap.size w w'), m.val.cell? ⟨wr.heap.size, 1, none⟩ = some (.int .i64 xn) := fun m => (World.cell?_of_block (m.ok.1.2 wr.heap.size trivial l2)).trans z1
        clear hb hcs hat hcsl hW5 z0 z1 l2 hca
        cases ca with
        | false =>
          have HF : Hid ((List.range n).all (rfsAt es) = false) := rangeT_at _ n k hlt (by
            rcases Nat.eq_zero_or_pos k with h | h
            · exact HAT0.out h
            · obtain ⟨q, hq, _⟩ := HATS.out (k - 1) (by omega)
              rw [hq]; rfl)
          clear HAT0 HATS
          go_wp2_with fail
          rw [← HW5.out]
          have hCne : Nonempty (Wd (fun w' => SameOn All W5 w' ∧ Below w.heap.size w w')) := ⟨⟨W5.drew, ⟨⟨Nat.le_refl _, fun _ _ _ => rfl⟩, B5.out.drew⟩⟩⟩
          refine wp_region_class (fun w' => SameOn All W5 w' ∧ Below w.heap.size w w') (by kernel_rfl) (by kernel_rfl) ⟨⟨Nat.le_refl _, fun _ _ _ => rfl⟩, B5.out.drew⟩ ?_
          repeat (go_big_quiet_step (first | (rename_i m; go_at_call 87; refine (refOk_any ⟨xs, xn⟩ _ hxs (HT.out.below m.ok.2).keys).mono ?_; rintro e w1 ⟨rfl, hb1⟩; exact ⟨by rw [HCA.out], ⟨⟨w1, ⟨(SameOn.trans m.ok.1 (SameOn.of_below hb1)), m.ok.2.trans (hb1.mono m.ok.2.size)⟩⟩, rfl⟩⟩)))
          refine wpQuiet_nil ?_
          rintro _ ⟨mq, rfl⟩
          have HB4 : Hid (Below w.heap.size w mq.val) := mq.ok.2
          have HS4 : Hid (SameOn All W5 mq.val) := mq.ok.1
          generalize mq.val = w4 at HB4 HS4 ⊢
          go_wp2_with fail
          go_ret
          exact ⟨by rw [HF.out]; rfl, HB4.out⟩
        | true =>
          rcases Nat.eq_zero_or_pos k with hz | hz
          · have HT' : Hid ((List.range (k + 1)).all (rfsAt es) = true) := rangeT_succ _ k hall.out (HAT0.out hz)
            have hz1 : ¬ (0 : Int) < (k : Int) := by omega
            have hz3 : ¬ 0 < k := by omega
            have hz4 : decide (0 < k) = false := decide_eq_false hz3
            clear HAT0 HATS hz
            go_wp2_with fail
            rw [← HW5.out]
            have hCne : Nonempty (Wd (fun w' => SameOn All W5 w' ∧ Below w.heap.size w w')) := ⟨⟨W5.drew, ⟨⟨Nat.le_refl _, fun _ _ _ => rfl⟩, B5.out.drew⟩⟩⟩
            refine wp_region_class (fun w' => SameOn All W5 w' ∧ Below w.heap.size w w') (by kernel_rfl) (by kernel_rfl) ⟨⟨Nat.le_refl _, fun _ _ _ => rfl⟩, B5.out.drew⟩ ?_
            repeat (go_big_quiet_step (first | (rename_i m; go_at_call 87; refine (refOk_any ⟨xs, xn⟩ _ hxs (HT.out.below m.ok.2).keys).mono ?_; rintro e w1 ⟨rfl, hb1⟩; exact ⟨by rw [HCA.out], ⟨⟨w1, ⟨(SameOn.trans m.ok.1 (SameOn.of_below hb1)), m.ok.2.trans (hb1.mono m.ok.2.size)⟩⟩, rfl⟩⟩)))
            refine wpQuiet_nil ?_
            rintro _ ⟨mq, rfl⟩
            have HB4 : Hid (Below w.heap.size w mq.val) := mq.ok.2
            have HS4 : Hid (SameOn All W5 mq.val) := mq.ok.1
            generalize mq.val = w4 at HB4 HS4 ⊢
            go_wp2_with fail
            exact ⟨⟨k + 1, by omega, by go_num, HT'.out, HB4.out⟩, by simp [intOf]; omega⟩
          · obtain ⟨j, rfl⟩ : ∃ j, k = j + 1 := ⟨k - 1, by omega⟩
            obtain ⟨q, hat, hqs, y0, y1⟩ := HATS.out j rfl
            have HAT : Hid (rfsAt es (j + 1) = (true && lessB q ⟨xs, xn⟩)) := hat
            obtain ⟨qs, qn⟩ := q
            simp only at *
            have qy0 : ∀ m : Wd (fun w' => SameOn All W5 w' ∧ Below w.heap.size w w'), m.val.cell? ⟨g, off + j * 2, none⟩ = some (.string qs) := fun m => (World.cell?_of_block (m.ok.1.2 g trivial hg5)).trans (cell_next K5.out y0)
            have qy1 : ∀ m : Wd (fun w' => SameOn All W5 w' ∧ Below w.heap.size w w'), m.val.cell? ⟨g, off + j * 2 + 1, none⟩ = some (.int .i64 qn) := fun m => (World.cell?_of_block (m.ok.1.2 g trivial hg5)).trans (cell_next K5.out y1)
            have hji : (j : Int) < (n : Int) := by omega
            have hj0 : (0 : Int) ≤ (j : Int) := by omega
            have hj1 : (0 : Int) < (j : Int) + 1 := by omega
            generalize hz9 : cmpRf ⟨qs, qn⟩ ⟨xs, xn⟩ = z
            have HZ : Hid (cmpRf ⟨qs, qn⟩ ⟨xs, xn⟩ = z) := hz9
            have HL : Hid (lessB ⟨qs, qn⟩ ⟨xs, xn⟩ = decide (z < 0)) := by show _ = _; unfold lessB; rw [hz9]
            clear HAT0 HATS hat hz y0 y1 hz9
            by_cases hzl : z < 0
            · have HT' : Hid ((List.range (j + 1 + 1)).all (rfsAt es) = true) := rangeT_succ _ (j + 1) hall.out (by rw [HAT.out, HL.out, decide_eq_true hzl]; rfl)
              have hzl2 : ¬ 0 ≤ z := by omega
              go_wp2_with fail
              rw [← HW5.out]
              have hCne : Nonempty (Wd (fun w' => SameOn All W5 w' ∧ Below w.heap.size w w')) := ⟨⟨W5.drew, ⟨⟨Nat.le_refl _, fun _ _ _ => rfl⟩, B5.out.drew⟩⟩⟩
              refine wp_region_class (fun w' => SameOn All W5 w' ∧ Below w.heap.size w w') (by kernel_rfl) (by kernel_rfl) ⟨⟨Nat.le_refl _, fun _ _ _ => rfl⟩, B5.out.drew⟩ ?_
              repeat (go_big_quiet_step (first | (rename_i m; go_at_call 87; refine (refOk_any ⟨xs, xn⟩ _ hxs (HT.out.below m.ok.2).keys).mono ?_; rintro e w1 ⟨rfl, hb1⟩; exact ⟨by rw [HCA.out], ⟨⟨w1, ⟨(SameOn.trans m.ok.1 (SameOn.of_below hb1)), m.ok.2.trans (hb1.mono m.ok.2.size)⟩⟩, rfl⟩⟩) | (rename_i m; go_at_call 88; refine (compareRef_any ⟨qs, qn⟩ ⟨xs, xn⟩ _).mono ?_; rintro e w1 ⟨rfl, hb1⟩; exact ⟨by rw [HZ.out], ⟨⟨w1, ⟨(SameOn.trans m.ok.1 (SameOn.of_below hb1)), m.ok.2.trans (hb1.mono m.ok.2.size)⟩⟩, rfl⟩⟩)))
              refine wpQuiet_nil ?_
              rintro _ ⟨mq, rfl⟩
              have HB4 : Hid (Below w.heap.size w mq.val) := mq.ok.2
              have HS4 : Hid (SameOn All W5 mq.val) := mq.ok.1
              generalize mq.val = w4 at HB4 HS4 ⊢
              go_wp2_with fail
              exact ⟨⟨j + 1 + 1, by omega, by go_num, HT'.out, HB4.out⟩, by simp [intOf]; omega⟩
            · have HF : Hid ((List.range n).all (rfsAt es) = false) := rangeT_at _ n (j + 1) hlt (by rw [HAT.out, HL.out, decide_eq_false hzl]; rfl)
              have hzl2 : 0 ≤ z := by omega
              go_wp2_with fail
              rw [← HW5.out]
              have hCne : Nonempty (Wd (fun w' => SameOn All W5 w' ∧ Below w.heap.size w w')) := ⟨⟨W5.drew, ⟨⟨Nat.le_refl _, fun _ _ _ => rfl⟩, B5.out.drew⟩⟩⟩
              refine wp_region_class (fun w' => SameOn All W5 w' ∧ Below w.heap.size w w') (by kernel_rfl) (by kernel_rfl) ⟨⟨Nat.le_refl _, fun _ _ _ => rfl⟩, B5.out.drew⟩ ?_
              repeat (go_big_quiet_step (first | (rename_i m; go_at_call 87; refine (refOk_any ⟨xs, xn⟩ _ hxs (HT.out.below m.ok.2).keys).mono ?_; rintro e w1 ⟨rfl, hb1⟩; exact ⟨by rw [HCA.out], ⟨⟨w1, ⟨(SameOn.trans m.ok.1 (SameOn.of_below hb1)), m.ok.2.trans (hb1.mono m.ok.2.size)⟩⟩, rfl⟩⟩) | (rename_i m; go_at_call 88; refine (compareRef_any ⟨qs, qn⟩ ⟨xs, xn⟩ _).mono ?_; rintro e w1 ⟨rfl, hb1⟩; exact ⟨by rw [HZ.out], ⟨⟨w1, ⟨(SameOn.trans m.ok.1 (SameOn.of_below hb1)), m.ok.2.trans (hb1.mono m.ok.2.size)⟩⟩, rfl⟩⟩)))
              refine wpQuiet_nil ?_
              rintro _ ⟨mq, rfl⟩
              have HB4 : Hid (Below w.heap.size w mq.val) := mq.ok.2
              have HS4 : Hid (SameOn All W5 mq.val) := mq.ok.1
              generalize mq.val = w4 at HB4 HS4 ⊢
              go_wp2_with fail
              go_ret
              exact ⟨by rw [HF.out]; rfl, HB4.out⟩
      · have HD : Hid ((List.range n).all (rfsAt es) = true) := by
          obtain rfl : k = n := by omega
          exact hall.out
        clear hb
        go_wp2_with fail
        go_ret
        exact ⟨by rw [HD.out]; rfl, HB.out⟩
  · have h21 : (20 : Int) < (n : Int) := by omega
    rw [decide_eq_false h20]
    go_enter Tryz.func61, Tryz.ntmps61
    go_wp2_with fail
    go_ret
    exact ⟨by simp, Below.refl _ _⟩

set_option maxHeartbeats 4000000 in
/-- THE PROGRAM's ModuleOk. -/
theorem implModuleOk_any (d : Nat) (w : World) (cs : List Value) (m : Md) (hT : Tabs w) (h : HMd w All d cs m) :
    Calls Tryz.prog 36 #[.agg cs.toArray] w fun e w' => e = .returned (.bool (mdOk d m)) ∧ Below w.heap.size w w' := by
  have HT : Hid (Tabs w) := hT
  obtain ⟨ev, fv, rfl, hs, f0, f1⟩ := h
  obtain ⟨ms, es, fs⟩ := m
  simp only at *
  have BL : Hid (∀ (cs : Array Value) (t : TypeId), Below w.heap.size w (w.alloc (.cells cs t))) := fun cs t => (Below.refl _ _).alloc (Nat.le_refl _) _
  have F0 : ∀ w', Below w.heap.size w w' → Rows w' All 2 HRf ev es := fun w' hw => f0.mono (SameOn.of_below hw) (fun _ h => h) (fun _ _ _ h => h)
  have F1 : ∀ w', Below w.heap.size w w' → Rows w' All 3 (HFn w' All d) fv fs := fun w' hw => f1.mono (SameOn.of_below hw) (fun _ h => h) (fun _ _ _ h => h.mono (SameOn.of_below hw) (fun _ h => h))
  obtain ⟨p, cap, rfl, -, -, -⟩ := f0
  obtain ⟨q, cap', rfl, -, -, -⟩ := f1
  have hv : mdOk d ⟨ms, es, fs⟩ = (atomB ms && ((decide (es.length ≤ 20) && rfsB es) && (inB fs.length 1 30 && fnsB d fs))) := rfl
  rw [hv]
  clear hv hT
  cases ha : atomB ms with
  | false =>
    go_enter Tryz.func36, Tryz.ntmps36
    go_wp2_with (first | (go_at_call 60; go_must (refine (implAtomOk_any _ _ hs (HT.out.below (BL.out _ _)).keys).mono ?_; rintro e w9 ⟨rfl, rfl⟩; rw [ha])))
    go_ret
    exact ⟨by simp, BL.out _ _⟩
  | true =>
    cases he : (decide (es.length ≤ 20) && rfsB es) with
    | false =>
      go_enter Tryz.func36, Tryz.ntmps36
      go_wp2_with (first | (go_at_call 60; go_must (refine (implAtomOk_any _ _ hs (HT.out.below (BL.out _ _)).keys).mono ?_; rintro e w9 ⟨rfl, rfl⟩; rw [ha])))
      refine (exportsOk_any _ _ es (HT.out.below (BL.out _ _)) (F0 _ (BL.out _ _))).mono ?_
      rintro e w2 ⟨rfl, hb2⟩
      rw [he]
      have B2 : Hid (Below w.heap.size w w2) := (BL.out _ _).trans (hb2.mono (BL.out _ _).size)
      clear hb2
      go_wp2_with fail
      go_ret
      exact ⟨by simp, B2.out⟩
    | true =>
      go_enter Tryz.func36, Tryz.ntmps36
      go_wp2_with (first | (go_at_call 60; go_must (refine (implAtomOk_any _ _ hs (HT.out.below (BL.out _ _)).keys).mono ?_; rintro e w9 ⟨rfl, rfl⟩; rw [ha])))
      refine (exportsOk_any _ _ es (HT.out.below (BL.out _ _)) (F0 _ (BL.out _ _))).mono ?_
      rintro e w2 ⟨rfl, hb2⟩
      rw [he]
      have B2 : Hid (Below w.heap.size w w2) := (BL.out _ _).trans (hb2.mono (BL.out _ _).size)
      have hbk := (Blk.new (w := w) (cs := #[.string ms, .slice p es.length cap, .slice q fs.length cap']) (t := 42)).next hb2
      have a2 := hbk.cell 2 _ rfl
      clear hb2 hbk
      go_wp2_with fail
      refine (funsOk_any d _ _ fs (HT.out.below B2.out) (F1 _ B2.out)).mono ?_
      rintro e w3 ⟨rfl, hb3⟩
      have B3 : Hid (Below w.heap.size w w3) := B2.out.trans (hb3.mono B2.out.size)
      clear hb3
      go_wp2_with fail
      go_ret
      exact ⟨by simp, B3.out⟩
end Go.Proofs.YtigfmdfgioccjaaGreatDoor
/-
  A program is right: its modules are, and ascending: both sides, by contract.
-/
namespace Go.Proofs.YtigfmdfgioccjaaGreatDoor
open Go.ChangeShapes Go.WideShapes Go.ChangeAt Go.RowKit
set_option linter.unusedVariables false

/-- One module of a program: it is right, and behind the one ahead of it. -/
def mdsAt (d : Nat) (ms : List Md) (k : Nat) : Bool :=
  match ms[k]? with
  | none => true
  | some m => mdOk d m && (match k with
    | 0 => true
    | j + 1 => match ms[j]? with
      | none => true
      | some q => Op.bytesLess q.name.toList m.name.toList)
/-- Whether a program is right. -/
def pgOk (d : Nat) (ms : List Md) : Bool := decide (ms.length ≤ 10) && (List.range ms.length).all (mdsAt d ms)
theorem mdsAt_zero {d : Nat} {ms : List Md} {k : Nat} {r : Md} (hk : k = 0) (h : ms[k]? = some r) : mdsAt d ms k = mdOk d r := by
  subst hk; simp [mdsAt, h]
theorem mdsAt_succ {d : Nat} {ms : List Md} {j : Nat} {q r : Md} (hq : ms[j]? = some q) (hr : ms[j + 1]? = some r) : mdsAt d ms (j + 1) = (mdOk d r && Op.bytesLess q.name.toList r.name.toList) := by
  simp [mdsAt, hr, hq]
theorem mdsAt_bad {d : Nat} {ms : List Md} {k : Nat} {r : Md} (hr : ms[k]? = some r) (h : mdOk d r = false) : mdsAt d ms k = false := by
  simp [mdsAt, hr, h]
theorem less_flip : ∀ {a b : List UInt8}, Op.bytesLess a b = false → a ≠ b → Op.bytesLess b a = true
  | [], [], _, h => absurd rfl h
  | _ :: _, [], _, _ => rfl
  | [], _ :: _, h, _ => by simp [Op.bytesLess] at h
  | x :: a, y :: b, h, hne => by
    simp only [Op.bytesLess, Bool.or_eq_false_iff, decide_eq_false_iff_not, Bool.and_eq_false_iff, beq_eq_false_iff_ne] at h
    simp only [Op.bytesLess, Bool.or_eq_true, decide_eq_true_eq, Bool.and_eq_true, beq_iff_eq]
    by_cases hxy : x = y
    · subst hxy
      rcases h.2 with h2 | h2
      · exact absurd rfl h2
      · exact Or.inr ⟨rfl, less_flip h2 (fun e => hne (by rw [e]))⟩
    · left
      rw [UInt8.lt_iff_toNat_lt] at h ⊢
      have : x.toNat ≠ y.toNat := fun e => hxy (UInt8.toNat_inj.1 e)
      omega
theorem less_asym : ∀ {a b : List UInt8}, Op.bytesLess a b = true → Op.bytesLess b a = false
  | [], [], h => by simp [Op.bytesLess] at h
  | _ :: _, [], h => by simp [Op.bytesLess] at h
  | [], _ :: _, _ => rfl
  | x :: a, y :: b, h => by
    simp only [Op.bytesLess, Bool.or_eq_true, decide_eq_true_eq, Bool.and_eq_true, beq_iff_eq] at h
    simp only [Op.bytesLess, Bool.or_eq_false_iff, decide_eq_false_iff_not, Bool.and_eq_false_iff, beq_eq_false_iff_ne]
    rw [UInt8.lt_iff_toNat_lt] at h ⊢
    rcases h with h | ⟨rfl, h⟩
    · exact ⟨by omega, Or.inl (fun e => by rw [e] at h; omega)⟩
    · exact ⟨by omega, Or.inr (less_asym h)⟩

set_option maxHeartbeats 8000000 in
set_option maxRecDepth 100000 in
theorem specProgramOk_any (d : Nat) (w : World) (v : Value) (ms : List Md) (h : Rows w All 3 (HMd w All d) v ms) :
    Calls Tryz.prog 17 #[v] w fun e w' => e = .returned (.bool (pgOk d ms)) ∧ Below w.heap.size w w' := by
  obtain ⟨p, cap, rfl, hcl, hcm, hx⟩ := h
  have hv : pgOk d ms = (decide (ms.length ≤ 10) && (List.range ms.length).all (mdsAt d ms)) := rfl
  rw [hv]
  clear hv
  generalize hn : ms.length = n at *
  have HN : Hid (ms.length = n) := hn
  have HX : Hid (ms ≠ [] → ∃ g off, p = some ⟨g, off, none⟩ ∧ All g ∧ g < w.heap.size ∧ ∀ i x, ms[i]? = some x → ∃ cs, cs.length = 3 ∧ (∀ j, j < 3 → w.cell? ⟨g, off + i * 3 + j, none⟩ = cs[j]?) ∧ HMd w All d cs x) := hx
  have hnb : n ≤ 9223372036854775807 := by unfold maxLen at hcm; omega
  clear hx hn
  go_enter Tryz.func17, Tryz.ntmps17
  go_wp2
  go_loopw [3] (fun iv wr => ∃ k : Nat, k ≤ n ∧ iv = .int .i64 k ∧ Hid ((List.range k).all (mdsAt d ms) = true) ∧ Below w.heap.size w wr) (fun iv _ => n - (intOf iv).toNat)
  case atStart => exact ⟨0, Nat.zero_le _, rfl, by show _ = _; simp, Below.refl _ _⟩
  case round =>
    obtain ⟨k, hk, rfl, hall, hb⟩ := hrel
    have HB : Hid (Below w.heap.size w wr) := hb
    by_cases hlt : k < n
    · obtain ⟨x, hxk⟩ : ∃ x, ms[k]? = some x := ⟨ms[k]'(by rw [HN.out]; exact hlt), List.getElem?_eq_getElem _⟩
      obtain ⟨g, off, rfl, -, hgl, hat⟩ := HX.out (by intro h; rw [h] at hxk; simp at hxk)
      obtain ⟨cs, hcsl, hcs, hmd⟩ := hat k x hxk
      have hgw : g < wr.heap.size := Nat.lt_of_lt_of_le hgl hb.size
      have HATS : Hid (∀ j, k = j + 1 → ∃ q : Md, ms[j]? = some q ∧ wr.cell? ⟨g, off + j * 3, none⟩ = some (.string q.name)) := fun j hj => by
        obtain ⟨q, hq⟩ : ∃ q, ms[j]? = some q := ⟨ms[j]'(by rw [HN.out]; omega), List.getElem?_eq_getElem _⟩
        obtain ⟨cs', _, hcs', ev, fv, rfl, _⟩ := hat j q hq
        have b0 := hcs' 0 (by omega)
        rw [← hb.cell (p := ⟨g, _, none⟩) hgl] at b0
        exact ⟨q, hq, by simpa using b0⟩
      have HMD : Hid (∀ w', Below w.heap.size w w' → HMd w' All d cs x) := fun w' hw => hmd.mono (SameOn.of_below hw) (fun _ h => h)
      obtain ⟨ev, fv, rfl, hxs, f0, f1⟩ := hmd
      obtain ⟨pe, ce, rfl, -⟩ := f0
      obtain ⟨pf, cf, rfl, -⟩ := f1
      have a0 := hcs 0 (by omega)
      have a1 := hcs 1 (by omega)
      have a2 := hcs 2 (by omega)
      rw [← hb.cell (p := ⟨g, _, none⟩) hgl] at a0 a1 a2
      simp at a0 a1 a2
      have hki : (k : Int) < (n : Int) := by omega
      have hk0 : (0 : Int) ≤ (k : Int) := by omega
      generalize hca : mdOk d x = ca at *
      have HCA : Hid (mdOk d x = ca) := hca
      have HXK : Hid (ms[k]? = some x) := hxk
      have qa0 : ∀ m : Wd (fun w' => SameOn All wr w' ∧ Below w.heap.size w w'), m.val.cell? ⟨g, off + k * 3, none⟩ = some (.string x.name) := fun m => (World.cell?_of_block (m.ok.1.2 g trivial hgw)).trans a0
      have qa1 : ∀ m : Wd (fun w' => SameOn All wr w' ∧ Below w.heap.size w w'), m.val.cell? ⟨g, off + k * 3 + 1, none⟩ = some (.slice pe x.exports.length ce) := fun m => (World.cell?_of_block (m.ok.1.2 g trivial hgw)).trans a1
      have qa2 : ∀ m : Wd (fun w' => SameOn All wr w' ∧ Below w.heap.size w w'), m.val.cell? ⟨g, off + k * 3 + 2, none⟩ = some (.slice pf x.funs.length cf) := fun m => (World.cell?_of_block (m.ok.1.2 g trivial hgw)).trans a2
      clear hb hcs hat hcsl hca a0 a1 a2 hxk
      cases ca with
      | false =>
        have HF : Hid ((List.range n).all (mdsAt d ms) = false) := rangeT_at _ n k hlt (mdsAt_bad HXK.out HCA.out)
        clear HATS
        go_wp2_with fail
        have hCne : Nonempty (Wd (fun w' => SameOn All wr w' ∧ Below w.heap.size w w')) := ⟨⟨wr.drew, ⟨⟨Nat.le_refl _, fun _ _ _ => rfl⟩, HB.out.drew⟩⟩⟩
        refine wp_region_class (fun w' => SameOn All wr w' ∧ Below w.heap.size w w') (by kernel_rfl) (by kernel_rfl) ⟨⟨Nat.le_refl _, fun _ _ _ => rfl⟩, HB.out.drew⟩ ?_
        repeat (go_big_quiet_step (first | (rename_i m; go_at_call 30; refine (specModuleOk_any d _ _ x (HMD.out _ m.ok.2)).mono ?_; rintro e w1 ⟨rfl, hb1⟩; exact ⟨by rw [HCA.out], ⟨⟨w1, ⟨m.ok.1.trans (SameOn.of_below hb1), m.ok.2.trans (hb1.mono m.ok.2.size)⟩⟩, rfl⟩⟩)))
        refine wpQuiet_nil ?_
        rintro _ ⟨mq, rfl⟩
        have HB4 : Hid (Below w.heap.size w mq.val) := mq.ok.2
        have HS4 : Hid (SameOn All wr mq.val) := mq.ok.1
        generalize mq.val = w4 at HB4 HS4 ⊢
        go_wp2_with fail
        go_ret
        exact ⟨by rw [HF.out]; simp, HB4.out⟩
      | true =>
        rcases Nat.eq_zero_or_pos k with hz | hz
        · have HT' : Hid ((List.range (k + 1)).all (mdsAt d ms) = true) := rangeT_succ _ k hall.out (by rw [mdsAt_zero hz HXK.out]; exact HCA.out)
          have hz1 : ¬ (0 : Int) < (k : Int) := by omega
          have hz3 : ¬ 0 < k := by omega
          have hz4 : decide (0 < k) = false := decide_eq_false hz3
          clear HATS hz
          go_wp2_with fail
          have hCne : Nonempty (Wd (fun w' => SameOn All wr w' ∧ Below w.heap.size w w')) := ⟨⟨wr.drew, ⟨⟨Nat.le_refl _, fun _ _ _ => rfl⟩, HB.out.drew⟩⟩⟩
          refine wp_region_class (fun w' => SameOn All wr w' ∧ Below w.heap.size w w') (by kernel_rfl) (by kernel_rfl) ⟨⟨Nat.le_refl _, fun _ _ _ => rfl⟩, HB.out.drew⟩ ?_
          repeat (go_big_quiet_step (first | (rename_i m; go_at_call 30; refine (specModuleOk_any d _ _ x (HMD.out _ m.ok.2)).mono ?_; rintro e w1 ⟨rfl, hb1⟩; exact ⟨by rw [HCA.out], ⟨⟨w1, ⟨m.ok.1.trans (SameOn.of_below hb1), m.ok.2.trans (hb1.mono m.ok.2.size)⟩⟩, rfl⟩⟩)))
          refine wpQuiet_nil ?_
          rintro _ ⟨mq, rfl⟩
          have HB4 : Hid (Below w.heap.size w mq.val) := mq.ok.2
          have HS4 : Hid (SameOn All wr mq.val) := mq.ok.1
          generalize mq.val = w4 at HB4 HS4 ⊢
          go_wp2_with fail
          exact ⟨⟨k + 1, by omega, by go_num, HT'.out, HB4.out⟩, by simp [intOf]; omega⟩
        · obtain ⟨j, rfl⟩ : ∃ j, k = j + 1 := ⟨k - 1, by omega⟩
          obtain ⟨q, hqj, y0⟩ := HATS.out j rfl
          have HAT : Hid (mdsAt d ms (j + 1) = (true && Op.bytesLess q.name.toList x.name.toList)) := by show _ = _; rw [mdsAt_succ hqj HXK.out, HCA.out]
          have qy0 : ∀ m : Wd (fun w' => SameOn All wr w' ∧ Below w.heap.size w w'), m.val.cell? ⟨g, off + j * 3, none⟩ = some (.string q.name) := fun m => (World.cell?_of_block (m.ok.1.2 g trivial hgw)).trans y0
          have hji : (j : Int) < (n : Int) := by omega
          have hj0 : (0 : Int) ≤ (j : Int) := by omega
          have hj1 : (0 : Int) < (j : Int) + 1 := by omega
          clear HATS hqj hz y0
          cases hlq : Op.bytesLess x.name.toList q.name.toList with
          | true =>
            have HF : Hid ((List.range n).all (mdsAt d ms) = false) := rangeT_at _ n (j + 1) hlt (by rw [HAT.out, less_asym hlq]; rfl)
            go_wp2_with fail
            have hCne : Nonempty (Wd (fun w' => SameOn All wr w' ∧ Below w.heap.size w w')) := ⟨⟨wr.drew, ⟨⟨Nat.le_refl _, fun _ _ _ => rfl⟩, HB.out.drew⟩⟩⟩
            refine wp_region_class (fun w' => SameOn All wr w' ∧ Below w.heap.size w w') (by kernel_rfl) (by kernel_rfl) ⟨⟨Nat.le_refl _, fun _ _ _ => rfl⟩, HB.out.drew⟩ ?_
            repeat (go_big_quiet_step (first | (rename_i m; go_at_call 30; refine (specModuleOk_any d _ _ x (HMD.out _ m.ok.2)).mono ?_; rintro e w1 ⟨rfl, hb1⟩; exact ⟨by rw [HCA.out], ⟨⟨w1, ⟨m.ok.1.trans (SameOn.of_below hb1), m.ok.2.trans (hb1.mono m.ok.2.size)⟩⟩, rfl⟩⟩)))
            refine wpQuiet_nil ?_
            rintro _ ⟨mq, rfl⟩
            have HB4 : Hid (Below w.heap.size w mq.val) := mq.ok.2
            have HS4 : Hid (SameOn All wr mq.val) := mq.ok.1
            generalize mq.val = w4 at HB4 HS4 ⊢
            go_wp2_with fail
            go_ret
            exact ⟨by rw [HF.out]; simp, HB4.out⟩
          | false =>
            by_cases he : x.name = q.name
            · have HF : Hid ((List.range n).all (mdsAt d ms) = false) := rangeT_at _ n (j + 1) hlt (by rw [HAT.out, he, bytesLess_self]; rfl)
              rw [← he] at qy0 hlq
              clear he
              go_wp2_with fail
              have hCne : Nonempty (Wd (fun w' => SameOn All wr w' ∧ Below w.heap.size w w')) := ⟨⟨wr.drew, ⟨⟨Nat.le_refl _, fun _ _ _ => rfl⟩, HB.out.drew⟩⟩⟩
              refine wp_region_class (fun w' => SameOn All wr w' ∧ Below w.heap.size w w') (by kernel_rfl) (by kernel_rfl) ⟨⟨Nat.le_refl _, fun _ _ _ => rfl⟩, HB.out.drew⟩ ?_
              repeat (go_big_quiet_step (first | (rename_i m; go_at_call 30; refine (specModuleOk_any d _ _ x (HMD.out _ m.ok.2)).mono ?_; rintro e w1 ⟨rfl, hb1⟩; exact ⟨by rw [HCA.out], ⟨⟨w1, ⟨m.ok.1.trans (SameOn.of_below hb1), m.ok.2.trans (hb1.mono m.ok.2.size)⟩⟩, rfl⟩⟩)))
              refine wpQuiet_nil ?_
              rintro _ ⟨mq, rfl⟩
              have HB4 : Hid (Below w.heap.size w mq.val) := mq.ok.2
              have HS4 : Hid (SameOn All wr mq.val) := mq.ok.1
              generalize mq.val = w4 at HB4 HS4 ⊢
              go_wp2_with fail
              go_ret
              exact ⟨by rw [HF.out]; simp, HB4.out⟩
            · have hq1 := str_ne he
              have hq2 := str_neB he
              have HT' : Hid ((List.range (j + 1 + 1)).all (mdsAt d ms) = true) := rangeT_succ _ (j + 1) hall.out (by rw [HAT.out, less_flip hlq hq1]; rfl)
              go_wp2_with fail
              have hCne : Nonempty (Wd (fun w' => SameOn All wr w' ∧ Below w.heap.size w w')) := ⟨⟨wr.drew, ⟨⟨Nat.le_refl _, fun _ _ _ => rfl⟩, HB.out.drew⟩⟩⟩
              refine wp_region_class (fun w' => SameOn All wr w' ∧ Below w.heap.size w w') (by kernel_rfl) (by kernel_rfl) ⟨⟨Nat.le_refl _, fun _ _ _ => rfl⟩, HB.out.drew⟩ ?_
              repeat (go_big_quiet_step (first | (rename_i m; go_at_call 30; refine (specModuleOk_any d _ _ x (HMD.out _ m.ok.2)).mono ?_; rintro e w1 ⟨rfl, hb1⟩; exact ⟨by rw [HCA.out], ⟨⟨w1, ⟨m.ok.1.trans (SameOn.of_below hb1), m.ok.2.trans (hb1.mono m.ok.2.size)⟩⟩, rfl⟩⟩)))
              refine wpQuiet_nil ?_
              rintro _ ⟨mq, rfl⟩
              have HB4 : Hid (Below w.heap.size w mq.val) := mq.ok.2
              have HS4 : Hid (SameOn All wr mq.val) := mq.ok.1
              generalize mq.val = w4 at HB4 HS4 ⊢
              go_wp2_with fail
              exact ⟨⟨j + 1 + 1, by omega, by go_num, HT'.out, HB4.out⟩, by simp [intOf]; omega⟩
    · have HT : Hid ((List.range n).all (mdsAt d ms) = true) := by
        have := hall.out
        rwa [show k = n by omega] at this
      clear hall
      go_wp2
      go_ret
      exact ⟨by rw [HT.out]; simp; omega, HB.out⟩

set_option maxHeartbeats 8000000 in
set_option maxRecDepth 100000 in
theorem implProgramOk_any (d : Nat) (w : World) (v : Value) (ms : List Md) (hT : Tabs w) (h : Rows w All 3 (HMd w All d) v ms) :
    Calls Tryz.prog 21 #[v] w fun e w' => e = .returned (.bool (pgOk d ms)) ∧ Below w.heap.size w w' := by
  have HTAB : Hid (Tabs w) := hT
  clear hT
  obtain ⟨p, cap, rfl, hcl, hcm, hx⟩ := h
  have hv : pgOk d ms = (decide (ms.length ≤ 10) && (List.range ms.length).all (mdsAt d ms)) := rfl
  rw [hv]
  clear hv
  generalize hn : ms.length = n at *
  have HN : Hid (ms.length = n) := hn
  have HX : Hid (ms ≠ [] → ∃ g off, p = some ⟨g, off, none⟩ ∧ All g ∧ g < w.heap.size ∧ ∀ i x, ms[i]? = some x → ∃ cs, cs.length = 3 ∧ (∀ j, j < 3 → w.cell? ⟨g, off + i * 3 + j, none⟩ = cs[j]?) ∧ HMd w All d cs x) := hx
  have hnb : n ≤ 9223372036854775807 := by unfold maxLen at hcm; omega
  clear hx hn
  by_cases h10 : ¬ n ≤ 10
  · have h11 : (10 : Int) < (n : Int) := by omega
    rw [decide_eq_false h10]
    go_enter Tryz.func21, Tryz.ntmps21
    go_wp2
    go_ret
    exact ⟨rfl, Below.refl _ _⟩
  replace h10 : n ≤ 10 := by omega
  have h11 : ¬ (10 : Int) < (n : Int) := by omega
  rw [decide_eq_true h10]
  go_enter Tryz.func21, Tryz.ntmps21
  go_wp2
  go_loopw [10] (fun iv wr => ∃ k : Nat, k ≤ n ∧ iv = .int .i64 k ∧ Hid ((List.range k).all (mdsAt d ms) = true) ∧ Below w.heap.size w wr) (fun iv _ => n - (intOf iv).toNat)
  case atStart => exact ⟨0, Nat.zero_le _, rfl, by show _ = _; simp, Below.refl _ _⟩
  case round =>
    obtain ⟨k, hk, rfl, hall, hb⟩ := hrel
    have HB : Hid (Below w.heap.size w wr) := hb
    by_cases hlt : k < n
    · obtain ⟨x, hxk⟩ : ∃ x, ms[k]? = some x := ⟨ms[k]'(by rw [HN.out]; exact hlt), List.getElem?_eq_getElem _⟩
      obtain ⟨g, off, rfl, -, hgl, hat⟩ := HX.out (by intro h; rw [h] at hxk; simp at hxk)
      obtain ⟨cs, hcsl, hcs, hmd⟩ := hat k x hxk
      have hgw : g < wr.heap.size := Nat.lt_of_lt_of_le hgl hb.size
      have HATS : Hid (∀ j, k = j + 1 → ∃ q : Md, ms[j]? = some q ∧ wr.cell? ⟨g, off + j * 3, none⟩ = some (.string q.name)) := fun j hj => by
        obtain ⟨q, hq⟩ : ∃ q, ms[j]? = some q := ⟨ms[j]'(by rw [HN.out]; omega), List.getElem?_eq_getElem _⟩
        obtain ⟨cs', _, hcs', ev, fv, rfl, _⟩ := hat j q hq
        have b0 := hcs' 0 (by omega)
        rw [← hb.cell (p := ⟨g, _, none⟩) hgl] at b0
        exact ⟨q, hq, by simpa using b0⟩
      have HMD : Hid (∀ w', Below w.heap.size w w' → HMd w' All d cs x) := fun w' hw => hmd.mono (SameOn.of_below hw) (fun _ h => h)
      obtain ⟨ev, fv, rfl, hxs, f0, f1⟩ := hmd
      obtain ⟨pe, ce, rfl, -⟩ := f0
      obtain ⟨pf, cf, rfl, -⟩ := f1
      have a0 := hcs 0 (by omega)
      have a1 := hcs 1 (by omega)
      have a2 := hcs 2 (by omega)
      rw [← hb.cell (p := ⟨g, _, none⟩) hgl] at a0 a1 a2
      simp at a0 a1 a2
      have hki : (k : Int) < (n : Int) := by omega
      have hk0 : (0 : Int) ≤ (k : Int) := by omega
      generalize hca : mdOk d x = ca at *
      have HCA : Hid (mdOk d x = ca) := hca
      have HXK : Hid (ms[k]? = some x) := hxk
      obtain ⟨W5, hW5⟩ : ∃ W5, W5 = wr.alloc (.cells #[.string x.name, .slice pe x.exports.length ce, .slice pf x.funs.length cf] 42) := ⟨_, rfl⟩
      have bF : Hid (Blk W5 wr.heap.size #[.string x.name, .slice pe x.exports.length ce, .slice pf x.funs.length cf] 42) := by show Blk _ _ _ _; rw [hW5]; exact Blk.new
      have K5 : Hid (Below wr.heap.size wr W5) := by show Below _ _ _; rw [hW5]; exact (Below.refl _ _).alloc (Nat.le_refl _) _
      have B5 : Hid (Below w.heap.size w W5) := hb.trans (K5.out.mono hb.size)
      have HW5 : Hid (W5 = wr.alloc (.cells #[.string x.name, .slice pe x.exports.length ce, .slice pf x.funs.length cf] 42)) := hW5
      have hg5 : g < W5.heap.size := Nat.lt_of_lt_of_le hgw K5.out.size
      have z0 := bF.out.cell 0 _ rfl
      have z1 := bF.out.cell 1 _ rfl
      have z2 := bF.out.cell 2 _ rfl
      have l2 := bF.out.lt
      have qz0 : ∀ m : Wd (fun w' => SameOn All W5 w' ∧ Below w.heap.size w w'), m.val.cell? ⟨wr.heap.size, 0, none⟩ = some (.string x.name) := fun m => (World.cell?_of_block (m.ok.1.2 wr.heap.size trivial l2)).trans z0
      have qz1 : ∀ m : Wd (fun w' => SameOn All W5 w' ∧ Below w.heap.size w w'), m.val.cell? ⟨wr.heap.size, 1, none⟩ = some (.slice pe x.exports.length ce) := fun m => (World.cell?_of_block (m.ok.1.2 wr.heap.size trivial l2)).trans z1
      have qz2 : ∀ m : Wd (fun w' => SameOn All W5 w' ∧ Below w.heap.size w w'), m.val.cell? ⟨wr.heap.size, 2, none⟩ = some (.slice pf x.funs.length cf) := fun m => (World.cell?_of_block (m.ok.1.2 wr.heap.size trivial l2)).trans z2
      clear hb hcs hat hcsl hca hxk hW5 z0 z1 z2 l2
      cases ca with
      | false =>
        have HF : Hid ((List.range n).all (mdsAt d ms) = false) := rangeT_at _ n k hlt (mdsAt_bad HXK.out HCA.out)
        clear HATS
        go_wp2_with fail
        rw [← HW5.out]
        have hCne : Nonempty (Wd (fun w' => SameOn All W5 w' ∧ Below w.heap.size w w')) := ⟨⟨W5.drew, ⟨⟨Nat.le_refl _, fun _ _ _ => rfl⟩, B5.out.drew⟩⟩⟩
        refine wp_region_class (fun w' => SameOn All W5 w' ∧ Below w.heap.size w w') (by kernel_rfl) (by kernel_rfl) ⟨⟨Nat.le_refl _, fun _ _ _ => rfl⟩, B5.out.drew⟩ ?_
        repeat (go_big_quiet_step (first | (rename_i m; go_at_call 36; refine (implModuleOk_any d _ _ x (HTAB.out.below m.ok.2) (HMD.out _ m.ok.2)).mono ?_; rintro e w1 ⟨rfl, hb1⟩; exact ⟨by rw [HCA.out], ⟨⟨w1, ⟨m.ok.1.trans (SameOn.of_below hb1), m.ok.2.trans (hb1.mono m.ok.2.size)⟩⟩, rfl⟩⟩)))
        refine wpQuiet_nil ?_
        rintro _ ⟨mq, rfl⟩
        have HB4 : Hid (Below w.heap.size w mq.val) := mq.ok.2
        have HS4 : Hid (SameOn All W5 mq.val) := mq.ok.1
        generalize mq.val = w4 at HB4 HS4 ⊢
        go_wp2_with fail
        go_ret
        exact ⟨by rw [HF.out]; simp, HB4.out⟩
      | true =>
        rcases Nat.eq_zero_or_pos k with hz | hz
        · have HT' : Hid ((List.range (k + 1)).all (mdsAt d ms) = true) := rangeT_succ _ k hall.out (by rw [mdsAt_zero hz HXK.out]; exact HCA.out)
          have hz1 : ¬ (0 : Int) < (k : Int) := by omega
          have hz3 : ¬ 0 < k := by omega
          have hz4 : decide (0 < k) = false := decide_eq_false hz3
          clear HATS hz
          go_wp2_with fail
          rw [← HW5.out]
          have hCne : Nonempty (Wd (fun w' => SameOn All W5 w' ∧ Below w.heap.size w w')) := ⟨⟨W5.drew, ⟨⟨Nat.le_refl _, fun _ _ _ => rfl⟩, B5.out.drew⟩⟩⟩
          refine wp_region_class (fun w' => SameOn All W5 w' ∧ Below w.heap.size w w') (by kernel_rfl) (by kernel_rfl) ⟨⟨Nat.le_refl _, fun _ _ _ => rfl⟩, B5.out.drew⟩ ?_
          repeat (go_big_quiet_step (first | (rename_i m; go_at_call 36; refine (implModuleOk_any d _ _ x (HTAB.out.below m.ok.2) (HMD.out _ m.ok.2)).mono ?_; rintro e w1 ⟨rfl, hb1⟩; exact ⟨by rw [HCA.out], ⟨⟨w1, ⟨m.ok.1.trans (SameOn.of_below hb1), m.ok.2.trans (hb1.mono m.ok.2.size)⟩⟩, rfl⟩⟩)))
          refine wpQuiet_nil ?_
          rintro _ ⟨mq, rfl⟩
          have HB4 : Hid (Below w.heap.size w mq.val) := mq.ok.2
          have HS4 : Hid (SameOn All W5 mq.val) := mq.ok.1
          generalize mq.val = w4 at HB4 HS4 ⊢
          go_wp2_with fail
          exact ⟨⟨k + 1, by omega, by go_num, HT'.out, HB4.out⟩, by simp [intOf]; omega⟩
        · obtain ⟨j, rfl⟩ : ∃ j, k = j + 1 := ⟨k - 1, by omega⟩
          obtain ⟨q, hqj, y0⟩ := HATS.out j rfl
          have HAT : Hid (mdsAt d ms (j + 1) = (true && Op.bytesLess q.name.toList x.name.toList)) := by show _ = _; rw [mdsAt_succ hqj HXK.out, HCA.out]
          have qy0 : ∀ m : Wd (fun w' => SameOn All W5 w' ∧ Below w.heap.size w w'), m.val.cell? ⟨g, off + j * 3, none⟩ = some (.string q.name) := fun m => (World.cell?_of_block (m.ok.1.2 g trivial hg5)).trans (cell_next K5.out y0)
          have hji : (j : Int) < (n : Int) := by omega
          have hj0 : (0 : Int) ≤ (j : Int) := by omega
          have hj1 : (0 : Int) < (j : Int) + 1 := by omega
          clear HATS hqj hz y0
          cases hlq : Op.bytesLess q.name.toList x.name.toList with
          | false =>
            have HF : Hid ((List.range n).all (mdsAt d ms) = false) := rangeT_at _ n (j + 1) hlt (by rw [HAT.out, hlq]; rfl)
            go_wp2_with fail
            rw [← HW5.out]
            have hCne : Nonempty (Wd (fun w' => SameOn All W5 w' ∧ Below w.heap.size w w')) := ⟨⟨W5.drew, ⟨⟨Nat.le_refl _, fun _ _ _ => rfl⟩, B5.out.drew⟩⟩⟩
            refine wp_region_class (fun w' => SameOn All W5 w' ∧ Below w.heap.size w w') (by kernel_rfl) (by kernel_rfl) ⟨⟨Nat.le_refl _, fun _ _ _ => rfl⟩, B5.out.drew⟩ ?_
            repeat (go_big_quiet_step (first | (rename_i m; go_at_call 36; refine (implModuleOk_any d _ _ x (HTAB.out.below m.ok.2) (HMD.out _ m.ok.2)).mono ?_; rintro e w1 ⟨rfl, hb1⟩; exact ⟨by rw [HCA.out], ⟨⟨w1, ⟨m.ok.1.trans (SameOn.of_below hb1), m.ok.2.trans (hb1.mono m.ok.2.size)⟩⟩, rfl⟩⟩)))
            refine wpQuiet_nil ?_
            rintro _ ⟨mq, rfl⟩
            have HB4 : Hid (Below w.heap.size w mq.val) := mq.ok.2
            have HS4 : Hid (SameOn All W5 mq.val) := mq.ok.1
            generalize mq.val = w4 at HB4 HS4 ⊢
            go_wp2_with fail
            go_ret
            exact ⟨by rw [HF.out]; simp, HB4.out⟩
          | true =>
            have HT' : Hid ((List.range (j + 1 + 1)).all (mdsAt d ms) = true) := rangeT_succ _ (j + 1) hall.out (by rw [HAT.out, hlq]; rfl)
            go_wp2_with fail
            rw [← HW5.out]
            have hCne : Nonempty (Wd (fun w' => SameOn All W5 w' ∧ Below w.heap.size w w')) := ⟨⟨W5.drew, ⟨⟨Nat.le_refl _, fun _ _ _ => rfl⟩, B5.out.drew⟩⟩⟩
            refine wp_region_class (fun w' => SameOn All W5 w' ∧ Below w.heap.size w w') (by kernel_rfl) (by kernel_rfl) ⟨⟨Nat.le_refl _, fun _ _ _ => rfl⟩, B5.out.drew⟩ ?_
            repeat (go_big_quiet_step (first | (rename_i m; go_at_call 36; refine (implModuleOk_any d _ _ x (HTAB.out.below m.ok.2) (HMD.out _ m.ok.2)).mono ?_; rintro e w1 ⟨rfl, hb1⟩; exact ⟨by rw [HCA.out], ⟨⟨w1, ⟨m.ok.1.trans (SameOn.of_below hb1), m.ok.2.trans (hb1.mono m.ok.2.size)⟩⟩, rfl⟩⟩)))
            refine wpQuiet_nil ?_
            rintro _ ⟨mq, rfl⟩
            have HB4 : Hid (Below w.heap.size w mq.val) := mq.ok.2
            have HS4 : Hid (SameOn All W5 mq.val) := mq.ok.1
            generalize mq.val = w4 at HB4 HS4 ⊢
            go_wp2_with fail
            exact ⟨⟨j + 1 + 1, by omega, by go_num, HT'.out, HB4.out⟩, by simp [intOf]; omega⟩
    · have HT : Hid ((List.range n).all (mdsAt d ms) = true) := by
        have := hall.out
        rwa [show k = n by omega] at this
      clear hall
      go_wp2
      go_ret
      exact ⟨by rw [HT.out]; simp, HB.out⟩
end Go.Proofs.YtigfmdfgioccjaaGreatDoor
/-
  Lists of texts in memory: rows that are read, and rows that the call owns and grows by append.
-/
namespace Go.Proofs.YtigfmdfgioccjaaGreatDoor
open Go.ChangeShapes Go.WideShapes Go.ChangeAt Go.RowKit
set_option linter.unusedVariables false

/-- One cell that is a text. -/
def HStr (cs : List Value) (s : ByteArray) : Prop := cs = [.string s] ∧ okS s
abbrev StrR (w : World) (v : Value) (xs : List ByteArray) : Prop := Rows w All 1 HStr v xs
theorem StrR.mono {w w' : World} {v : Value} {xs : List ByteArray} (h : StrR w v xs) (hs : SameOn All w w') : StrR w' v xs := Rows.mono h hs (fun _ h => h) (fun _ _ _ h => h)
theorem StrR.okS {w : World} {v : Value} {xs : List ByteArray} (h : StrR w v xs) : ∀ x ∈ xs, Go.Proofs.YtigfmdfgioccjaaGreatDoor.okS x := by
  intro x hx
  obtain ⟨p, cap, _, _, _, hr⟩ := h
  obtain ⟨i, hi⟩ := List.mem_iff_getElem?.1 hx
  obtain ⟨g, off, _, _, _, hat⟩ := hr (by intro e; rw [e] at hi; simp at hi)
  obtain ⟨cs, _, _, hv⟩ := hat i x hi
  exact hv.2

def strs (l : List ByteArray) : List Value := l.map Value.string
theorem strs_length (l : List ByteArray) : (strs l).length = l.length := by simp [strs]
theorem strs_append (a b : List ByteArray) : strs (a ++ b) = strs a ++ strs b := by simp [strs]
theorem strs_oneCell (l : List ByteArray) : ∀ u ∈ strs l, u.oneCell' = true := by
  intro u hu
  simp only [strs, List.mem_map] at hu
  obtain ⟨b, _, rfl⟩ := hu
  rfl
theorem info_str : (Tryz.prog.info? 9).map (fun i => (i.zero, i.size, i.bytes)) = some (some (.string ⟨#[]⟩), 1, 16) := by kernel_rfl

/-- The row v holds just the texts l; it lies in a block of its own at B or above. -/
def OwnS (w : World) (B : Nat) (v : Value) (l : List ByteArray) : Prop := w.ownsRow B 9 1 v l.length (strs l) ∧ B ≤ w.heap.size
theorem OwnS.next {w w' : World} {B : Nat} {v : Value} {l : List ByteArray} (h : OwnS w B v l) (hb : Below w.heap.size w w') : OwnS w' B v l := by
  refine ⟨⟨h.1.1, ?_⟩, Nat.le_trans h.2 hb.size⟩
  rcases h.1.2 with hn | ⟨g, cap, cur, hv, hB, hg, hr⟩
  · exact .inl hn
  · exact .inr ⟨g, cap, cur, hv, hB, (hb.block g (Array.getElem?_eq_some_iff.1 hg).1).trans hg, hr⟩
theorem OwnS.off {w : World} {B : Nat} {v : Value} {l : List ByteArray} (h : OwnS w B v l) {b : Nat} (hb : v.ownBlock = some b) : B ≤ b ∧ b < w.heap.size := by
  rcases h.1.2 with hn | ⟨g', cap', cur, hv', hB, hg, hr⟩
  · rw [hn.1] at hb; cases hb
  · rw [hv'] at hb
    simp [Value.ownBlock] at hb
    subst hb
    exact ⟨hB, (Array.getElem?_eq_some_iff.1 hg).1⟩
theorem OwnS.below {w w' : World} {B : Nat} {v : Value} {l : List ByteArray} (h : OwnS w B v l) (hg : w.grownBy w' v.ownBlock) : Below B w w' :=
  ⟨hg.os, hg.tape, hg.output, hg.size, fun j hj => hg.block j (by have := h.2; omega) (fun e => by have := (h.off e.symm).1; omega)⟩
theorem OwnS.blk {w w' : World} {B b : Nat} {v : Value} {l : List ByteArray} {cs : Array Value} {t : TypeId} (h : OwnS w B v l) (hg : w.grownBy w' v.ownBlock) (hb : Blk w b cs t) (hne : v.ownBlock ≠ some b) : Blk w' b cs t :=
  (hg.block b hb.lt (fun e => hne e.symm)).trans hb
theorem OwnS.of {w' : World} {B n : Nat} {v : Value} {l m : List ByteArray} {xs : List Value} (h : w'.ownsRow B 9 1 v n xs) (hn : n = (l ++ m).length) (hx : xs = strs l ++ strs m) (hB : B ≤ w'.heap.size) : OwnS w' B v (l ++ m) := by
  subst hn; subst hx; rw [← strs_append] at h; exact ⟨h, hB⟩
/-- The empty row that '[]string{}' makes. -/
theorem OwnS.fresh {w : World} : OwnS (w.alloc (.cells #[] 9)) w.heap.size (.slice (some ⟨w.heap.size, 0, none⟩) 0 0) [] := by
  refine ⟨⟨by simp [strs], .inr ⟨w.heap.size, 0, #[], rfl, Nat.le_refl _, ?_, Nat.le_refl _, Nat.zero_le _, rfl, rfl⟩⟩, by simp⟩
  exact Blk.new (w := w) (cs := #[]) (t := 9)
theorem OwnS.rows {w : World} {B : Nat} {v : Value} {l : List ByteArray} (h : OwnS w B v l) (ho : ∀ x ∈ l, okS x) : Rows w (fun g => B ≤ g) 1 HStr v l := by
  obtain ⟨h, _⟩ := h
  rcases h.2 with ⟨rfl, hn⟩ | ⟨g, cap, cur, rfl, hB, hg, h1, h2, h3, h4⟩
  · obtain rfl := List.length_eq_zero_iff.1 hn
    exact Rows.nil (Nat.zero_le _)
  · refine ⟨_, cap, rfl, h1, h2, fun hne => ⟨g, 0, rfl, hB, (Array.getElem?_eq_some_iff.1 hg).1, fun i x hi => ⟨[.string x], rfl, fun j hj => ?_, rfl, ho x (List.mem_of_getElem? hi)⟩⟩⟩
    obtain rfl : j = 0 := by omega
    rw [show 0 + i * 1 + 0 = i by omega]
    exact (h.cellAt i (by have := (List.getElem?_eq_some_iff.1 hi).1; omega)).trans (by simp [strs, hi])
theorem OwnS.strR {w : World} {B : Nat} {v : Value} {l : List ByteArray} (h : OwnS w B v l) (ho : ∀ x ∈ l, okS x) : StrR w v l := Rows.mono (h.rows ho) ⟨Nat.le_refl _, fun _ _ _ => rfl⟩ (fun _ _ => trivial) (fun _ _ _ h => h)

/-- A row that is nil where it has no memory. -/
def StrV (w : World) (v : Value) (xs : List ByteArray) : Prop := StrR w v xs ∧ ∀ n c, v = .slice none n c → v = .slice none 0 0
theorem OwnS.strV {w : World} {B : Nat} {v : Value} {l : List ByteArray} (h : OwnS w B v l) (ho : ∀ x ∈ l, okS x) : StrV w v l := by
  refine ⟨h.strR ho, fun n c hv => ?_⟩
  rcases h.1.2 with hn | ⟨g, cap, cur, hv', _⟩
  · exact hn.1
  · rw [hv] at hv'; simp at hv'
theorem StrV.next {w w' : World} {v : Value} {xs : List ByteArray} (h : StrV w v xs) (hs : SameOn All w w') : StrV w' v xs := ⟨h.1.mono hs, h.2⟩

/-- Texts that are there. -/
def hasS (l : List ByteArray) (s : ByteArray) : Bool := l.any fun x => x.toList == s.toList
/-- Names with more behind, those that are not there. -/
def onceS (l : List ByteArray) : List ByteArray → List ByteArray
  | [] => l
  | y :: ys => onceS (if hasS l y then l else l ++ [y]) ys
theorem onceS_snoc (l ys : List ByteArray) (y : ByteArray) : onceS l (ys ++ [y]) = if hasS (onceS l ys) y then onceS l ys else onceS l ys ++ [y] := by
  induction ys generalizing l with
  | nil => rfl
  | cons z zs ih => exact ih _
theorem onceS_length (l ys : List ByteArray) : (onceS l ys).length ≤ l.length + ys.length := by
  induction ys generalizing l with
  | nil => simp [onceS]
  | cons z zs ih =>
    have := ih (if hasS l z then l else l ++ [z])
    have h2 : (if hasS l z then l else l ++ [z]).length ≤ l.length + 1 := by split <;> simp
    simp only [onceS, List.length_cons]
    omega
theorem onceS_mem (l ys : List ByteArray) : ∀ x ∈ onceS l ys, x ∈ l ∨ x ∈ ys := by
  induction ys generalizing l with
  | nil => intro x hx; exact .inl hx
  | cons z zs ih =>
    intro x hx
    rcases ih _ x hx with h | h
    · split at h
      · exact .inl h
      · rcases List.mem_append.1 h with h | h
        · exact .inl h
        · simp at h; subst h; exact .inr (by simp)
    · exact .inr (by simp [h])
end Go.Proofs.YtigfmdfgioccjaaGreatDoor
/-
  What is wrong with a program: plain mathematics.
-/
namespace Go.Proofs.YtigfmdfgioccjaaGreatDoor
open Go.ChangeShapes Go.WideShapes Go.ChangeAt Go.RowKit
set_option linter.unusedVariables false

def cCall : ByteArray := ⟨#[99, 97, 108, 108]⟩
def cFar : ByteArray := ⟨#[102, 97, 114]⟩
def cLoose : ByteArray := ⟨#[108, 111, 111, 115, 101]⟩
def cExport : ByteArray := ⟨#[101, 120, 112, 111, 114, 116]⟩

/-- The place of the first that fits, or -1. -/
def findI {α : Type} (f : α → Bool) (xs : List α) : Int := match xs.findIdx? f with
  | some k => k
  | none => -1
theorem findI_none {α : Type} {f : α → Bool} {xs : List α} (h : xs.any f = false) : findI f xs = -1 := by
  have : xs.findIdx? f = none := by
    rw [List.findIdx?_eq_none_iff]
    intro x hx
    exact Bool.eq_false_iff.2 fun e => by
      have := List.any_eq_false.1 h x hx
      exact this e
  simp [findI, this]
theorem findI_at {α : Type} {f : α → Bool} {xs : List α} {k : Nat} {x : α} (h : (xs.take k).any f = false) (hx : xs[k]? = some x) (hf : f x = true) : findI f xs = k := by
  have : xs.findIdx? f = some k := by
    rw [List.findIdx?_eq_some_iff_getElem]
    obtain ⟨hk, he⟩ := List.getElem?_eq_some_iff.1 hx
    refine ⟨hk, by rw [he]; exact hf, fun j hj => ?_⟩
    have := List.any_eq_false.1 h (xs[j]) (List.mem_of_getElem? (i := j) (by rw [List.getElem?_take, if_pos hj]; exact List.getElem?_eq_getElem _))
    exact this
  simp [findI, this]
theorem findI_cases {α : Type} (f : α → Bool) (xs : List α) : (xs.any f = false ∧ findI f xs = -1) ∨ (∃ k x, xs.any f = true ∧ xs[k]? = some x ∧ f x = true ∧ findI f xs = (k : Nat) ∧ xs.find? f = some x) := by
  cases h : xs.any f with
  | false => exact Or.inl ⟨rfl, findI_none h⟩
  | true =>
    right
    rw [List.any_eq_true] at h
    obtain ⟨x, hx, hf⟩ := h
    cases hi : xs.findIdx? f with
    | none =>
      rw [List.findIdx?_eq_none_iff] at hi
      rw [hi x hx] at hf; cases hf
    | some k =>
      rw [List.findIdx?_eq_some_iff_getElem] at hi
      obtain ⟨hk, hfk, hj⟩ := hi
      refine ⟨k, xs[k], rfl, List.getElem?_eq_getElem _, hfk, ?_, ?_⟩
      · exact findI_at (x := xs[k]) (by
          rw [List.any_eq_false]
          intro y hy
          obtain ⟨j, hj'⟩ := List.mem_iff_getElem?.1 hy
          rw [List.getElem?_take] at hj'
          split at hj'
          · rename_i hjk
            obtain ⟨h1, rfl⟩ := List.getElem?_eq_some_iff.1 hj'
            simpa using hj j hjk
          · cases hj') (List.getElem?_eq_getElem _) hfk
      · rw [List.find?_eq_some_iff_getElem]
        exact ⟨hfk, k, hk, rfl, fun j hj' => by simpa using hj j hj'⟩

def hasF (m : Md) (s : ByteArray) (n : Int) : Bool := m.funs.any (sameR ⟨s, n⟩)
def sameRf (s : ByteArray) (n : Int) (q : Rf) : Bool := q.name.toList == s.toList && q.arity == n
def hasX (m : Md) (s : ByteArray) (n : Int) : Bool := m.exports.any (sameRf s n)
def named (s : ByteArray) (m : Md) : Bool := m.name.toList == s.toList
def isPutB (s : ByteArray) (n : Int) : Bool := s.toList == [112, 117, 116] && n == 1
/-- Whether there is such a module, which exports such a function and has it. -/
def offersB (ms : List Md) (mod s : ByteArray) (n : Int) : Bool := match ms.find? (named mod) with
  | none => false
  | some q => hasX q s n && hasF q s n
/-- What is wrong with a call, or the empty text. -/
def callC (ms : List Md) (m : Md) (x : Ex) : ByteArray :=
  if x.mod.toList = [] then (if hasF m x.text x.kids.length || isPutB x.text x.kids.length then ⟨#[]⟩ else cCall)
  else (if offersB ms x.mod x.text x.kids.length then ⟨#[]⟩ else cFar)
def callL (ms : List Md) (m : Md) (x : Ex) : List ByteArray := if x.kind = 8 then (if (callC ms m x).toList = [] then [] else [callC ms m x]) else []
def bodiesOf (cl : List Cl) : List Ex := cl.flatMap fun c : Cl => c.2
theorem bodiesOf_snoc (cl : List Cl) (k : Nat) (c : Cl) (h : cl[k]? = some c) : bodiesOf (cl.take (k + 1)) = bodiesOf (cl.take k) ++ c.2 := by
  unfold bodiesOf
  rw [List.take_add_one, h]; simp
theorem bodiesOf_le (cl : List Cl) (k : Nat) : (bodiesOf (cl.take k)).length ≤ (bodiesOf cl).length := by
  conv => rhs; rw [← List.take_append_drop k cl]
  unfold bodiesOf
  rw [List.flatMap_append, List.length_append]; omega
def withinX (x : Ex) : List Ex := x.kids ++ bodiesOf x.clauses
/-- What is wrong with an expression and all within, in order. -/
def codesX (ms : List Md) (m : Md) : Nat → Ex → List ByteArray
  | 0, _ => []
  | d + 1, x => callL ms m x ++ (withinX x).flatMap (codesX ms m d)
end Go.Proofs.YtigfmdfgioccjaaGreatDoor
/-
  Rows that are grown by append, of elements of any number of cells: what their cells are.
-/
namespace Go.Proofs.YtigfmdfgioccjaaGreatDoor
open Go.ChangeShapes Go.WideShapes Go.ChangeAt Go.RowKit
set_option linter.unusedVariables false

/-- Cells that are R's elements, c cells each. -/
def CellsR {α : Type} (c : Nat) (R : List Value → α → Prop) (cells : List Value) (l : List α) : Prop :=
  cells.length = l.length * c ∧ ∀ i y, l[i]? = some y → ∃ cs, cs.length = c ∧ (∀ j, j < c → cells[i * c + j]? = cs[j]?) ∧ R cs y
section
variable {α : Type} {c : Nat} {R R' : List Value → α → Prop} {cells more : List Value} {l m : List α}
theorem CellsR.nil : CellsR c R [] ([] : List α) := ⟨by simp, fun i y h => by simp at h⟩
theorem CellsR.append (h : CellsR c R cells l) (k : CellsR c R more m) : CellsR c R (cells ++ more) (l ++ m) := by
  refine ⟨by rw [List.length_append, List.length_append, h.1, k.1, Nat.add_mul], fun i y hi => ?_⟩
  by_cases hl : i < l.length
  · rw [List.getElem?_append_left hl] at hi
    obtain ⟨cs, h1, h2, h3⟩ := h.2 i y hi
    refine ⟨cs, h1, fun j hj => ?_, h3⟩
    rw [List.getElem?_append_left, h2 j hj]
    rw [h.1]
    have : (i + 1) * c ≤ l.length * c := Nat.mul_le_mul_right _ hl
    rw [Nat.add_mul] at this
    omega
  · rw [List.getElem?_append_right (by omega)] at hi
    obtain ⟨cs, h1, h2, h3⟩ := k.2 _ y hi
    refine ⟨cs, h1, fun j hj => ?_, h3⟩
    have e : i * c + j - cells.length = (i - l.length) * c + j := by
      rw [h.1, Nat.sub_mul]
      have : l.length * c ≤ i * c := Nat.mul_le_mul_right _ (by omega)
      omega
    rw [List.getElem?_append_right (by rw [h.1]; have : l.length * c ≤ i * c := Nat.mul_le_mul_right _ (by omega); omega), e]
    exact h2 j hj
theorem CellsR.mono (h : CellsR c R cells l) (hR : ∀ cs y, y ∈ l → R cs y → R' cs y) : CellsR c R' cells l :=
  ⟨h.1, fun i y hi => by obtain ⟨cs, h1, h2, h3⟩ := h.2 i y hi; exact ⟨cs, h1, h2, hR cs y (List.mem_of_getElem? hi) h3⟩⟩
theorem CellsR.one {cs : List Value} {y : α} (hc : cs.length = c) (h : R cs y) : CellsR c R cs [y] :=
  ⟨by simp [hc], fun i z hi => by
    cases i with
    | zero => simp at hi; subst hi; exact ⟨cs, hc, fun j _ => by simp, h⟩
    | succ i => simp at hi⟩
theorem CellsR.oneCell (hc : 0 < c) (h : CellsR c R cells l) (hR : ∀ cs y, R cs y → ∀ u ∈ cs, u.oneCell' = true) : ∀ u ∈ cells, u.oneCell' = true := by
  intro u hu
  obtain ⟨j, hj⟩ := List.mem_iff_getElem?.1 hu
  have hlt := (List.getElem?_eq_some_iff.1 hj).1
  rw [h.1] at hlt
  have hd : j / c < l.length := Nat.div_lt_of_lt_mul (by rw [Nat.mul_comm]; exact hlt)
  obtain ⟨cs, h1, h2, h3⟩ := h.2 (j / c) (l[j / c]) (List.getElem?_eq_getElem hd)
  have h4 := h2 (j % c) (Nat.mod_lt _ hc)
  rw [show j / c * c + j % c = j by rw [Nat.mul_comm]; exact Nat.div_add_mod j c, hj] at h4
  exact hR cs _ h3 u (List.mem_of_getElem? h4.symm)
theorem rowsCellsR (hc : 0 < c) {w : World} {S : Nat → Prop} {ad : Addr} {n cap : Nat} (h : Rows w S c R (.slice (some ad) n cap) l) : n = l.length ∧ ∃ cells, CellsR c R cells l ∧ ∀ j u, cells[j]? = some u → w.cell? (ad.add j) = some u := by
  obtain ⟨p, cap', hv, h1, h2, hx⟩ := h
  simp only [Value.slice.injEq] at hv
  obtain ⟨rfl, rfl, rfl⟩ := hv
  refine ⟨rfl, ?_⟩
  cases l with
  | nil => exact ⟨[], CellsR.nil, fun j u h => by simp at h⟩
  | cons y0 l =>
    obtain ⟨g, off, hp, -, -, hat⟩ := hx (by simp)
    obtain rfl := Option.some.inj hp
    have hadd : ∀ j, (⟨g, off, none⟩ : Addr).add j = ⟨g, off + j, none⟩ := fun j => by by_cases h : j = 0 <;> simp [Addr.add, h]
    have key : ∀ j, j < (y0 :: l).length * c → ∃ u, w.cell? ⟨g, off + j, none⟩ = some u := fun j hj => by
      have hd : j / c < (y0 :: l).length := Nat.div_lt_of_lt_mul (by rw [Nat.mul_comm]; exact hj)
      obtain ⟨cs, k1, k2, k3⟩ := hat (j / c) _ (List.getElem?_eq_getElem hd)
      have h4 := k2 (j % c) (Nat.mod_lt _ hc)
      rw [show off + j / c * c + j % c = off + j by rw [Nat.add_assoc, Nat.mul_comm, Nat.div_add_mod]] at h4
      exact ⟨cs[j % c]'(by rw [k1]; exact Nat.mod_lt _ hc), h4.trans (List.getElem?_eq_getElem _)⟩
    refine ⟨(List.range ((y0 :: l).length * c)).map fun j => (w.cell? ⟨g, off + j, none⟩).getD undef, ⟨by simp, fun i y hi => ?_⟩, fun j u hj => ?_⟩
    · obtain ⟨cs, k1, k2, k3⟩ := hat i y hi
      refine ⟨cs, k1, fun j hj => ?_, k3⟩
      have hil := (List.getElem?_eq_some_iff.1 hi).1
      have hlt : i * c + j < (y0 :: l).length * c := by
        have : (i + 1) * c ≤ (y0 :: l).length * c := Nat.mul_le_mul_right _ hil
        rw [Nat.add_mul] at this
        omega
      rw [List.getElem?_map, List.getElem?_range hlt]
      obtain ⟨u, hu⟩ := key _ hlt
      have h5 := k2 j hj
      rw [Nat.add_assoc, hu] at h5
      simp only [Option.map_some, hu, Option.getD_some]
      exact h5
    · have hlt : j < (y0 :: l).length * c := by simpa using (List.getElem?_eq_some_iff.1 hj).1
      rw [List.getElem?_map, List.getElem?_range hlt] at hj
      obtain ⟨v, hv⟩ := key j hlt
      simp only [Option.map_some, hv, Option.getD_some, Option.some.injEq] at hj
      rw [hadd, hv, hj]
theorem CellsR.rows {w : World} {B : Nat} {e : TypeId} {v : Value} {n : Nat} (h : w.ownsRow B e c v n cells) (k : CellsR c R cells l) (hn : n = l.length) : Rows w All c R v l := by
  subst hn
  have hl := k.1
  rcases h.2 with ⟨rfl, hz⟩ | ⟨g, cap, cur, rfl, hB, hg, h1, h2, h3, h4⟩
  · obtain rfl := List.length_eq_zero_iff.1 hz
    exact Rows.nil (Nat.zero_le _)
  · refine ⟨_, cap, rfl, h1, h2, fun hne => ⟨g, 0, rfl, trivial, (Array.getElem?_eq_some_iff.1 hg).1, fun i x hi => ?_⟩⟩
    obtain ⟨cs, k1, k2, k3⟩ := k.2 i x hi
    refine ⟨cs, k1, fun j hj => ?_, k3⟩
    have hil := (List.getElem?_eq_some_iff.1 hi).1
    have hlt : i * c + j < l.length * c := by
      have : (i + 1) * c ≤ l.length * c := Nat.mul_le_mul_right _ hil
      rw [Nat.add_mul] at this
      omega
    rw [← k2 j hj, Nat.zero_add]
    exact h.cellAt _ hlt
end

section
variable {P : Program} {w : World}
theorem run_append_nil (base : Nat) (t ty e : TypeId) (i : TypeInfo) (size : Nat) (ht : P.underlying t = some (.slice e)) (hi : P.info? e = some i)
    (v : Value) (n : Nat) (xs : List Value) (c : Nat) (hown : w.ownsRow base e size v n xs) :
    (Builtin.append_ #[t, t] ty #[v, .slice none 0 c]).run P w = .ok v w := by
  rcases hown.2 with ⟨rfl, rfl⟩ | ⟨g, cap, cur, rfl, _, _, hnc, _⟩
  · simp [Builtin.append_, run_underlying ht, sizeOf, typeInfo, hi, Builtin.lenOf, Builtin.firstCells]
  · simp [Builtin.append_, run_underlying ht, sizeOf, typeInfo, hi, Builtin.lenOf, Builtin.firstCells, hnc, storeCells]
/-- A row that has no memory, behind one that is owned. -/
theorem wpList_append_nil {ops : Array Oper} {rest : List Oper} {o : Oper} {a : Act} {Q : Exit → Act → World → Prop} (hgd : o.guard = none) (s x : Operand) (t : TypeId)
    (ho : o.op = .call { callee := .builtin .append, args := #[s, x], argTypes := #[t, t] })
    (base : Nat) (e : TypeId) (i : TypeInfo) (size : Nat) (ht : P.underlying t = some (.slice e)) (hi : P.info? e = some i)
    (v : Value) (n : Nat) (xs : List Value) (c : Nat) (hs : a.eval s = v) (hown : w.ownsRow base e size v n xs) (hx : a.eval x = .slice none 0 c)
    (h : wpList P ops Q rest (a.put o.dst v) w) : wpList P ops Q (o :: rest) a w := by
  refine wpList_plain hgd fun K hK => ?_
  have hrun := run_append_nil (P := P) (w := w) base t o.type e i size ht hi v n xs c hown
  unfold Oper.wp
  simp [execOp, ho, resolve, invoke, builtin, hs, hx, hrun, Result.andThen]
  exact hK _ _ h
/-- append(s, xs...): whatever row of elements stands behind, that has memory or none. -/
theorem wpList_append_rows {α : Type} {R : List Value → α → Prop} {S : Nat → Prop} {ops : Array Oper} {rest : List Oper} {o : Oper} {a : Act} {Q : Exit → Act → World → Prop} (hgd : o.guard = none) (s x : Operand) (t : TypeId)
    (ho : o.op = .call { callee := .builtin .append, args := #[s, x], argTypes := #[t, t] })
    (base : Nat) (e : TypeId) (i : TypeInfo) (z : Value) (size bytes : Nat) (ht : P.underlying t = some (.slice e)) (hi : P.info? e = some i) (hz : i.zero = some z)
    (hsize : i.size = size) (hby : i.bytes = bytes) (hzs : z.cells.size = size) (hsz : 0 < size)
    (v : Value) (n : Nat) (xs : List Value) (hs : a.eval s = v) (hown : w.ownsRow base e size v n xs)
    (u : Value) (m : List α) (hx : a.eval x = u) (hr : Rows w S size R u m) (hone : ∀ cs y, R cs y → ∀ q ∈ cs, q.oneCell' = true)
    (h63 : n + m.length ≤ maxLen) (hbytes : (n + m.length) * bytes ≤ 140737488355328) (hbase : base ≤ w.heap.size)
    (h : ∀ v' w' news, CellsR size R news m → w'.ownsRow base e size v' (n + m.length) (xs ++ news) → w.grownBy w' v.ownBlock → wpList P ops Q rest (a.put o.dst v') w') : wpList P ops Q (o :: rest) a w := by
  obtain ⟨p, cap, hv, h1, h2, hat⟩ := id hr
  cases p with
  | none =>
    have hm : m = [] := Classical.byContradiction fun hne => by
      obtain ⟨g, off, hp, _⟩ := hat hne
      cases hp
    subst hm
    simp only [List.length_nil] at *
    refine wpList_append_nil hgd s x t ho base e i size ht hi v n xs cap hs hown (hx.trans hv) ?_
    exact h v w [] CellsR.nil (by simpa using hown) ⟨rfl, rfl, rfl, Nat.le_refl _, fun _ _ _ => rfl⟩
  | some ad =>
    rw [hv] at hr
    obtain ⟨-, news, hc, hnews⟩ := rowsCellsR hsz hr
    refine wpList_append_own _ hgd s x t ho base e i z size bytes ht hi hz hsize hby hzs hsz v n xs hs hown ad m.length cap news (hx.trans hv) hc.1 hnews (hc.oneCell hsz hone) h63 hbytes hbase ?_
    intro v' w' k1 k2 _
    exact h v' w' news hc k1 k2
/-- The same as an arm of a region that draws its order. -/
theorem step_append_rows {α : Type} {R : List Value → α → Prop} {S : Nat → Prop} {ops : Array Oper} {o : Oper} {a : Act} {K : Act → World → Prop} {Q : Exit → Act → World → Prop} {E : Prop} (hgd : o.guard = none) (s x : Operand) (t : TypeId)
    (ho : o.op = .call { callee := .builtin .append, args := #[s, x], argTypes := #[t, t] })
    (base : Nat) (e : TypeId) (i : TypeInfo) (z : Value) (size bytes : Nat) (ht : P.underlying t = some (.slice e)) (hi : P.info? e = some i) (hz : i.zero = some z)
    (hsize : i.size = size) (hby : i.bytes = bytes) (hzs : z.cells.size = size) (hsz : 0 < size)
    (v : Value) (n : Nat) (xs : List Value) (hs : a.eval s = v) (hown : w.ownsRow base e size v n xs)
    (u : Value) (m : List α) (hx : a.eval x = u) (hr : Rows w S size R u m) (hone : ∀ cs y, R cs y → ∀ q ∈ cs, q.oneCell' = true)
    (h63 : n + m.length ≤ maxLen) (hbytes : (n + m.length) * bytes ≤ 140737488355328) (hbase : base ≤ w.heap.size)
    (h : ∀ v' w' news, CellsR size R news m → w'.ownsRow base e size v' (n + m.length) (xs ++ news) → w.grownBy w' v.ownBlock → K (a.put o.dst v') w') :
    if Region.wanted o (yielded ops a.tmps) = true then Oper.wp P o a w K Q else E := by
  have hw : Region.wanted o (yielded ops a.tmps) = true := by simp [Region.wanted, hgd]
  rw [if_pos hw]
  obtain ⟨p, cap, hv, h1, h2, hat⟩ := id hr
  cases p with
  | none =>
    have hm : m = [] := Classical.byContradiction fun hne => by
      obtain ⟨g, off, hp, _⟩ := hat hne
      cases hp
    subst hm
    simp only [List.length_nil] at *
    have hrun := run_append_nil (P := P) (w := w) base t o.type e i size ht hi v n xs cap hown
    unfold Oper.wp
    simp [execOp, ho, resolve, invoke, builtin, hs, hx.trans hv, hrun, Result.andThen]
    exact h v w [] CellsR.nil (by simpa using hown) ⟨rfl, rfl, rfl, Nat.le_refl _, fun _ _ _ => rfl⟩
  | some ad =>
    rw [hv] at hr
    obtain ⟨-, news, hc, hnews⟩ := rowsCellsR hsz hr
    refine wp_append_own w s x t ho base e i z size bytes ht hi hz hsize hby hzs hsz v n xs hs hown ad m.length cap news (hx.trans hv) hc.1 hnews (hc.oneCell hsz hone) h63 hbytes hbase ?_
    intro v' w' k1 k2 _
    exact h v' w' news hc k1 k2
end
theorem cellsR_str {news : List Value} {l : List ByteArray} (h : CellsR 1 HStr news l) : news = strs l := by
  refine List.ext_getElem? fun i => ?_
  by_cases hi : i < l.length
  · obtain ⟨cs, h1, h2, rfl, -⟩ := h.2 i (l[i]) (List.getElem?_eq_getElem hi)
    have h4 := h2 0 (by omega)
    rw [show i * 1 + 0 = i by omega] at h4
    rw [h4]; simp [strs, hi]
  · rw [List.getElem?_eq_none (by rw [h.1]; omega), List.getElem?_eq_none (by rw [strs_length]; omega)]
theorem str_oneCell (cs : List Value) (s : ByteArray) (h : HStr cs s) : ∀ u ∈ cs, u.oneCell' = true := by
  obtain ⟨rfl, -⟩ := h
  intro u hu
  simp at hu; subst hu; rfl
end Go.Proofs.YtigfmdfgioccjaaGreatDoor
/-
  Trees that own their memory: each row lies in a block of its own, and no two blocks are one. What is written into such a tree turns nothing else, and is there afterwards.
-/
namespace Go.Proofs.YtigfmdfgioccjaaGreatDoor
open Go.ChangeShapes Go.WideShapes Go.ChangeAt Go.RowKit
set_option linter.unusedVariables false

/-- Whatever lies in blocks of fp lies in w' as it does in w. -/
def KeepOn (fp : List Nat) (w w' : World) : Prop := ∀ a ∈ fp, w'.heap[a]? = w.heap[a]?

theorem KeepOn.sub {fp fp' : List Nat} {w w' : World} (h : KeepOn fp w w') (hs : ∀ a ∈ fp', a ∈ fp) : KeepOn fp' w w' := fun a ha => h a (hs a ha)
theorem KeepOn.below {fp : List Nat} {w w' : World} {N : Nat} (h : Below N w w') (hs : ∀ a ∈ fp, a < N) : KeepOn fp w w' := fun a ha => h.block a (hs a ha)

/-- Nothing has turned but what lies in blocks of fp; memory may have grown. -/
structure Off (fp : List Nat) (w w' : World) : Prop where
  os : w'.os = w.os
  tape : w'.tape = w.tape
  output : w'.output = w.output
  size : w.heap.size ≤ w'.heap.size
  block : ∀ a, a < w.heap.size → a ∉ fp → w'.heap[a]? = w.heap[a]?

theorem Off.refl (fp : List Nat) (w : World) : Off fp w w := ⟨rfl, rfl, rfl, Nat.le_refl _, fun _ _ _ => rfl⟩
theorem Off.trans {fp : List Nat} {a b c : World} (h : Off fp a b) (k : Off fp b c) : Off fp a c :=
  ⟨k.os.trans h.os, k.tape.trans h.tape, k.output.trans h.output, Nat.le_trans h.size k.size, fun g hg hf => (k.block g (Nat.lt_of_lt_of_le hg h.size) hf).trans (h.block g hg hf)⟩
theorem Off.sub {fp fp' : List Nat} {a b : World} (h : Off fp a b) (hs : ∀ g ∈ fp, g ∈ fp') : Off fp' a b :=
  ⟨h.os, h.tape, h.output, h.size, fun g hg hf => h.block g hg (fun hm => hf (hs g hm))⟩
theorem Off.of_below {fp : List Nat} {a b : World} (h : Below a.heap.size a b) : Off fp a b := ⟨h.os, h.tape, h.output, h.size, fun g hg _ => h.block g hg⟩
theorem Off.of_grown {fp : List Nat} {a b : World} {g : Nat} (h : a.grownBy b (some g)) (hg : g ∈ fp) : Off fp a b :=
  ⟨h.os, h.tape, h.output, h.size, fun j hj hf => h.block j hj (by simp; intro e; exact hf (e ▸ hg))⟩
theorem Off.below {fp : List Nat} {a b : World} {N : Nat} (h : Off fp a b) (hs : ∀ g ∈ fp, N ≤ g) (hN : N ≤ a.heap.size) : Below N a b :=
  ⟨h.os, h.tape, h.output, h.size, fun j hj => h.block j (Nat.lt_of_lt_of_le hj hN) (fun hm => by have := hs j hm; omega)⟩
theorem Off.keep {fp f : List Nat} {a b : World} (h : Off fp a b) (hs : ∀ g ∈ f, g < a.heap.size ∧ g ∉ fp) : KeepOn f a b := fun g hg => h.block g (hs g hg).1 (hs g hg).2

theorem Off.under {fp : List Nat} {w A B : World} {N : Nat} (h : Off fp w A) (hN : w.heap.size ≤ N) (hb : Below N A B) : Off fp w B :=
  ⟨hb.os.trans h.os, hb.tape.trans h.tape, hb.output.trans h.output, Nat.le_trans h.size hb.size, fun g hg hf => (hb.block g (by omega)).trans (h.block g hg hf)⟩
/-- v is a slice in a block of its own; its elements, of c cells each, are R's xs; fp: all blocks. -/
def ORows {α : Type} (w : World) (e : TypeId) (c : Nat) (R : List Value → α → List Nat → Prop) (v : Value) (xs : List α) (fp : List Nat) : Prop :=
  (xs = [] ∧ fp = [] ∧ ∃ p cap, v = .slice p 0 cap ∧ cap ≤ maxLen) ∨
    (xs ≠ [] ∧ ∃ (cells : List Value) (g cap : Nat) (fps : List (List Nat)), w.ownsRow 0 e c v xs.length cells ∧ v = .slice (some ⟨g, 0, none⟩) xs.length cap ∧ fps.length = xs.length ∧ fp = g :: fps.flatten ∧
      ∀ (i : Nat) x f, xs[i]? = some x → fps[i]? = some f → ∃ cs : List Value, cs.length = c ∧ (∀ j, j < c → cells[i * c + j]? = cs[j]?) ∧ R cs x f)

theorem owns_block {w w' : World} {e : TypeId} {c g n cap : Nat} {v : Value} {cells : List Value} (h : w.ownsRow 0 e c v n cells) (hv : v = .slice (some ⟨g, 0, none⟩) n cap) (hk : w'.heap[g]? = w.heap[g]?) : w'.ownsRow 0 e c v n cells := by
  refine ⟨h.1, ?_⟩
  rcases h.2 with hn | ⟨g', cap', cur, hv', hb, hg, hr⟩
  · exact .inl hn
  · have : g' = g := by rw [hv] at hv'; simp at hv'; exact hv'.1.symm
    subst this
    exact .inr ⟨g', cap', cur, hv', hb, hk.trans hg, hr⟩
theorem owns_lt {w : World} {e : TypeId} {c g n cap : Nat} {v : Value} {cells : List Value} (h : w.ownsRow 0 e c v n cells) (hv : v = .slice (some ⟨g, 0, none⟩) n cap) : g < w.heap.size := by
  rcases h.2 with hn | ⟨g', cap', cur, hv', hb, hg, hr⟩
  · rw [hn.1] at hv; cases hv
  · have : g' = g := by rw [hv] at hv'; simp at hv'; exact hv'.1.symm
    subst this
    exact (Array.getElem?_eq_some_iff.1 hg).1
theorem ORows.shape {α : Type} {w : World} {e : TypeId} {c : Nat} {R : List Value → α → List Nat → Prop} {v : Value} {xs : List α} {fp : List Nat} (h : ORows w e c R v xs fp) : ∃ p cap, v = .slice p xs.length cap ∧ xs.length ≤ cap ∧ cap ≤ maxLen := by
  rcases h with ⟨rfl, _, p, cap, hv, hc⟩ | ⟨_, cells, g, cap, fps, ho, hv, _⟩
  · exact ⟨p, cap, hv, Nat.zero_le _, hc⟩
  · rcases ho.2 with hn | ⟨g', cap', cur, hv', hb, hg, hr⟩
    · rw [hn.1] at hv; cases hv
    · exact ⟨_, _, hv', hr.1, hr.2.1⟩

theorem ORows.rows {α : Type} {w : World} {e : TypeId} {c : Nat} {R : List Value → α → List Nat → Prop} {R' : List Value → α → Prop} {S : Nat → Prop} {v : Value} {xs : List α} {fp : List Nat} (h : ORows w e c R v xs fp) (hS : ∀ a ∈ fp, S a)
    (hR : ∀ cs x f, x ∈ xs → (∀ a ∈ f, a ∈ fp) → R cs x f → R' cs x) : Rows w S c R' v xs := by
  obtain ⟨p, cap, hv, h1, h2⟩ := h.shape
  refine ⟨p, cap, hv, h1, h2, fun hne => ?_⟩
  rcases h with h | ⟨_, cells, g, cap', fps, ho, hv', hl, rfl, hat⟩
  · exact absurd h.1 hne
  have hp : p = some ⟨g, 0, none⟩ := by rw [hv] at hv'; simp at hv'; exact hv'.1
  refine ⟨g, 0, hp, hS g (by simp), owns_lt ho hv', fun i x hi => ?_⟩
  have hil : i < xs.length := (List.getElem?_eq_some_iff.1 hi).1
  obtain ⟨f, hf⟩ : ∃ f, fps[i]? = some f := ⟨fps[i]'(by rw [hl]; exact hil), List.getElem?_eq_getElem _⟩
  obtain ⟨cs, hcl, hcs, hr⟩ := hat i x f hi hf
  refine ⟨cs, hcl, fun j hj => ?_, hR cs x f (List.mem_of_getElem? hi) (fun a ha => ?_) hr⟩
  · rw [← hcs j hj, Nat.zero_add]
    rw [hv'] at ho
    refine ho.cellAt (i * c + j) ?_
    have : i * c + c ≤ xs.length * c := by rw [← Nat.succ_mul]; exact Nat.mul_le_mul_right c hil
    omega
  · exact List.mem_cons_of_mem _ (List.mem_flatten.2 ⟨f, List.mem_of_getElem? hf, ha⟩)

theorem ORows.keep {α : Type} {w w' : World} {e : TypeId} {c : Nat} {R R' : List Value → α → List Nat → Prop} {v : Value} {xs : List α} {fp : List Nat} (h : ORows w e c R v xs fp) (hk : KeepOn fp w w')
    (hR : ∀ cs x f, x ∈ xs → (∀ a ∈ f, a ∈ fp) → R cs x f → R' cs x f) : ORows w' e c R' v xs fp := by
  rcases h with h | ⟨hne, cells, g, cap', fps, ho, hv', hl, rfl, hat⟩
  · exact .inl h
  refine .inr ⟨hne, cells, g, cap', fps, owns_block ho hv' (hk g (by simp)), hv', hl, rfl, fun i x f hi hf => ?_⟩
  obtain ⟨cs, hcl, hcs, hr⟩ := hat i x f hi hf
  exact ⟨cs, hcl, hcs, hR cs x f (List.mem_of_getElem? hi) (fun a ha => List.mem_cons_of_mem _ (List.mem_flatten.2 ⟨f, List.mem_of_getElem? hf, ha⟩)) hr⟩

theorem ORows.lt {α : Type} {w : World} {e : TypeId} {c : Nat} {R : List Value → α → List Nat → Prop} {v : Value} {xs : List α} {fp : List Nat} (h : ORows w e c R v xs fp) (hR : ∀ cs x f, R cs x f → ∀ a ∈ f, a < w.heap.size) : ∀ a ∈ fp, a < w.heap.size := by
  rcases h with ⟨_, rfl, _⟩ | ⟨hne, cells, g, cap', fps, ho, hv', hl, rfl, hat⟩
  · intro a ha; simp at ha
  · intro a ha
    rcases List.mem_cons.1 ha with rfl | ha
    · exact owns_lt ho hv'
    · obtain ⟨f, hf, ha⟩ := List.mem_flatten.1 ha
      obtain ⟨i, hi, rfl⟩ := List.mem_iff_getElem.1 hf
      obtain ⟨cs, _, _, hr⟩ := hat i (xs[i]'(by rw [← hl]; exact hi)) _ (List.getElem?_eq_getElem _) (List.getElem?_eq_getElem hi)
      exact hR _ _ _ hr a ha

/-- One element of a row is turned, its part of the blocks with it. -/
theorem ORows.set {α : Type} {w' : World} {e : TypeId} {c : Nat} {R R' : List Value → α → List Nat → Prop} {v : Value} {xs : List α} {cells cells' : List Value} {g cap : Nat} {fps : List (List Nat)} {i : Nat} {x' : α} {f : List Nat}
    (hne : xs ≠ []) (ho : w'.ownsRow 0 e c v xs.length cells') (hv : v = .slice (some ⟨g, 0, none⟩) xs.length cap) (hl : fps.length = xs.length)
    (hat : ∀ (i : Nat) x f, xs[i]? = some x → fps[i]? = some f → ∃ cs : List Value, cs.length = c ∧ (∀ j, j < c → cells[i * c + j]? = cs[j]?) ∧ R cs x f) (hf : fps[i]? = some f)
    (hother : ∀ m, (m < i * c ∨ i * c + c ≤ m) → cells'[m]? = cells[m]?) (cs' : List Value) (hcl : cs'.length = c) (hcs : ∀ j, j < c → cells'[i * c + j]? = cs'[j]?) (hr : R' cs' x' f)
    (hk : ∀ (j : Nat) y f' cs, j ≠ i → fps[j]? = some f' → R cs y f' → R' cs y f') : ORows w' e c R' v (xs.set i x') (g :: fps.flatten) := by
  refine .inr ⟨fun h => hne (by cases xs with | nil => rfl | cons a l => cases i <;> simp at h), cells', g, cap, fps, by rw [List.length_set]; exact ho, by rw [List.length_set]; exact hv, by rw [List.length_set]; exact hl, rfl, fun j y f' hj hf' => ?_⟩
  by_cases hji : j = i
  · subst hji
    have hjl : j < xs.length := by rw [← hl]; exact (List.getElem?_eq_some_iff.1 hf).1
    rw [List.getElem?_set_self hjl] at hj
    obtain rfl := Option.some.inj hj
    obtain rfl := Option.some.inj (hf.symm.trans hf')
    exact ⟨cs', hcl, hcs, hr⟩
  · rw [List.getElem?_set_ne (fun h => hji h.symm)] at hj
    obtain ⟨cs, h1, h2, h3⟩ := hat j y f' hj hf'
    refine ⟨cs, h1, fun q hq => ?_, hk j y f' cs hji hf' h3⟩
    rw [hother _ ?_]
    · exact h2 q hq
    · rcases Nat.lt_or_gt_of_ne hji with h | h
      · left; have : j * c + c ≤ i * c := by rw [← Nat.succ_mul]; exact Nat.mul_le_mul_right c h
        omega
      · right; have : i * c + c ≤ j * c := by rw [← Nat.succ_mul]; exact Nat.mul_le_mul_right c h
        omega

/-- The parts of a list of blocks without a repetition. -/
theorem nodup_parts {g : Nat} {fps : List (List Nat)} (h : (g :: fps.flatten).Nodup) :
    (∀ f ∈ fps, g ∉ f ∧ f.Nodup) ∧ ∀ (i j : Nat) f f', i ≠ j → fps[i]? = some f → fps[j]? = some f' → ∀ a ∈ f, a ∉ f' := by
  rw [List.nodup_cons] at h
  obtain ⟨hg, hp⟩ := h
  obtain ⟨h1, h2⟩ := List.pairwise_flatten.1 hp
  refine ⟨fun f hf => ⟨fun hm => hg (List.mem_flatten.2 ⟨f, hf, hm⟩), h1 f hf⟩, fun i j f f' hij hi hj a ha ha' => ?_⟩
  rw [List.pairwise_iff_getElem] at h2
  obtain ⟨hi1, rfl⟩ := List.getElem?_eq_some_iff.1 hi
  obtain ⟨hj1, rfl⟩ := List.getElem?_eq_some_iff.1 hj
  rcases Nat.lt_or_gt_of_ne hij with hlt | hlt
  · exact h2 i j hi1 hj1 hlt a ha a ha' rfl
  · exact h2 j i hj1 hi1 hlt a ha' a ha rfl

/-- A list whose first i are those of ys, the rest of xs. -/
def mix {α : Type} (i : Nat) (ys xs : List α) : List α := ys.take i ++ xs.drop i
theorem mix_zero {α : Type} (ys xs : List α) : mix 0 ys xs = xs := by simp [mix]
theorem mix_all {α : Type} {ys xs : List α} {i : Nat} (hl : ys.length = xs.length) (h : xs.length ≤ i) : mix i ys xs = ys := by
  unfold mix; rw [List.take_of_length_le (by omega), List.drop_of_length_le h, List.append_nil]
theorem mix_length {α : Type} {ys xs : List α} {i : Nat} (hl : ys.length = xs.length) : (mix i ys xs).length = xs.length := by
  unfold mix; rw [List.length_append, List.length_take, List.length_drop]; omega
theorem mix_at {α : Type} {ys xs : List α} {i : Nat} (hl : ys.length = xs.length) (hi : i < xs.length) : (mix i ys xs)[i]? = xs[i]? := by
  unfold mix
  rw [List.getElem?_append_right (by rw [List.length_take]; omega), List.length_take, List.getElem?_drop]
  congr 1; omega
theorem mix_succ {α : Type} {ys xs : List α} {i : Nat} {y : α} (hl : ys.length = xs.length) (hy : ys[i]? = some y) : (mix i ys xs).set i y = mix (i + 1) ys xs := by
  have hi : i < ys.length := (List.getElem?_eq_some_iff.1 hy).1
  unfold mix
  rw [List.set_append_right (h := by rw [List.length_take]; omega), List.length_take, Nat.min_eq_left (by omega), Nat.sub_self, List.take_add_one, hy, List.append_assoc]
  congr 1
  rw [List.drop_eq_getElem_cons (i := i) (l := xs) (by omega)]
  rfl

/-- Element by element, with a count that goes on. -/
def markL {α : Type} (f : Nat → α → α) (c : α → Nat) : Nat → List α → List α
  | _, [] => []
  | k, x :: xs => f k x :: markL f c (k + c x) xs
theorem markL_length {α : Type} (f : Nat → α → α) (c : α → Nat) : ∀ (k : Nat) (xs : List α), (markL f c k xs).length = xs.length
  | _, [] => rfl
  | k, x :: xs => by simp [markL, markL_length f c (k + c x) xs]
theorem markL_at {α : Type} (f : Nat → α → α) (c : α → Nat) : ∀ (k : Nat) (xs : List α) (i : Nat) (x : α), xs[i]? = some x → (markL f c k xs)[i]? = some (f (k + ((xs.take i).map c).sum) x)
  | _, [], i, x, h => by simp at h
  | k, y :: xs, 0, x, h => by simp at h; subst h; simp [markL]
  | k, y :: xs, i + 1, x, h => by
    simp at h
    simp only [markL, List.getElem?_cons_succ, markL_at f c (k + c y) xs i x h, List.take_succ_cons, List.map_cons, List.sum_cons, Nat.add_assoc]

/-- A row of n elements that is being made in block G: its first k are those of es. -/
structure Made {α : Type} (w wr : World) (G n : Nat) (e : TypeId) (c : Nat) (O : World → List Value → α → List Nat → Prop) (es : List α) (k : Nat) (xs : List Value) (fps : List (List Nat)) : Prop where
  own : wr.ownsRow G e c (.slice (some ⟨G, 0, none⟩) n n) n xs
  len : fps.length = k
  nd : fps.flatten.Nodup
  rng : ∀ a ∈ fps.flatten, G < a ∧ a < wr.heap.size
  el : ∀ (i : Nat) x f, es[i]? = some x → fps[i]? = some f → ∃ cs : List Value, cs.length = c ∧ (∀ j, j < c → xs[i * c + j]? = cs[j]?) ∧ O wr cs x f
  below : Below G w wr
  sz : G + 1 ≤ wr.heap.size

variable {α : Type} {w wr : World} {G n c k : Nat} {e : TypeId} {O : World → List Value → α → List Nat → Prop} {es : List α} {xs : List Value} {fps : List (List Nat)}

theorem Made.start {M : Array Value} (hM : M.size = n * c) (hn : n ≤ maxLen) : Made w (w.alloc (.cells M e)) w.heap.size n e c O es 0 M.toList [] :=
  ⟨World.ownsRow_lit w M n (Nat.le_refl _) hn hM, rfl, by simp, fun a ha => by simp at ha, fun i x f _ hf => by simp at hf, (Below.refl _ _).alloc (Nat.le_refl _) _, by rw [alloc_hs]; exact Nat.le_refl _⟩

theorem Made.step (hO : ∀ w w' cs x f, O w cs x f → KeepOn f w w' → O w' cs x f) (h : Made w wr G n e c O es k xs fps) {w1 w2 : World} {x : α} {cs xs' : List Value} {f : List Nat} (hx : es[k]? = some x) (hb : Below wr.heap.size wr w1) (ho : O w1 cs x f)
    (hnd : f.Nodup) (hf : ∀ a ∈ f, wr.heap.size ≤ a ∧ a < w1.heap.size) (hcl : cs.length = c) (hown : w2.ownsRow G e c (.slice (some ⟨G, 0, none⟩) n n) n xs') (hgr : w1.grownBy w2 (some G))
    (hlow : ∀ m, m < k * c → xs'[m]? = xs[m]?) (hself : ∀ j, j < c → xs'[k * c + j]? = cs[j]?) : Made w w2 G n e c O es (k + 1) xs' (fps ++ [f]) := by
  have h1 := h.sz
  have h2 := hb.size
  have h3 := hgr.size
  refine ⟨hown, by rw [List.length_append, h.len]; rfl, ?_, ?_, ?_, ?_, by omega⟩
  · rw [List.flatten_append, List.nodup_append]
    refine ⟨h.nd, by simpa using hnd, fun a ha b hb' => ?_⟩
    have := (h.rng a ha).2
    have := (hf b (by simpa using hb')).1
    omega
  · intro a ha
    rw [List.flatten_append, List.mem_append] at ha
    rcases ha with ha | ha
    · have := h.rng a ha; omega
    · have := hf a (by simpa using ha); omega
  · intro i y f' hy hf'
    by_cases hik : i < k
    · rw [List.getElem?_append_left (by rw [h.len]; exact hik)] at hf'
      obtain ⟨cs', g1, g2, g3⟩ := h.el i y f' hy hf'
      refine ⟨cs', g1, fun j hj => ?_, hO _ _ _ _ _ g3 (fun a ha => ?_)⟩
      · rw [hlow]
        · exact g2 j hj
        · have : i * c + c ≤ k * c := by rw [← Nat.succ_mul]; exact Nat.mul_le_mul_right c hik
          omega
      · have hr := h.rng a (List.mem_flatten.2 ⟨f', List.mem_of_getElem? hf', ha⟩)
        exact (hgr.block a (by omega) (by simp; omega)).trans (hb.block a hr.2)
    · have hil : i < k + 1 := by
        have := (List.getElem?_eq_some_iff.1 hf').1
        rw [List.length_append, h.len] at this; simpa using this
      obtain rfl : i = k := by omega
      obtain rfl : x = y := Option.some.inj (hx.symm.trans hy)
      rw [List.getElem?_append_right (by rw [h.len]; exact Nat.le_refl _), h.len, Nat.sub_self] at hf'
      simp at hf'
      subst hf'
      exact ⟨cs, hcl, hself, hO _ _ _ _ _ ho (fun a ha => by have := hf a ha; exact hgr.block a (by omega) (by simp; omega))⟩
  · exact h.below.trans ((hb.mono (by omega)).trans ⟨hgr.os, hgr.tape, hgr.output, hgr.size, fun j hj => hgr.block j (by omega) (by simp; omega)⟩)

theorem Made.done (h : Made w wr G n e c O es n xs fps) (hn : es.length = n) (hm : n ≤ maxLen) : ∃ fp, ORows wr e c (O wr) (.slice (some ⟨G, 0, none⟩) n n) es fp ∧ fp.Nodup ∧ ∀ a ∈ fp, G ≤ a ∧ a < wr.heap.size := by
  by_cases hne : es = []
  · subst hne
    exact ⟨[], .inl ⟨rfl, rfl, _, _, by rw [← hn]; rfl, hm⟩, by simp, fun a ha => by simp at ha⟩
  · refine ⟨G :: fps.flatten, .inr ⟨hne, xs, G, n, fps, ?_, by rw [hn], by rw [h.len, hn], rfl, h.el⟩, ?_, ?_⟩
    · rw [hn]
      obtain ⟨h1, h2⟩ := h.own
      refine ⟨h1, h2.imp id ?_⟩
      rintro ⟨g, cap, cur, a1, a2, a3⟩
      exact ⟨g, cap, cur, a1, Nat.zero_le _, a3⟩
    · rw [List.nodup_cons]
      exact ⟨fun hm => by have := (h.rng G hm).1; omega, h.nd⟩
    · intro a ha
      have := h.sz
      rcases List.mem_cons.1 ha with rfl | ha
      · omega
      · have := h.rng a ha; omega

/-- A function that makes a copy, of what is not too great, in new memory that the copy owns. -/
def ToO {α : Type} (F : FuncId) (H : World → Value → α → Prop) (O : World → Value → α → List Nat → Prop) (wt : α → Nat) : Prop :=
  ∀ (w : World) (v : Value) (x : α), H w v x → wt x ≤ 1048576 → Calls Tryz.prog F #[v] w fun e w' => ∃ u fp, e = .returned u ∧ O w' u x fp ∧ fp.Nodup ∧ (∀ a ∈ fp, w.heap.size ≤ a ∧ a < w'.heap.size) ∧ Below w.heap.size w w'
end Go.Proofs.YtigfmdfgioccjaaGreatDoor
/-
  A row that is grown by append, one element behind the other, each a tree in memory of its own.
-/
namespace Go.Proofs.YtigfmdfgioccjaaGreatDoor
open Go.ChangeShapes Go.WideShapes Go.ChangeAt Go.RowKit
set_option linter.unusedVariables false

theorem ownsB_block {w w' : World} {B : Nat} {e : TypeId} {c g n cap : Nat} {v : Value} {cells : List Value} (h : w.ownsRow B e c v n cells) (hv : v = .slice (some ⟨g, 0, none⟩) n cap) (hk : w'.heap[g]? = w.heap[g]?) : w'.ownsRow B e c v n cells := by
  refine ⟨h.1, ?_⟩
  rcases h.2 with hn | ⟨g', cap', cur, hv', hb, hg, hr⟩
  · exact .inl hn
  · have : g' = g := by rw [hv] at hv'; simp at hv'; exact hv'.1.symm
    subst this
    exact .inr ⟨g', cap', cur, hv', hb, hk.trans hg, hr⟩
theorem owns_own_lt {w : World} {B : Nat} {e : TypeId} {c n b : Nat} {v : Value} {cells : List Value} (h : w.ownsRow B e c v n cells) (hb : v.ownBlock = some b) : B ≤ b ∧ b < w.heap.size := by
  rcases h.2 with hn | ⟨g', cap', cur, hv', hB, hg, hr⟩
  · rw [hn.1] at hb; cases hb
  · rw [hv'] at hb
    simp [Value.ownBlock] at hb
    subst hb
    exact ⟨hB, (Array.getElem?_eq_some_iff.1 hg).1⟩

/-- What lies in new memory, but not in the row's own block. -/
def offRow (B : Nat) (w : World) (u : Value) (a : Nat) : Prop := B ≤ a ∧ a < w.heap.size ∧ u.ownBlock ≠ some a

structure Grow {α : Type} (wr : World) (B : Nat) (e : TypeId) (c : Nat) (R : World → (Nat → Prop) → List Value → α → Prop) (es : List α) (k : Nat) (u : Value) (xs : List Value) : Prop where
  own : wr.ownsRow B e c u k xs
  el : ∀ (i : Nat) x, i < k → es[i]? = some x → ∃ cs : List Value, cs.length = c ∧ (∀ j, j < c → xs[i * c + j]? = cs[j]?) ∧ R wr (offRow B wr u) cs x
  low : B ≤ wr.heap.size

variable {α : Type} {wr w1 wb w2 : World} {B c k : Nat} {e : TypeId} {R : World → (Nat → Prop) → List Value → α → Prop} {es : List α} {u : Value} {xs : List Value}

theorem Grow.start (h : B ≤ wr.heap.size) : Grow wr B e c R es 0 (.slice none 0 0) [] :=
  ⟨⟨by simp, .inl ⟨rfl, rfl⟩⟩, fun i x hi => by omega, h⟩

theorem Grow.step (hR : ∀ w w' S S' cs x, R w S cs x → SameOn S w w' → (∀ g, S g → S' g) → R w' S' cs x) (h : Grow wr B e c R es k u xs) {x : α} {cs : List Value} (hx : es[k]? = some x) (hb : Below wr.heap.size wr w1)
    (hr : R w1 (fun a => wr.heap.size ≤ a ∧ a < w1.heap.size) cs x) (hcl : cs.length = c) (hwb : Below w1.heap.size w1 wb) {H g cap : Nat} (hH : w1.heap.size ≤ H) (hHs : H ≤ wb.heap.size)
    (hown : w2.ownsRow B e c (.slice (some ⟨g, 0, none⟩) (k + 1) cap) (k + 1) (xs ++ cs)) (hgr : wb.grownBy w2 u.ownBlock) (hat : u.ownBlock = some g ∨ g = H) {o : Nat} (ho : o < B) (j : Nat) (v : Value) :
    Grow (w2.setCell ⟨o, j, none⟩ v) B e c R es (k + 1) (.slice (some ⟨g, 0, none⟩) (k + 1) cap) (xs ++ cs) := by
  have hlow := h.low
  have s1 := hb.size
  have s2 := hwb.size
  have s3 := hgr.size
  have hgB : B ≤ g ∧ g < w2.heap.size := owns_own_lt hown rfl
  have hu : ∀ b, u.ownBlock = some b → b < wr.heap.size := fun b hb => (owns_own_lt h.own hb).2
  have blk : ∀ a, B ≤ a → a < w1.heap.size → u.ownBlock ≠ some a → (w2.setCell ⟨o, j, none⟩ v).heap[a]? = w1.heap[a]? := fun a h1 h2 h3 =>
    (Below.heap_setCell _ _ _ _ (by show a ≠ o; omega)).trans ((hgr.block a (by omega) (fun e => h3 e.symm)).trans (hwb.block a h2))
  have hxl : xs.length = k * c := h.own.1
  refine ⟨ownsB_block hown rfl (Below.heap_setCell _ _ _ _ (by show g ≠ o; omega)), fun i y hi hy => ?_, by simp only [setCell_hs]; omega⟩
  by_cases hik : i < k
  · obtain ⟨cs', g1, g2, g3⟩ := h.el i y hik hy
    have hil : i * c + c ≤ k * c := by rw [← Nat.succ_mul]; exact Nat.mul_le_mul_right c hik
    refine ⟨cs', g1, fun q hq => ?_, hR _ _ _ _ _ _ g3 ⟨by simp only [setCell_hs]; omega, fun a ha hal => ?_⟩ (fun a ha => ?_)⟩
    · rw [List.getElem?_append_left (by omega)]; exact g2 q hq
    · exact (blk a ha.1 (by omega) ha.2.2).trans (hb.block a ha.2.1)
    · refine ⟨ha.1, by simp only [setCell_hs]; have := ha.2.1; omega, fun e => ?_⟩
      simp [Value.ownBlock] at e
      subst e
      rcases hat with hat | hat
      · exact ha.2.2 hat
      · have := ha.2.1; omega
  · obtain rfl : i = k := by omega
    obtain rfl : x = y := Option.some.inj (hx.symm.trans hy)
    refine ⟨cs, hcl, fun q hq => ?_, hR _ _ _ _ _ _ hr ⟨by simp only [setCell_hs]; omega, fun a ha hal => ?_⟩ (fun a ha => ?_)⟩
    · rw [List.getElem?_append_right (by omega), hxl]; congr 1; omega
    · exact blk a (by have := ha.1; omega) ha.2 (fun e => by have := hu a e; have := ha.1; omega)
    · refine ⟨by have := ha.1; omega, by simp only [setCell_hs]; have := ha.2; omega, fun e => ?_⟩
      simp [Value.ownBlock] at e
      subst e
      rcases hat with hat | hat
      · have := hu _ hat; have := ha.1; omega
      · have := ha.2; omega

theorem Grow.done (hR : ∀ w w' S S' cs x, R w S cs x → SameOn S w w' → (∀ g, S g → S' g) → R w' S' cs x) (h : Grow wr B e c R es k u xs) (hk : es.length = k) : Rows wr (fun a => B ≤ a) c (R wr (fun a => B ≤ a)) u es := by
  rcases h.own.2 with hn | ⟨g, cap, cur, hv, hB, hg, h1, h2, h3, h4⟩
  · refine ⟨none, 0, by rw [hn.1, hk, hn.2], by omega, Nat.zero_le _, fun hne => ?_⟩
    exact absurd (List.length_eq_zero_iff.1 (hk.trans hn.2)) hne
  · refine ⟨_, _, by rw [hk]; exact hv, by rw [hk]; exact h1, h2, fun hne => ⟨g, 0, rfl, hB, (Array.getElem?_eq_some_iff.1 hg).1, fun i x hi => ?_⟩⟩
    have hin : i < k := by rw [← hk]; exact (List.getElem?_eq_some_iff.1 hi).1
    obtain ⟨cs, g1, g2, g3⟩ := h.el i x hin hi
    refine ⟨cs, g1, fun j hj => ?_, hR _ _ _ _ _ _ g3 ⟨Nat.le_refl _, fun _ _ _ => rfl⟩ (fun a ha => ha.1)⟩
    rw [← g2 j hj, Nat.zero_add]
    have ho := h.own
    rw [hv] at ho
    refine ho.cellAt (i * c + j) ?_
    have : i * c + c ≤ k * c := by rw [← Nat.succ_mul]; exact Nat.mul_le_mul_right c hin
    omega
end Go.Proofs.YtigfmdfgioccjaaGreatDoor
/-
  Rows that are grown by append: what a step of append leaves as it was.
-/
namespace Go.Proofs.YtigfmdfgioccjaaGreatDoor
open Go.ChangeShapes Go.WideShapes Go.ChangeAt Go.RowKit
set_option linter.unusedVariables false

theorem owns_below {w w' : World} {B : Nat} {e : TypeId} {c n : Nat} {v : Value} {cells : List Value} (h : w.ownsRow B e c v n cells) (hg : w.grownBy w' v.ownBlock) (hB : B ≤ w.heap.size) : Below B w w' :=
  ⟨hg.os, hg.tape, hg.output, hg.size, fun j hj => hg.block j (by omega) (fun e => by
    have := (owns_own_lt h e.symm).1
    omega)⟩
theorem owns_next {w w' : World} {B : Nat} {e : TypeId} {c n : Nat} {v : Value} {cells : List Value} (h : w.ownsRow B e c v n cells) (hb : Below w.heap.size w w') : w'.ownsRow B e c v n cells := by
  refine ⟨h.1, ?_⟩
  rcases h.2 with hn | ⟨g, cap, cur, hv, hB, hg, hr⟩
  · exact .inl hn
  · exact .inr ⟨g, cap, cur, hv, hB, (hb.block g (Array.getElem?_eq_some_iff.1 hg).1).trans hg, hr⟩
theorem owns_fresh {w : World} {e : TypeId} {c : Nat} : (w.alloc (.cells #[] e)).ownsRow w.heap.size e c (.slice (some ⟨w.heap.size, 0, none⟩) 0 0) 0 [] := by
  refine ⟨by simp, .inr ⟨w.heap.size, 0, #[], rfl, Nat.le_refl _, ?_, Nat.le_refl _, Nat.zero_le _, by simp, by simp⟩⟩
  exact Blk.new (w := w) (cs := #[]) (t := e)
/-- Two rows of other types lie in other blocks: one grows, the other stays. -/
theorem owns_apart {w w' : World} {B B' : Nat} {e e' : TypeId} {c c' n n' : Nat} {v v' : Value} {xs xs' : List Value} (h : w.ownsRow B e c v n xs) (k : w.ownsRow B' e' c' v' n' xs') (hne : e ≠ e') (hg : w.grownBy w' v.ownBlock) : w'.ownsRow B' e' c' v' n' xs' := by
  refine ⟨k.1, ?_⟩
  rcases k.2 with hn | ⟨g, cap, cur, hv, hB, hh, hr⟩
  · exact .inl hn
  · refine .inr ⟨g, cap, cur, hv, hB, (hg.block g (Array.getElem?_eq_some_iff.1 hh).1 (fun e1 => ?_)).trans hh, hr⟩
    rcases h.2 with ⟨rfl, _⟩ | ⟨g2, cap2, cur2, rfl, _, hh2, _⟩
    · simp [Value.ownBlock] at e1
    · simp [Value.ownBlock] at e1
      subst e1
      rw [hh] at hh2
      simp at hh2
      exact hne hh2.2.symm
theorem owns_base {w : World} {B : Nat} {e : TypeId} {c n : Nat} {v : Value} {xs : List Value} (h : w.ownsRow B e c v n xs) : w.ownsRow 0 e c v n xs := by
  refine ⟨h.1, ?_⟩
  rcases h.2 with hn | ⟨g, cap, cur, hv, hB, hr⟩
  · exact .inl hn
  · exact .inr ⟨g, cap, cur, hv, Nat.zero_le _, hr⟩
theorem owns_slice {w : World} {B : Nat} {e : TypeId} {c n : Nat} {v : Value} {xs : List Value} (h : w.ownsRow B e c v n xs) : ∃ p q, v = .slice p n q ∧ n ≤ maxLen := by
  rcases h.2 with ⟨rfl, rfl⟩ | ⟨g, cap, cur, rfl, hB, hh, h1, h2, _⟩
  · exact ⟨_, _, rfl, Nat.zero_le _⟩
  · exact ⟨_, _, rfl, Nat.le_trans h1 h2⟩
theorem owns_some {w : World} {B : Nat} {e : TypeId} {c n q : Nat} {p : Option Addr} {xs : List Value} (h : w.ownsRow B e c (.slice p n q) n xs) (hn : 0 < n) : ∃ g, p = some ⟨g, 0, none⟩ := by
  rcases h.2 with ⟨hv, rfl⟩ | ⟨g, cap, cur, hv, _⟩
  · omega
  · simp at hv
    exact ⟨g, hv.1⟩


/-- Blocks of other types than e lie as they did. -/
def ApartE (e : TypeId) (w w' : World) : Prop := ∀ (b : Nat) (cs : Array Value) (t : TypeId) (fr : Nat × Nat), w.heap[b]? = some (Obj.cells cs t fr) → t ≠ e → w'.heap[b]? = w.heap[b]?
theorem ApartE.blk {e t : TypeId} {w w' : World} (h : ApartE e w w') {b : Nat} {cs : Array Value} (hb : Blk w b cs t) (ht : t ≠ e) : Blk w' b cs t := (h b cs t _ hb ht).trans hb
theorem ApartE.owns {e t : TypeId} {w w' : World} (h : ApartE e w w') {B c n : Nat} {v : Value} {xs : List Value} (k : w.ownsRow B t c v n xs) (ht : t ≠ e) : w'.ownsRow B t c v n xs := by
  refine ⟨k.1, ?_⟩
  rcases k.2 with hn | ⟨g, cap, cur, hv, hB, hh, hr⟩
  · exact .inl hn
  · exact .inr ⟨g, cap, cur, hv, hB, (h g _ _ _ hh ht).trans hh, hr⟩
theorem ApartE.refl (e : TypeId) (w : World) : ApartE e w w := fun _ _ _ _ _ _ => rfl
theorem ApartE.of_below {e : TypeId} {w w' : World} (h : Below w.heap.size w w') : ApartE e w w' := fun b _ _ _ hb _ => h.block b (Array.getElem?_eq_some_iff.1 hb).1
theorem ApartE.trans {e : TypeId} {a b c : World} (h : ApartE e a b) (k : ApartE e b c) : ApartE e a c := fun g cs t fr hg ht => by
  have h1 := h g cs t fr hg ht
  exact (k g cs t fr (h1.trans hg) ht).trans h1
theorem ApartE.of_grown {e : TypeId} {w w' : World} {B c n : Nat} {v : Value} {xs : List Value} (h : w.ownsRow B e c v n xs) (hg : w.grownBy w' v.ownBlock) : ApartE e w w' := fun b cs t fr hb ht =>
  hg.block b (Array.getElem?_eq_some_iff.1 hb).1 (fun e1 => by
    rcases h.2 with ⟨rfl, _⟩ | ⟨g2, cap2, cur2, rfl, _, hh2, _⟩
    · simp [Value.ownBlock] at e1
    · simp [Value.ownBlock] at e1
      subst e1
      rw [hb] at hh2
      simp at hh2
      exact ht hh2.2.1)

/-- The row v holds just the elements l, by R; it lies in a block of its own at B or above. -/
def OwnG {α : Type} (e : TypeId) (c : Nat) (R : List Value → α → Prop) (w : World) (B : Nat) (v : Value) (l : List α) : Prop := (∃ cells, w.ownsRow B e c v l.length cells ∧ CellsR c R cells l) ∧ B ≤ w.heap.size
section
variable {α : Type} {e : TypeId} {c : Nat} {R : List Value → α → Prop} {w w' : World} {B B' : Nat} {v : Value} {l : List α}
theorem OwnG.next (h : OwnG e c R w B v l) (hb : Below w.heap.size w w') : OwnG e c R w' B v l := by
  obtain ⟨⟨cells, h1, h2⟩, h3⟩ := h
  exact ⟨⟨cells, owns_next h1 hb, h2⟩, Nat.le_trans h3 hb.size⟩
theorem OwnG.base (h : OwnG e c R w B v l) (hB : B' ≤ B) : OwnG e c R w B' v l := by
  obtain ⟨⟨cells, h1, h2⟩, h3⟩ := h
  refine ⟨⟨cells, ⟨h1.1, ?_⟩, h2⟩, Nat.le_trans hB h3⟩
  rcases h1.2 with hn | ⟨g, cap, cur, hv, hB1, hr⟩
  · exact .inl hn
  · exact .inr ⟨g, cap, cur, hv, Nat.le_trans hB hB1, hr⟩
theorem OwnG.fresh : OwnG e c R (w.alloc (.cells #[] e)) w.heap.size (.slice (some ⟨w.heap.size, 0, none⟩) 0 0) [] :=
  ⟨⟨[], owns_fresh, CellsR.nil⟩, by rw [alloc_hs]; omega⟩
theorem OwnG.rows (h : OwnG e c R w B v l) : Rows w All c R v l := by
  obtain ⟨⟨cells, h1, h2⟩, h3⟩ := h
  exact CellsR.rows h1 h2 rfl
theorem OwnG.slice (h : OwnG e c R w B v l) : ∃ p q, v = .slice p l.length q ∧ l.length ≤ maxLen := by
  obtain ⟨⟨cells, h1, h2⟩, h3⟩ := h
  exact owns_slice h1
/-- append(s, x): x was built in a block of its own just ahead. -/
theorem wpList_append_one {P : Program} {w0 : World} {ops : Array Oper} {rest : List Oper} {o : Oper} {a : Act} {Q : Exit → Act → World → Prop} (hgd : o.guard = none) (s x : Operand) (t : TypeId)
    (ho : o.op = .call { callee := .builtin .append, args := #[s, x], argTypes := #[t, t] })
    (z : Value) (bytes : Nat) (ht : P.underlying t = some (.slice e)) (hi : (P.info? e).map (fun i => (i.zero, i.size, i.bytes)) = some (some z, c, bytes)) (hzs : z.cells.size = c) (hsz : 0 < c)
    (h : OwnG e c R w0 B v l) (cs : Array Value) (q : α) (hq : R cs.toList q) (hc : cs.size = c) (h1 : ∀ u ∈ cs.toList, u.oneCell' = true) (hs : a.eval s = v) (hx : a.eval x = .slice (some ⟨w0.heap.size, 0, none⟩) 1 1)
    (hl : l.length + 1 ≤ 1048576) (hb : bytes ≤ 1000)
    (k : ∀ v' w', OwnG e c R w' B v' (l ++ [q]) → Below B w0 w' → ApartE e w0 w' → wpList P ops Q rest (a.put o.dst v') w') : wpList P ops Q (o :: rest) a (w0.alloc (.cells cs e)) := by
  obtain ⟨i, hi', hz0, hz1, hz2⟩ := info_parts hi
  obtain ⟨⟨cells, g1, g2⟩, g3⟩ := h
  have hal : Below w0.heap.size w0 (w0.alloc (.cells cs e)) := (Below.refl _ _).alloc (Nat.le_refl _) _
  have own := owns_next g1 hal
  refine wpList_append_own _ hgd s x t ho B e i z c bytes ht hi' hz0 hz1 hz2 hzs hsz v l.length cells hs own ⟨w0.heap.size, 0, none⟩ 1 1 cs.toList hx (by simp [hc]) (World.news_of_block (cs := cs) (t := e) (fr := (0, 0)) (heap_alloc_new w0 _)) h1 (by unfold maxLen; omega) (by
    have : (l.length + 1) * bytes ≤ 1048576 * 1000 := Nat.mul_le_mul hl hb
    omega) (by rw [alloc_hs]; omega) ?_
  intro v' w' k1 k2 _
  refine k v' w' ⟨⟨_, by simpa using k1, g2.append (CellsR.one (by simpa using hc) hq)⟩, Nat.le_trans (by rw [alloc_hs]; omega) k2.size⟩ ?_ ((ApartE.of_below hal).trans (ApartE.of_grown own k2))
  exact (hal.mono g3).trans (owns_below own k2 (by rw [alloc_hs]; omega))
/-- append(s, xs...) of a row of the same elements. -/
theorem wpList_append_own_rows {P : Program} {S : Nat → Prop} {ops : Array Oper} {rest : List Oper} {o : Oper} {a : Act} {Q : Exit → Act → World → Prop} (hgd : o.guard = none) (s x : Operand) (t : TypeId)
    (ho : o.op = .call { callee := .builtin .append, args := #[s, x], argTypes := #[t, t] })
    (z : Value) (bytes : Nat) (ht : P.underlying t = some (.slice e)) (hi : (P.info? e).map (fun i => (i.zero, i.size, i.bytes)) = some (some z, c, bytes)) (hzs : z.cells.size = c) (hsz : 0 < c)
    (h : OwnG e c R w B v l) (hs : a.eval s = v) (u : Value) (m : List α) (hx : a.eval x = u) (hr : Rows w S c R u m) (hone : ∀ cs y, R cs y → ∀ q ∈ cs, q.oneCell' = true)
    (hl : l.length + m.length ≤ 1048576) (hb : bytes ≤ 1000)
    (k : ∀ v' w', OwnG e c R w' B v' (l ++ m) → Below B w w' → ApartE e w w' → wpList P ops Q rest (a.put o.dst v') w') : wpList P ops Q (o :: rest) a w := by
  obtain ⟨i, hi', hz0, hz1, hz2⟩ := info_parts hi
  obtain ⟨⟨cells, g1, g2⟩, g3⟩ := h
  refine wpList_append_rows hgd s x t ho B e i z c bytes ht hi' hz0 hz1 hz2 hzs hsz v l.length cells hs g1 u m hx hr hone (by unfold maxLen; omega) (by
    have : (l.length + m.length) * bytes ≤ 1048576 * 1000 := Nat.mul_le_mul hl hb
    omega) g3 ?_
  intro v' w' news hc k1 k2
  exact k v' w' ⟨⟨_, by simpa using k1, g2.append hc⟩, Nat.le_trans g3 k2.size⟩ (owns_below g1 k2 g3) (ApartE.of_grown g1 k2)
/-- append(s, x), and where the row lies behind it: where it lay, or in a new block. -/
theorem wpList_append_lies {P : Program} {w0 : World} {ops : Array Oper} {rest : List Oper} {o : Oper} {a : Act} {Q : Exit → Act → World → Prop} (hgd : o.guard = none) (s x : Operand) (t : TypeId)
    (ho : o.op = .call { callee := .builtin .append, args := #[s, x], argTypes := #[t, t] })
    (z : Value) (bytes : Nat) (ht : P.underlying t = some (.slice e)) (hi : (P.info? e).map (fun i => (i.zero, i.size, i.bytes)) = some (some z, c, bytes)) (hzs : z.cells.size = c) (hsz : 0 < c)
    (h : OwnG e c R w0 B v l) (cs : Array Value) (q : α) (hq : R cs.toList q) (hc : cs.size = c) (h1 : ∀ u ∈ cs.toList, u.oneCell' = true) (hs : a.eval s = v) (hx : a.eval x = .slice (some ⟨w0.heap.size, 0, none⟩) 1 1)
    (hl : l.length + 1 ≤ 1048576) (hb : bytes ≤ 1000)
    (k : ∀ g cap w', OwnG e c R w' B (.slice (some ⟨g, 0, none⟩) (l.length + 1) cap) (l ++ [q]) → Below B w0 w' → ApartE e w0 w' → (v.ownBlock = some g ∨ w0.heap.size ≤ g) → (∀ j, j < w0.heap.size → some j ≠ v.ownBlock → w'.heap[j]? = w0.heap[j]?) → wpList P ops Q rest (a.put o.dst (.slice (some ⟨g, 0, none⟩) (l.length + 1) cap)) w') : wpList P ops Q (o :: rest) a (w0.alloc (.cells cs e)) := by
  obtain ⟨i, hi', hz0, hz1, hz2⟩ := info_parts hi
  obtain ⟨⟨cells, g1, g2⟩, g3⟩ := h
  have hal : Below w0.heap.size w0 (w0.alloc (.cells cs e)) := (Below.refl _ _).alloc (Nat.le_refl _) _
  have own := owns_next g1 hal
  refine wpList_plain hgd fun _ hK => wp_append_lies _ s x t ho B e i z c bytes ht hi' hz0 hz1 hz2 hzs hsz v l.length cells hs own ⟨w0.heap.size, 0, none⟩ 1 1 cs.toList hx (by simp [hc]) (World.news_of_block (cs := cs) (t := e) (fr := (0, 0)) (heap_alloc_new w0 _)) h1 (by omega) (by unfold maxLen; omega) (by
    have : (l.length + 1) * bytes ≤ 1048576 * 1000 := Nat.mul_le_mul hl hb
    omega) (by rw [alloc_hs]; omega) (w0.heap.size + 1) (by rw [alloc_hs]) ?_
  intro g cap w' k1 k2 k3 k4
  refine hK _ _ (k g cap w' ⟨⟨_, by simpa using k1, g2.append (CellsR.one (by simpa using hc) hq)⟩, Nat.le_trans (by rw [alloc_hs]; omega) k2.size⟩ ?_ ((ApartE.of_below hal).trans (ApartE.of_grown own k2)) (k3.imp id (fun e => by omega)) (fun j hj hn => ?_))
  · exact (hal.mono g3).trans (owns_below own k2 (by rw [alloc_hs]; omega))
  · exact (k2.block j (by rw [alloc_hs]; omega) hn).trans (hal.block j hj)
theorem OwnG.setCell {b j : Nat} {cs : Array Value} {t : TypeId} {x : Value} (h : OwnG e c R w B v l) (hb : Blk w b cs t) (ht : t ≠ e) : OwnG e c R (w.setCell ⟨b, j, none⟩ x) B v l := by
  obtain ⟨⟨cells, g1, g2⟩, g3⟩ := h
  refine ⟨⟨cells, ⟨g1.1, ?_⟩, g2⟩, by rw [setCell_hs]; exact g3⟩
  rcases g1.2 with hn | ⟨g, cap, cur, hv, hB, hh, hr⟩
  · exact .inl hn
  · refine .inr ⟨g, cap, cur, hv, hB, (Below.heap_setCell _ _ _ _ (fun e1 => ?_)).trans hh, hr⟩
    have e2 : g = b := e1
    subst e2
    rw [show w.heap[g]? = _ from hb] at hh
    simp at hh
    exact ht hh.2
/-- The same as an arm of a region that draws its order: what is appended lies in the block g. -/
theorem step_append_blk {P : Program} {ops : Array Oper} {o : Oper} {a : Act} {K : Act → World → Prop} {Q : Exit → Act → World → Prop} {E : Prop} (hgd : o.guard = none) (s x : Operand) (t : TypeId)
    (ho : o.op = .call { callee := .builtin .append, args := #[s, x], argTypes := #[t, t] })
    (z : Value) (bytes : Nat) (ht : P.underlying t = some (.slice e)) (hi : (P.info? e).map (fun i => (i.zero, i.size, i.bytes)) = some (some z, c, bytes)) (hzs : z.cells.size = c) (hsz : 0 < c)
    (h : OwnG e c R w B v l) (g : Nat) (cs : Array Value) (hg : w.heap[g]? = some (Obj.cells cs e (0, 0))) (q : α) (hq : R cs.toList q) (hc : cs.size = c) (h1 : ∀ u ∈ cs.toList, u.oneCell' = true) (hs : a.eval s = v) (hx : a.eval x = .slice (some ⟨g, 0, none⟩) 1 1)
    (hl : l.length + 1 ≤ 1048576) (hb : bytes ≤ 1000)
    (k : ∀ v' w', OwnG e c R w' B v' (l ++ [q]) → Below B w w' → ApartE e w w' → K (a.put o.dst v') w') :
    if Region.wanted o (yielded ops a.tmps) = true then Oper.wp P o a w K Q else E := by
  have hw : Region.wanted o (yielded ops a.tmps) = true := by simp [Region.wanted, hgd]
  rw [if_pos hw]
  obtain ⟨i, hi', hz0, hz1, hz2⟩ := info_parts hi
  obtain ⟨⟨cells, g1, g2⟩, g3⟩ := h
  refine wp_append_own w s x t ho B e i z c bytes ht hi' hz0 hz1 hz2 hzs hsz v l.length cells hs g1 ⟨g, 0, none⟩ 1 1 cs.toList hx (by simp [hc]) (World.news_of_block (cs := cs) (t := e) (fr := (0, 0)) hg) h1 (by unfold maxLen; omega) (by
    have : (l.length + 1) * bytes ≤ 1048576 * 1000 := Nat.mul_le_mul hl hb
    omega) g3 ?_
  intro v' w' k1 k2 _
  exact k v' w' ⟨⟨_, by simpa using k1, g2.append (CellsR.one (by simpa using hc) hq)⟩, Nat.le_trans g3 k2.size⟩ (owns_below g1 k2 g3) (ApartE.of_grown g1 k2)
end
end Go.Proofs.YtigfmdfgioccjaaGreatDoor
/-
  Problems: a module's name, a function's with its number, and a code.
-/
namespace Go.Proofs.YtigfmdfgioccjaaGreatDoor
open Go.ChangeShapes Go.WideShapes Go.ChangeAt Go.RowKit
set_option linter.unusedVariables false

structure Pb where
  mod : ByteArray
  name : ByteArray
  arity : Int
  code : ByteArray
def wtPb (q : Pb) : Nat := q.mod.size + q.name.size + q.code.size
/-- Four cells that are a problem. -/
def HPb (cs : List Value) (q : Pb) : Prop := cs = [.string q.mod, .string q.name, .int .i64 q.arity, .string q.code] ∧ okS q.mod ∧ okS q.name ∧ okI q.arity ∧ okS q.code
theorem pb_oneCell (cs : List Value) (q : Pb) (h : HPb cs q) : ∀ u ∈ cs, u.oneCell' = true := by
  obtain ⟨rfl, -⟩ := h
  intro u hu
  simp only [List.mem_cons, List.not_mem_nil, or_false] at hu
  rcases hu with rfl | rfl | rfl | rfl <;> rfl
end Go.Proofs.YtigfmdfgioccjaaGreatDoor
/-
  Structs that lie in boxes: what a call leaves of them; modules, deeper and by their cells.
-/
namespace Go.Proofs.YtigfmdfgioccjaaGreatDoor
open Go.ChangeShapes Go.WideShapes Go.ChangeAt Go.RowKit
set_option linter.unusedVariables false

theorem HFn.deeper {w : World} {S : Nat → Prop} {d d' : Nat} (hd : d ≤ d') {cs : List Value} {f : Fn'} (h : HFn w S d cs f) : HFn w S d' cs f := by
  have hs : SameOn S w w := ⟨Nat.le_refl _, fun _ _ _ => rfl⟩
  obtain ⟨cv, rfl, h1, h2, hc⟩ := h
  exact ⟨cv, rfl, h1, h2, hc.mono hs (fun _ h => h) (fun _ _ _ h => h.mono hs (fun _ h => h) (fun _ _ => HEx.deeper hd))⟩
theorem HMd.deeper {w : World} {S : Nat → Prop} {d d' : Nat} (hd : d ≤ d') {cs : List Value} {m : Md} (h : HMd w S d cs m) : HMd w S d' cs m := by
  have hs : SameOn S w w := ⟨Nat.le_refl _, fun _ _ _ => rfl⟩
  obtain ⟨ev, fv, rfl, h1, he, hf⟩ := h
  exact ⟨ev, fv, rfl, h1, he.mono hs (fun _ h => h) (fun _ _ _ h => h), hf.mono hs (fun _ h => h) (fun _ _ _ h => h.deeper hd)⟩
theorem HMd.shape {w : World} {S : Nat → Prop} {d : Nat} {cs : List Value} {m : Md} (h : HMd w S d cs m) : ∃ s p1 n1 q1 p2 n2 q2, cs = [.string s, .slice p1 n1 q1, .slice p2 n2 q2] := by
  obtain ⟨ev, fv, rfl, _, ⟨p1, c1, rfl, _⟩, ⟨p2, c2, rfl, _⟩⟩ := h
  exact ⟨_, _, _, _, _, _, _, rfl⟩

theorem HMd.agg {w : World} {S : Nat → Prop} {d : Nat} {v : Value} {m : Md} (h : HMd w S d v.cells.toList m) : ∃ cs : List Value, v = .agg cs.toArray ∧ HMd w S d cs m :=
  ⟨v.cells.toList, agg_of_cells rfl (by obtain ⟨_, _, e, _⟩ := h; rw [e]; simp), h⟩
end Go.Proofs.YtigfmdfgioccjaaGreatDoor
/-
  The program's readers of programs, by contract: what is called, offered, wrong.
-/
namespace Go.Proofs.YtigfmdfgioccjaaGreatDoor
open Go.ChangeShapes Go.WideShapes Go.ChangeAt Go.RowKit
set_option linter.unusedVariables false

theorem isPut_any (w : World) (s : ByteArray) (n : Int) :
    Calls Tryz.prog 96 #[.agg #[.string s, .int .i64 n]] w fun e w' => e = .returned (.bool (isPutB s n)) ∧ Below w.heap.size w w' := by
  have BL : Hid (∀ (cs : Array Value) (t : TypeId), Below w.heap.size w (w.alloc (.cells cs t))) := fun cs t => (Below.refl _ _).alloc (Nat.le_refl _) _
  have HV : Hid (isPutB s n = (s.toList == [112, 117, 116] && n == 1)) := rfl
  cases hp : (s.toList == [112, 117, 116]) with
  | false =>
    have hp2 : ¬ s.toList = [112, 117, 116] := by simpa using hp
    go_enter Tryz.func96, Tryz.ntmps96
    go_wp2_with fail
    go_ret
    exact ⟨by rw [HV.out, hp]; rfl, BL.out _ _⟩
  | true =>
    have hp2 : s.toList = [112, 117, 116] := by simpa using hp
    go_enter Tryz.func96, Tryz.ntmps96
    go_wp2_with fail
    go_ret
    exact ⟨by rw [HV.out, hp]; rfl, BL.out _ _⟩

theorem calledRef_any (w : World) (k n : Int) (t m : ByteArray) (p1 p2 : Option Addr) (n1 q1 n2 q2 : Nat) (h1 : n1 ≤ 9223372036854775807) :
    Calls Tryz.prog 95 #[.agg #[.int .i64 k, .int .i64 n, .string t, .string m, .slice p1 n1 q1, .slice p2 n2 q2]] w fun e w' => e = .returned (.agg #[.string t, .int .i64 (n1 : Int)]) ∧ Below w.heap.size w w' := by
  have BL : Hid (∀ (cs : Array Value) (t : TypeId), Below w.heap.size w (w.alloc (.cells cs t))) := fun cs t => (Below.refl _ _).alloc (Nat.le_refl _) _
  have BL2 : Hid (∀ (cs cs' : Array Value) (t t' : TypeId), Below w.heap.size w ((w.alloc (.cells cs t)).alloc (.cells cs' t'))) := fun cs cs' t t' => ((Below.refl _ _).alloc (Nat.le_refl _) _).alloc (by simp) _
  have RB : Hid (∀ (cs : Array Value) (ty : TypeId), Blk ((w.alloc (.cells cs ty)).alloc (.cells #[.string t, .int .i64 (n1 : Int)] 44)) (w.heap.size + 1) #[.string t, .int .i64 (n1 : Int)] 44) := fun cs ty => by
    have := Blk.new (w := w.alloc (.cells cs ty)) (cs := #[.string t, .int .i64 (n1 : Int)]) (t := 44)
    rwa [alloc_hs] at this
  go_enter Tryz.func95, Tryz.ntmps95
  go_wp2_with fail
  have b := RB.out #[.int .i64 k, .int .i64 n, .string t, .string m, .slice p1 n1 q1, .slice p2 n2 q2] 73
  have y0 := b.cell 0 _ rfl
  have y1 := b.cell 1 _ rfl
  exact bodyPost_ret (v := .agg #[.string t, .int .i64 (n1 : Int)]) (by simp [results, Tryz.results95, go_sem, y0, y1]) rfl ⟨rfl, BL2.out _ _ _ _⟩

theorem problemOf_any (w : World) (s : ByteArray) (p1 p2 : Option Addr) (n1 q1 n2 q2 : Nat) (rs : ByteArray) (rn : Int) (c : ByteArray) :
    Calls Tryz.prog 41 #[.agg #[.string s, .slice p1 n1 q1, .slice p2 n2 q2], .agg #[.string rs, .int .i64 rn], .string c] w fun e w' => e = .returned (.agg #[.string s, .string rs, .int .i64 rn, .string c]) ∧ Below w.heap.size w w' := by
  have BL3 : Hid (∀ (cs cs' cs'' : Array Value) (t t' t'' : TypeId), Below w.heap.size w (((w.alloc (.cells cs t)).alloc (.cells cs' t')).alloc (.cells cs'' t''))) := fun cs cs' cs'' t t' t'' => (((Below.refl _ _).alloc (Nat.le_refl _) _).alloc (by simp only [alloc_hs]; omega) _).alloc (by simp only [alloc_hs]; omega) _
  have RB : Hid (∀ (cs cs' : Array Value) (ty ty' : TypeId), Blk (((w.alloc (.cells cs ty)).alloc (.cells cs' ty')).alloc (.cells #[.string s, .string rs, .int .i64 rn, .string c] 47)) (w.heap.size + 1 + 1) #[.string s, .string rs, .int .i64 rn, .string c] 47) := fun cs cs' ty ty' => by
    have := Blk.new (w := (w.alloc (.cells cs ty)).alloc (.cells cs' ty')) (cs := #[.string s, .string rs, .int .i64 rn, .string c]) (t := 47)
    simp only [alloc_hs] at this
    exact this
  go_enter Tryz.func41, Tryz.ntmps41
  go_wp2_with fail
  have b := RB.out #[.string s, .slice p1 n1 q1, .slice p2 n2 q2] #[.string rs, .int .i64 rn] 42 44
  have y0 := b.cell 0 _ rfl
  have y1 := b.cell 1 _ rfl
  have y2 := b.cell 2 _ rfl
  have y3 := b.cell 3 _ rfl
  exact bodyPost_ret (v := .agg #[.string s, .string rs, .int .i64 rn, .string c]) (by simp [results, Tryz.results41, go_sem, y0, y1, y2, y3]) rfl ⟨rfl, BL3.out _ _ _ _ _ _⟩

theorem pbG : Tryz.prog.eqGuardType Tryz.prog.depth 47 = false := by kernel_rfl
theorem pbH : Tryz.prog.stoodInHeld 47 = false := by kernel_rfl
theorem pbU : Tryz.prog.underlying 47 = some (.struct (Tryz.prog.fieldsOf 47)) := by kernel_rfl
theorem pbE (a a' b b' e e' : ByteArray) (n n' : Int) (w : World) : (Op.equalIn 10000 47 (.agg #[.string a, .string b, .int .i64 n, .string e]) (.agg #[.string a', .string b', .int .i64 n', .string e'])).run Tryz.prog w = .ok ((a.toList == a'.toList) && ((b.toList == b'.toList) && ((n == n') && (e.toList == e'.toList)))) w := by
  rw [show (10000 : Nat) = 9999 + 1 from rfl, run_equalIn_struct w 9999 _ _ _ pbU pbH]
  cases h1 : (a.toList == a'.toList) <;> cases h2 : (b.toList == b'.toList) <;> cases h3 : (n == n') <;> cases h4 : (e.toList == e'.toList) <;> simp [go_sem, Program.fieldsOf, Tryz.underlying47, Tryz.underlying3, Tryz.underlying9, Op.eqFields, h1, h2, h3, h4]
def samePb (q x : Pb) : Bool := q.mod.toList == x.mod.toList && (q.name.toList == x.name.toList && (q.arity == x.arity && q.code.toList == x.code.toList))

set_option maxHeartbeats 8000000 in
set_option maxRecDepth 100000 in
theorem indexR_any (w : World) (v : Value) (l : List Rf) (s : ByteArray) (n : Int) (h : Rows w All 2 HRf v l) :
    Calls Tryz.prog 66 #[v, .agg #[.string s, .int .i64 n]] w fun e w' => e = .returned (.int .i64 (findI (sameRf s n) l)) ∧ Below w.heap.size w w' := by
  obtain ⟨p, cap, rfl, hcl, hcm, hx⟩ := h
  have hnb : l.length ≤ 9223372036854775807 := by unfold maxLen at hcm; omega
  generalize hn : l.length = n9 at *
  have HN : Hid (l.length = n9) := hn
  have HX : Hid (l ≠ [] → ∃ g off, p = some ⟨g, off, none⟩ ∧ All g ∧ g < w.heap.size ∧ ∀ i x, l[i]? = some x → ∃ cs, cs.length = 2 ∧ (∀ j, j < 2 → w.cell? ⟨g, off + i * 2 + j, none⟩ = cs[j]?) ∧ HRf cs x) := hx
  obtain ⟨W1, hW1⟩ : ∃ W1, W1 = w.alloc (.cells #[.string s, .int .i64 n] 44) := ⟨_, rfl⟩
  have bA : Hid (Blk W1 w.heap.size #[.string s, .int .i64 n] 44) := by show Blk _ _ _ _; rw [hW1]; exact Blk.new
  have B1 : Hid (Below w.heap.size w W1) := by show Below _ _ _; rw [hW1]; exact (Below.refl _ _).alloc (Nat.le_refl _) _
  have HW1 : Hid (W1 = w.alloc (.cells #[.string s, .int .i64 n] 44)) := hW1
  clear hx hn hW1
  go_enter Tryz.func66, Tryz.ntmps66
  go_wp2_with fail
  rw [← HW1.out]
  go_loopw [8] (fun iv wr => ∃ k : Nat, k ≤ n9 ∧ iv = .int .i64 k ∧ Hid ((l.take k).any (sameRf s n) = false) ∧ Hid (SameOn All W1 wr) ∧ Below w.heap.size w wr) (fun iv _ => n9 - (intOf iv).toNat)
  case atStart => exact ⟨0, Nat.zero_le _, rfl, by show _ = _; simp, ⟨Nat.le_refl _, fun _ _ _ => rfl⟩, B1.out⟩
  case round =>
    obtain ⟨k, hk, rfl, hall, hso, hb⟩ := hrel
    have HB : Hid (Below w.heap.size w wr) := hb
    have bR := bA.out.same_on hso.out
    by_cases hlt : k < n9
    · obtain ⟨x, hxk⟩ : ∃ x, l[k]? = some x := ⟨l[k]'(by rw [HN.out]; exact hlt), List.getElem?_eq_getElem _⟩
      obtain ⟨g, off, rfl, -, hgl, hat⟩ := HX.out (by intro h; rw [h] at hxk; simp at hxk)
      obtain ⟨cs, hcsl, hcs, rfl, -⟩ := hat k x hxk
      have a0 := hcs 0 (by omega)
      have a1 := hcs 1 (by omega)
      rw [← hb.cell (p := ⟨g, _, none⟩) hgl] at a0 a1
      simp at a0 a1
      have hki : (k : Int) < (n9 : Int) := by omega
      have hk0 : (0 : Int) ≤ (k : Int) := by omega
      have hgw : g < wr.heap.size := Nat.lt_of_lt_of_le hgl hb.size
      have l1 := bR.lt
      have y0 := bR.cell 0 _ rfl
      have y1 := bR.cell 1 _ rfl
      have qy0 : ∀ m : Wd (fun w' => SameOn All wr w' ∧ Below w.heap.size w w'), m.val.cell? ⟨w.heap.size, 0, none⟩ = some (.string s) := fun m => (World.cell?_of_block (m.ok.1.2 w.heap.size trivial l1)).trans y0
      have qy1 : ∀ m : Wd (fun w' => SameOn All wr w' ∧ Below w.heap.size w w'), m.val.cell? ⟨w.heap.size, 1, none⟩ = some (.int .i64 n) := fun m => (World.cell?_of_block (m.ok.1.2 w.heap.size trivial l1)).trans y1
      have qz0 : ∀ m : Wd (fun w' => SameOn All wr w' ∧ Below w.heap.size w w'), m.val.cell? ⟨g, off + k * 2, none⟩ = some (.string x.name) := fun m => (World.cell?_of_block (m.ok.1.2 g trivial hgw)).trans a0
      have qz1 : ∀ m : Wd (fun w' => SameOn All wr w' ∧ Below w.heap.size w w'), m.val.cell? ⟨g, off + k * 2 + 1, none⟩ = some (.int .i64 x.arity) := fun m => (World.cell?_of_block (m.ok.1.2 g trivial hgw)).trans a1
      clear hb hcs hat hcsl l1 bR a0 a1 y0 y1
      go_wp2_with fail
      have e1 := refG
      have e2 := refE
      have hCne : Nonempty (Wd (fun w' => SameOn All wr w' ∧ Below w.heap.size w w')) := ⟨⟨wr.drew, ⟨⟨Nat.le_refl _, fun _ _ _ => rfl⟩, HB.out.drew⟩⟩⟩
      refine wp_region_class (fun w' => SameOn All wr w' ∧ Below w.heap.size w w') (by kernel_rfl) (by kernel_rfl) ⟨⟨Nat.le_refl _, fun _ _ _ => rfl⟩, HB.out.drew⟩ ?_
      repeat (go_big_quiet_step (fail))
      refine wpQuiet_nil ?_
      rintro _ ⟨mq, rfl⟩
      have HB4 : Hid (Below w.heap.size w mq.val) := mq.ok.2
      have HS4 : Hid (SameOn All W1 mq.val) := hso.out.trans mq.ok.1
      generalize mq.val = w4 at HB4 HS4 ⊢
      generalize hcv : (s.toList == x.name.toList && n == x.arity) = cv
      have hcf : sameRf s n x = cv := by rw [← hcv]; simp only [sameRf]; congr 1 <;> exact Bool.beq_comm
      clear hcv
      cases cv with
      | false =>
        have HT' : Hid ((l.take (k + 1)).any (sameRf s n) = false) := anyT_succ _ l k _ hxk hall.out hcf
        clear hcf
        go_wp2_with fail
        exact ⟨⟨k + 1, by omega, by go_num, HT'.out, HS4.out, HB4.out⟩, by simp [intOf]; omega⟩
      | true =>
        have HF : Hid (findI (sameRf s n) l = k) := findI_at hall.out hxk hcf
        clear hcf
        go_wp2_with fail
        go_ret
        exact ⟨by rw [HF.out]; rfl, HB4.out⟩
    · have HS : Hid (findI (sameRf s n) l = -1) := findI_none (by
        have := hall.out
        rwa [List.take_of_length_le (by rw [HN.out]; omega)] at this)
      clear bR
      go_wp2
      go_ret
      exact ⟨by rw [HS.out]; rfl, HB.out⟩

set_option maxHeartbeats 4000000 in
theorem containsR_any (w : World) (v : Value) (l : List Rf) (s : ByteArray) (n : Int) (h : Rows w All 2 HRf v l) :
    Calls Tryz.prog 39 #[v, .agg #[.string s, .int .i64 n]] w fun e w' => e = .returned (.bool (l.any (sameRf s n))) ∧ Below w.heap.size w w' := by
  have hb0 : Below w.heap.size w (w.alloc (.cells #[.string s, .int .i64 n] 44)) := (Below.refl _ _).alloc (Nat.le_refl _) _
  have CI : Hid (Calls Tryz.prog 66 #[v, .agg #[.string s, .int .i64 n]] (w.alloc (.cells #[.string s, .int .i64 n] 44)) fun e w' => e = .returned (.int .i64 (findI (sameRf s n) l)) ∧ Below (w.alloc (.cells #[.string s, .int .i64 n] 44)).heap.size (w.alloc (.cells #[.string s, .int .i64 n] 44)) w') := indexR_any _ v l s n (h.mono (SameOn.of_below hb0) (fun _ h => h) (fun _ _ _ h => h))
  have HB0 : Hid (Below w.heap.size w (w.alloc (.cells #[.string s, .int .i64 n] 44))) := hb0
  obtain ⟨p, cap, rfl, -⟩ := h
  clear hb0
  rcases findI_cases (sameRf s n) l with ⟨hf, hfi⟩ | ⟨k, y, hf, -, -, hfi, -⟩
  · have HF : Hid (l.any (sameRf s n) = false) := hf
    rw [hfi] at CI
    clear hf hfi
    go_enter Tryz.func39, Tryz.ntmps39
    go_wp2_with fail
    refine CI.out.mono ?_
    rintro e w1 ⟨rfl, hb⟩
    have B1 : Hid (Below w.heap.size w w1) := HB0.out.trans (hb.mono HB0.out.size)
    clear hb
    go_wp2_with fail
    go_ret
    exact ⟨by rw [HF.out]; rfl, B1.out⟩
  · have HF : Hid (l.any (sameRf s n) = true) := hf
    rw [hfi] at CI
    have hk0 : (0 : Int) ≤ (k : Int) := by omega
    clear hf hfi
    go_enter Tryz.func39, Tryz.ntmps39
    go_wp2_with fail
    refine CI.out.mono ?_
    rintro e w1 ⟨rfl, hb⟩
    have B1 : Hid (Below w.heap.size w w1) := HB0.out.trans (hb.mono HB0.out.size)
    clear hb
    go_wp2_with fail
    go_ret
    exact ⟨by rw [HF.out]; first | rfl | simp, B1.out⟩

set_option maxHeartbeats 8000000 in
set_option maxRecDepth 100000 in
theorem indexP_any (w : World) (v : Value) (l : List Pb) (q : Pb) (h : Rows w All 4 HPb v l) :
    Calls Tryz.prog 98 #[v, .agg #[.string q.mod, .string q.name, .int .i64 q.arity, .string q.code]] w fun e w' => e = .returned (.int .i64 (findI (samePb q) l)) ∧ Below w.heap.size w w' := by
  obtain ⟨p, cap, rfl, hcl, hcm, hx⟩ := h
  have hnb : l.length ≤ 9223372036854775807 := by unfold maxLen at hcm; omega
  generalize hn : l.length = n9 at *
  have HN : Hid (l.length = n9) := hn
  have HX : Hid (l ≠ [] → ∃ g off, p = some ⟨g, off, none⟩ ∧ All g ∧ g < w.heap.size ∧ ∀ i x, l[i]? = some x → ∃ cs, cs.length = 4 ∧ (∀ j, j < 4 → w.cell? ⟨g, off + i * 4 + j, none⟩ = cs[j]?) ∧ HPb cs x) := hx
  obtain ⟨W1, hW1⟩ : ∃ W1, W1 = w.alloc (.cells #[.string q.mod, .string q.name, .int .i64 q.arity, .string q.code] 47) := ⟨_, rfl⟩
  have bA : Hid (Blk W1 w.heap.size #[.string q.mod, .string q.name, .int .i64 q.arity, .string q.code] 47) := by show Blk _ _ _ _; rw [hW1]; exact Blk.new
  have B1 : Hid (Below w.heap.size w W1) := by show Below _ _ _; rw [hW1]; exact (Below.refl _ _).alloc (Nat.le_refl _) _
  have HW1 : Hid (W1 = w.alloc (.cells #[.string q.mod, .string q.name, .int .i64 q.arity, .string q.code] 47)) := hW1
  clear hx hn hW1
  go_enter Tryz.func98, Tryz.ntmps98
  go_wp2_with fail
  rw [← HW1.out]
  go_loopw [8] (fun iv wr => ∃ k : Nat, k ≤ n9 ∧ iv = .int .i64 k ∧ Hid ((l.take k).any (samePb q) = false) ∧ Hid (SameOn All W1 wr) ∧ Below w.heap.size w wr) (fun iv _ => n9 - (intOf iv).toNat)
  case atStart => exact ⟨0, Nat.zero_le _, rfl, by show _ = _; simp, ⟨Nat.le_refl _, fun _ _ _ => rfl⟩, B1.out⟩
  case round =>
    obtain ⟨k, hk, rfl, hall, hso, hb⟩ := hrel
    have HB : Hid (Below w.heap.size w wr) := hb
    have bR := bA.out.same_on hso.out
    by_cases hlt : k < n9
    · obtain ⟨x, hxk⟩ : ∃ x, l[k]? = some x := ⟨l[k]'(by rw [HN.out]; exact hlt), List.getElem?_eq_getElem _⟩
      obtain ⟨g, off, rfl, -, hgl, hat⟩ := HX.out (by intro h; rw [h] at hxk; simp at hxk)
      obtain ⟨cs, hcsl, hcs, rfl, -⟩ := hat k x hxk
      have a0 := hcs 0 (by omega)
      have a1 := hcs 1 (by omega)
      have a2 := hcs 2 (by omega)
      have a3 := hcs 3 (by omega)
      rw [← hb.cell (p := ⟨g, _, none⟩) hgl] at a0 a1 a2 a3
      simp at a0 a1 a2 a3
      have hki : (k : Int) < (n9 : Int) := by omega
      have hk0 : (0 : Int) ≤ (k : Int) := by omega
      have hgw : g < wr.heap.size := Nat.lt_of_lt_of_le hgl hb.size
      have l1 := bR.lt
      have y0 := bR.cell 0 _ rfl
      have y1 := bR.cell 1 _ rfl
      have y2 := bR.cell 2 _ rfl
      have y3 := bR.cell 3 _ rfl
      have qy0 : ∀ m : Wd (fun w' => SameOn All wr w' ∧ Below w.heap.size w w'), m.val.cell? ⟨w.heap.size, 0, none⟩ = some (.string q.mod) := fun m => (World.cell?_of_block (m.ok.1.2 w.heap.size trivial l1)).trans y0
      have qy1 : ∀ m : Wd (fun w' => SameOn All wr w' ∧ Below w.heap.size w w'), m.val.cell? ⟨w.heap.size, 1, none⟩ = some (.string q.name) := fun m => (World.cell?_of_block (m.ok.1.2 w.heap.size trivial l1)).trans y1
      have qy2 : ∀ m : Wd (fun w' => SameOn All wr w' ∧ Below w.heap.size w w'), m.val.cell? ⟨w.heap.size, 2, none⟩ = some (.int .i64 q.arity) := fun m => (World.cell?_of_block (m.ok.1.2 w.heap.size trivial l1)).trans y2
      have qy3 : ∀ m : Wd (fun w' => SameOn All wr w' ∧ Below w.heap.size w w'), m.val.cell? ⟨w.heap.size, 3, none⟩ = some (.string q.code) := fun m => (World.cell?_of_block (m.ok.1.2 w.heap.size trivial l1)).trans y3
      have qz0 : ∀ m : Wd (fun w' => SameOn All wr w' ∧ Below w.heap.size w w'), m.val.cell? ⟨g, off + k * 4, none⟩ = some (.string x.mod) := fun m => (World.cell?_of_block (m.ok.1.2 g trivial hgw)).trans a0
      have qz1 : ∀ m : Wd (fun w' => SameOn All wr w' ∧ Below w.heap.size w w'), m.val.cell? ⟨g, off + k * 4 + 1, none⟩ = some (.string x.name) := fun m => (World.cell?_of_block (m.ok.1.2 g trivial hgw)).trans a1
      have qz2 : ∀ m : Wd (fun w' => SameOn All wr w' ∧ Below w.heap.size w w'), m.val.cell? ⟨g, off + k * 4 + 2, none⟩ = some (.int .i64 x.arity) := fun m => (World.cell?_of_block (m.ok.1.2 g trivial hgw)).trans a2
      have qz3 : ∀ m : Wd (fun w' => SameOn All wr w' ∧ Below w.heap.size w w'), m.val.cell? ⟨g, off + k * 4 + 3, none⟩ = some (.string x.code) := fun m => (World.cell?_of_block (m.ok.1.2 g trivial hgw)).trans a3
      clear hb hcs hat hcsl l1 bR a0 a1 a2 a3 y0 y1 y2 y3
      go_wp2_with fail
      have e1 := pbG
      have e2 := pbE
      have hCne : Nonempty (Wd (fun w' => SameOn All wr w' ∧ Below w.heap.size w w')) := ⟨⟨wr.drew, ⟨⟨Nat.le_refl _, fun _ _ _ => rfl⟩, HB.out.drew⟩⟩⟩
      refine wp_region_class (fun w' => SameOn All wr w' ∧ Below w.heap.size w w') (by kernel_rfl) (by kernel_rfl) ⟨⟨Nat.le_refl _, fun _ _ _ => rfl⟩, HB.out.drew⟩ ?_
      repeat (go_big_quiet_step (fail))
      refine wpQuiet_nil ?_
      rintro _ ⟨mq, rfl⟩
      have HB4 : Hid (Below w.heap.size w mq.val) := mq.ok.2
      have HS4 : Hid (SameOn All W1 mq.val) := hso.out.trans mq.ok.1
      generalize mq.val = w4 at HB4 HS4 ⊢
      generalize hcv : (q.mod.toList == x.mod.toList && (q.name.toList == x.name.toList && (q.arity == x.arity && q.code.toList == x.code.toList))) = cv
      have hcf : samePb q x = cv := by rw [← hcv]; rfl
      clear hcv
      cases cv with
      | false =>
        have HT' : Hid ((l.take (k + 1)).any (samePb q) = false) := anyT_succ _ l k _ hxk hall.out hcf
        clear hcf
        go_wp2_with fail
        exact ⟨⟨k + 1, by omega, by go_num, HT'.out, HS4.out, HB4.out⟩, by simp [intOf]; omega⟩
      | true =>
        have HF : Hid (findI (samePb q) l = k) := findI_at hall.out hxk hcf
        clear hcf
        go_wp2_with fail
        go_ret
        exact ⟨by rw [HF.out]; rfl, HB4.out⟩
    · have HS : Hid (findI (samePb q) l = -1) := findI_none (by
        have := hall.out
        rwa [List.take_of_length_le (by rw [HN.out]; omega)] at this)
      clear bR
      go_wp2
      go_ret
      exact ⟨by rw [HS.out]; rfl, HB.out⟩

set_option maxHeartbeats 4000000 in
theorem containsP_any (w : World) (v : Value) (l : List Pb) (q : Pb) (h : Rows w All 4 HPb v l) :
    Calls Tryz.prog 70 #[v, .agg #[.string q.mod, .string q.name, .int .i64 q.arity, .string q.code]] w fun e w' => e = .returned (.bool (l.any (samePb q))) ∧ Below w.heap.size w w' := by
  have hb0 : Below w.heap.size w (w.alloc (.cells #[.string q.mod, .string q.name, .int .i64 q.arity, .string q.code] 47)) := (Below.refl _ _).alloc (Nat.le_refl _) _
  have CI : Hid (Calls Tryz.prog 98 #[v, .agg #[.string q.mod, .string q.name, .int .i64 q.arity, .string q.code]] (w.alloc (.cells #[.string q.mod, .string q.name, .int .i64 q.arity, .string q.code] 47)) fun e w' => e = .returned (.int .i64 (findI (samePb q) l)) ∧ Below (w.alloc (.cells #[.string q.mod, .string q.name, .int .i64 q.arity, .string q.code] 47)).heap.size (w.alloc (.cells #[.string q.mod, .string q.name, .int .i64 q.arity, .string q.code] 47)) w') := indexP_any _ v l q (h.mono (SameOn.of_below hb0) (fun _ h => h) (fun _ _ _ h => h))
  have HB0 : Hid (Below w.heap.size w (w.alloc (.cells #[.string q.mod, .string q.name, .int .i64 q.arity, .string q.code] 47))) := hb0
  obtain ⟨p, cap, rfl, -⟩ := h
  clear hb0
  rcases findI_cases (samePb q) l with ⟨hf, hfi⟩ | ⟨k, y, hf, -, -, hfi, -⟩
  · have HF : Hid (l.any (samePb q) = false) := hf
    rw [hfi] at CI
    clear hf hfi
    go_enter Tryz.func70, Tryz.ntmps70
    go_wp2_with fail
    refine CI.out.mono ?_
    rintro e w1 ⟨rfl, hb⟩
    have B1 : Hid (Below w.heap.size w w1) := HB0.out.trans (hb.mono HB0.out.size)
    clear hb
    go_wp2_with fail
    go_ret
    exact ⟨by rw [HF.out]; rfl, B1.out⟩
  · have HF : Hid (l.any (samePb q) = true) := hf
    rw [hfi] at CI
    have hk0 : (0 : Int) ≤ (k : Int) := by omega
    clear hf hfi
    go_enter Tryz.func70, Tryz.ntmps70
    go_wp2_with fail
    refine CI.out.mono ?_
    rintro e w1 ⟨rfl, hb⟩
    have B1 : Hid (Below w.heap.size w w1) := HB0.out.trans (hb.mono HB0.out.size)
    clear hb
    go_wp2_with fail
    go_ret
    exact ⟨by rw [HF.out]; first | rfl | simp, B1.out⟩
end Go.Proofs.YtigfmdfgioccjaaGreatDoor
/-
  The program's modules: the one of a name, what it offers; what is wrong with a call.
-/
namespace Go.Proofs.YtigfmdfgioccjaaGreatDoor
open Go.ChangeShapes Go.WideShapes Go.ChangeAt Go.RowKit
set_option linter.unusedVariables false

def modOr (ms : List Md) (s : ByteArray) : Md := (ms.find? (named s)).getD ⟨⟨#[]⟩, [], []⟩
theorem find_at {α : Type} {f : α → Bool} {xs : List α} {k : Nat} {x : α} (h : (xs.take k).any f = false) (hx : xs[k]? = some x) (hf : f x = true) : xs.find? f = some x ∧ xs.any f = true := by
  obtain ⟨hk, he⟩ := List.getElem?_eq_some_iff.1 hx
  refine ⟨?_, List.any_eq_true.2 ⟨x, List.mem_of_getElem? hx, hf⟩⟩
  rw [List.find?_eq_some_iff_getElem]
  refine ⟨hf, k, hk, he, fun j hj => ?_⟩
  have := List.any_eq_false.1 h (xs[j]) (List.mem_of_getElem? (i := j) (by rw [List.getElem?_take, if_pos hj]; exact List.getElem?_eq_getElem _))
  simpa using this

set_option maxHeartbeats 8000000 in
set_option maxRecDepth 100000 in
theorem named_any (d : Nat) (w : World) (v : Value) (ms : List Md) (s : ByteArray) (h : Rows w All 3 (HMd w All d) v ms) :
    Calls Tryz.prog 114 #[v, .string s] w fun e w' => ∃ cs : List Value, e = .returned (.tuple #[.agg cs.toArray, .bool (ms.any (named s))]) ∧ HMd w' All d cs (modOr ms s) ∧ Below w.heap.size w w' := by
  obtain ⟨p, cap, rfl, hcl, hcm, hx⟩ := h
  have hnb : ms.length ≤ 9223372036854775807 := by unfold maxLen at hcm; omega
  generalize hn : ms.length = n at *
  have HN : Hid (ms.length = n) := hn
  have HX : Hid (ms ≠ [] → ∃ g off, p = some ⟨g, off, none⟩ ∧ All g ∧ g < w.heap.size ∧ ∀ i x, ms[i]? = some x → ∃ cs, cs.length = 3 ∧ (∀ j, j < 3 → w.cell? ⟨g, off + i * 3 + j, none⟩ = cs[j]?) ∧ HMd w All d cs x) := hx
  obtain ⟨W1, hW1⟩ : ∃ W1, W1 = w.alloc (.cells #[.string ⟨#[]⟩, .slice none 0 0, .slice none 0 0] 42) := ⟨_, rfl⟩
  have bR : Hid (Blk W1 w.heap.size #[.string ⟨#[]⟩, .slice none 0 0, .slice none 0 0] 42) := by show Blk _ _ _ _; rw [hW1]; exact Blk.new
  have B1 : Hid (Below w.heap.size w W1) := by show Below _ _ _; rw [hW1]; exact (Below.refl _ _).alloc (Nat.le_refl _) _
  have HW1 : Hid (W1 = w.alloc (.cells #[.string ⟨#[]⟩, .slice none 0 0, .slice none 0 0] 42)) := hW1
  clear hx hn hW1
  go_enter Tryz.func114, Tryz.ntmps114
  go_wp2_with fail
  rw [← HW1.out]
  go_loopw [10] (fun iv wr => ∃ k : Nat, k ≤ n ∧ iv = .int .i64 k ∧ Hid ((ms.take k).any (named s) = false) ∧ Hid (SameOn All W1 wr) ∧ Below w.heap.size w wr) (fun iv _ => n - (intOf iv).toNat)
  case atStart => exact ⟨0, Nat.zero_le _, rfl, by show _ = _; simp, ⟨Nat.le_refl _, fun _ _ _ => rfl⟩, B1.out⟩
  case round =>
    obtain ⟨k, hk, rfl, hall, hso, hb⟩ := hrel
    have HB : Hid (Below w.heap.size w wr) := hb
    have bRr : Hid (Blk wr w.heap.size #[.string ⟨#[]⟩, .slice none 0 0, .slice none 0 0] 42) := bR.out.same_on hso.out
    by_cases hlt : k < n
    · obtain ⟨x, hxk⟩ : ∃ x, ms[k]? = some x := ⟨ms[k]'(by rw [HN.out]; exact hlt), List.getElem?_eq_getElem _⟩
      obtain ⟨g, off, rfl, -, hgl, hat⟩ := HX.out (by intro h; rw [h] at hxk; simp at hxk)
      obtain ⟨cs, hcsl, hcs, hm⟩ := hat k x hxk
      have HMX : Hid (∀ w', Below w.heap.size w w' → HMd w' All d cs x) := fun w' hw => hm.mono (SameOn.of_below hw) (fun _ h => h)
      obtain ⟨ev, fv, rfl, -, ⟨pe, ce, rfl, -⟩, ⟨pf, cf, rfl, -⟩⟩ := hm
      have a0 := hcs 0 (by omega)
      have a1 := hcs 1 (by omega)
      have a2 := hcs 2 (by omega)
      rw [← hb.cell (p := ⟨g, _, none⟩) hgl] at a0 a1 a2
      simp at a0 a1 a2
      have hki : (k : Int) < (n : Int) := by omega
      have hk0 : (0 : Int) ≤ (k : Int) := by omega
      have hal : Below wr.heap.size wr (wr.alloc (.cells #[.string x.name, .slice pe x.exports.length ce, .slice pf x.funs.length cf] 42)) := (Below.refl _ _).alloc (Nat.le_refl _) _
      have HAL : Hid (Below wr.heap.size wr (wr.alloc (.cells #[.string x.name, .slice pe x.exports.length ce, .slice pf x.funs.length cf] 42))) := hal
      have HBA : Hid (Below w.heap.size w (wr.alloc (.cells #[.string x.name, .slice pe x.exports.length ce, .slice pf x.funs.length cf] 42))) := hb.trans (hal.mono hb.size)
      have HSA : Hid (SameOn All W1 (wr.alloc (.cells #[.string x.name, .slice pe x.exports.length ce, .slice pf x.funs.length cf] 42))) := hso.out.trans (SameOn.of_below hal)
      have bRa : Hid (Blk (wr.alloc (.cells #[.string x.name, .slice pe x.exports.length ce, .slice pf x.funs.length cf] 42)) w.heap.size #[.string ⟨#[]⟩, .slice none 0 0, .slice none 0 0] 42) := bRr.out.next hal
      have r0 := bRa.out.cell 0 _ rfl
      have r1 := bRa.out.cell 1 _ rfl
      have r2 := bRa.out.cell 2 _ rfl
      have f0 := bRa.out.frozen 0
      have f1 := bRa.out.frozen 1
      have f2 := bRa.out.frozen 2
      clear hcs hat hcsl hal
      cases hq : (x.name.toList == s.toList) with
      | true =>
        obtain ⟨hfd, hany⟩ := find_at hall.out hxk (show named s x = true from hq)
        have HFD : Hid (modOr ms s = x ∧ ms.any (named s) = true) := ⟨by simp [modOr, hfd], hany⟩
        clear hfd hany
        go_wp2_with fail
        have bz : Blk ((((wr.alloc (.cells #[.string x.name, .slice pe x.exports.length ce, .slice pf x.funs.length cf] 42)).setCell ⟨w.heap.size, 0, none⟩ (.string x.name)).setCell ⟨w.heap.size, 1, none⟩ (.slice pe x.exports.length ce)).setCell ⟨w.heap.size, 2, none⟩ (.slice pf x.funs.length cf)) w.heap.size #[.string x.name, .slice pe x.exports.length ce, .slice pf x.funs.length cf] 42 := ((bRa.out.same rfl).same rfl).same rfl
        have hz : Below w.heap.size w ((((wr.alloc (.cells #[.string x.name, .slice pe x.exports.length ce, .slice pf x.funs.length cf] 42)).setCell ⟨w.heap.size, 0, none⟩ (.string x.name)).setCell ⟨w.heap.size, 1, none⟩ (.slice pe x.exports.length ce)).setCell ⟨w.heap.size, 2, none⟩ (.slice pf x.funs.length cf)) := ((HBA.out.setCell (Nat.le_refl _) _).setCell (Nat.le_refl _) _).setCell (Nat.le_refl _) _
        have z0 := bz.cell 0 _ rfl
        have z1 := bz.cell 1 _ rfl
        have z2 := bz.cell 2 _ rfl
        exact bodyPost_ret (v := .tuple #[.agg #[.string x.name, .slice pe x.exports.length ce, .slice pf x.funs.length cf], .bool true]) (by simp [results, Tryz.results114, go_sem, z0, z1, z2]) rfl ⟨_, by rw [HFD.out.2], by rw [HFD.out.1]; exact HMX.out _ hz, hz⟩
      | false =>
        have HT' : Hid ((ms.take (k + 1)).any (named s) = false) := anyT_succ _ ms k _ hxk hall.out hq
        go_wp2_with fail
        exact ⟨⟨k + 1, by omega, by go_num, HT'.out, HSA.out, HBA.out⟩, by simp [intOf]; omega⟩
    · have HS : Hid (ms.any (named s) = false) := by
        have := hall.out
        rwa [List.take_of_length_le (by rw [HN.out]; omega)] at this
      have HMO : Hid (modOr ms s = ⟨⟨#[]⟩, [], []⟩) := by
        have : ms.find? (named s) = none := List.find?_eq_none.2 (fun x hx => by simpa using List.any_eq_false.1 HS.out x hx)
        show _ = _
        simp [modOr, this]
      have r0 := bRr.out.cell 0 _ rfl
      have r1 := bRr.out.cell 1 _ rfl
      have r2 := bRr.out.cell 2 _ rfl
      have f0 := bRr.out.frozen 0
      have f1 := bRr.out.frozen 1
      have f2 := bRr.out.frozen 2
      go_wp2_with fail
      have bz : Blk (((wr.setCell ⟨w.heap.size, 0, none⟩ (.string ⟨#[]⟩)).setCell ⟨w.heap.size, 1, none⟩ (.slice none 0 0)).setCell ⟨w.heap.size, 2, none⟩ (.slice none 0 0)) w.heap.size #[.string ⟨#[]⟩, .slice none 0 0, .slice none 0 0] 42 := ((bRr.out.same rfl).same rfl).same rfl
      have hz : Below w.heap.size w (((wr.setCell ⟨w.heap.size, 0, none⟩ (.string ⟨#[]⟩)).setCell ⟨w.heap.size, 1, none⟩ (.slice none 0 0)).setCell ⟨w.heap.size, 2, none⟩ (.slice none 0 0)) := ((HB.out.setCell (Nat.le_refl _) _).setCell (Nat.le_refl _) _).setCell (Nat.le_refl _) _
      have z0 := bz.cell 0 _ rfl
      have z1 := bz.cell 1 _ rfl
      have z2 := bz.cell 2 _ rfl
      exact bodyPost_ret (v := .tuple #[.agg #[.string ⟨#[]⟩, .slice none 0 0, .slice none 0 0], .bool false]) (by simp [results, Tryz.results114, go_sem, z0, z1, z2]) rfl ⟨[.string ⟨#[]⟩, .slice none 0 0, .slice none 0 0], by rw [HS.out], by rw [HMO.out]; exact ⟨_, _, rfl, by unfold okS; decide, Rows.nil (Nat.zero_le _), Rows.nil (Nat.zero_le _)⟩, hz⟩

theorem offers_eq (ms : List Md) (mod s : ByteArray) (n : Int) : offersB ms mod s n = (ms.any (named mod) && (hasX (modOr ms mod) s n && hasF (modOr ms mod) s n)) := by
  cases h : ms.find? (named mod) with
  | none =>
    have : ms.any (named mod) = false := List.any_eq_false.2 (fun x hx => by simpa using List.find?_eq_none.1 h x hx)
    simp [offersB, h, this]
  | some y =>
    have : ms.any (named mod) = true := List.any_eq_true.2 ⟨y, List.mem_of_find?_eq_some h, List.find?_some h⟩
    simp [offersB, modOr, h, this]

set_option maxHeartbeats 8000000 in
set_option maxRecDepth 100000 in
theorem offers_any (d : Nat) (w : World) (v : Value) (ms : List Md) (mod s : ByteArray) (n : Int) (h : Rows w All 3 (HMd w All d) v ms) :
    Calls Tryz.prog 97 #[v, .string mod, .agg #[.string s, .int .i64 n]] w fun e w' => e = .returned (.bool (offersB ms mod s n)) ∧ Below w.heap.size w w' := by
  have hb0 : Below w.heap.size w (w.alloc (.cells #[.string s, .int .i64 n] 44)) := (Below.refl _ _).alloc (Nat.le_refl _) _
  have HB0 : Hid (Below w.heap.size w (w.alloc (.cells #[.string s, .int .i64 n] 44))) := hb0
  have bR : Hid (Blk (w.alloc (.cells #[.string s, .int .i64 n] 44)) w.heap.size #[.string s, .int .i64 n] 44) := Blk.new
  have HMS : Hid (Rows (w.alloc (.cells #[.string s, .int .i64 n] 44)) All 3 (HMd (w.alloc (.cells #[.string s, .int .i64 n] 44)) All d) v ms) := h.mono (SameOn.of_below hb0) (fun _ h => h) (fun _ _ _ h => h.mono (SameOn.of_below hb0) (fun _ h => h))
  have HV : Hid (offersB ms mod s n = (ms.any (named mod) && (hasX (modOr ms mod) s n && hasF (modOr ms mod) s n))) := offers_eq ms mod s n
  obtain ⟨p, cap, rfl, -⟩ := h
  clear hb0
  go_enter Tryz.func97, Tryz.ntmps97
  go_wp2_with fail
  refine (named_any d _ _ ms mod HMS.out).mono ?_
  rintro e w1 ⟨cs, rfl, hm, hb⟩
  have B1 : Hid (Below w.heap.size w w1) := HB0.out.trans (hb.mono HB0.out.size)
  have bR1 : Hid (Blk w1 w.heap.size #[.string s, .int .i64 n] 44) := bR.out.next hb
  have HM : Hid (∀ w', Below w1.heap.size w1 w' → HMd w' All d cs (modOr ms mod)) := fun w' hw => hm.mono (SameOn.of_below hw) (fun _ h => h)
  obtain ⟨ev, fv, rfl, -, he, hf⟩ := hm
  obtain ⟨pe, ce, rfl, -⟩ := he
  obtain ⟨pf, cf, rfl, -⟩ := hf
  have r0 := bR1.out.cell 0 _ rfl
  have r1 := bR1.out.cell 1 _ rfl
  clear hb
  generalize hmo : modOr ms mod = M at *
  have HX2 : Hid (hasX M s n = M.exports.any (sameRf s n)) := rfl
  have HF2 : Hid (hasF M s n = M.funs.any (sameR ⟨s, n⟩)) := rfl
  have HAL : Hid (Below w1.heap.size w1 (w1.alloc (.cells #[.string M.name, .slice pe M.exports.length ce, .slice pf M.funs.length cf] 42))) := (Below.refl _ _).alloc (Nat.le_refl _) _
  have B2 : Hid (Below w.heap.size w (w1.alloc (.cells #[.string M.name, .slice pe M.exports.length ce, .slice pf M.funs.length cf] 42))) := B1.out.alloc B1.out.size _
  have bR2 : Hid (Blk (w1.alloc (.cells #[.string M.name, .slice pe M.exports.length ce, .slice pf M.funs.length cf] 42)) w.heap.size #[.string s, .int .i64 n] 44) := bR1.out.next HAL.out
  have bM2 : Hid (Blk (w1.alloc (.cells #[.string M.name, .slice pe M.exports.length ce, .slice pf M.funs.length cf] 42)) w1.heap.size #[.string M.name, .slice pe M.exports.length ce, .slice pf M.funs.length cf] 42) := Blk.new
  cases ha : ms.any (named mod) with
  | false =>
    have HV2 : Hid (offersB ms mod s n = false) := by show _ = _; rw [HV.out, ha]; rfl
    go_wp2_with fail
    go_ret
    exact ⟨by rw [HV2.out]; rfl, B2.out⟩
  | true =>
    have HV2 : Hid (offersB ms mod s n = (hasX M s n && hasF M s n)) := by show _ = _; rw [HV.out, ha]; rfl
    clear r0 r1
    have r0 := bR2.out.cell 0 _ rfl
    have r1 := bR2.out.cell 1 _ rfl
    go_wp2_with fail
    clear r0 r1
    obtain ⟨_, _, heq, -, he, -⟩ := HM.out _ HAL.out
    obtain ⟨rfl, rfl⟩ : Value.slice pe M.exports.length ce = _ ∧ Value.slice pf M.funs.length cf = _ := by simpa using heq
    refine (containsR_any _ _ M.exports s n he).mono ?_
    rintro e w3 ⟨rfl, hb⟩
    rw [← HX2.out]
    have B3 : Hid (Below w.heap.size w w3) := B2.out.trans (hb.mono B2.out.size)
    have K3 : Hid (Below w1.heap.size w1 w3) := HAL.out.trans (hb.mono HAL.out.size)
    have bR3 : Hid (Blk w3 w.heap.size #[.string s, .int .i64 n] 44) := bR2.out.next hb
    have bM3 : Hid (Blk w3 w1.heap.size #[.string M.name, .slice pe M.exports.length ce, .slice pf M.funs.length cf] 42) := bM2.out.next hb
    have r0 := bR3.out.cell 0 _ rfl
    have r1 := bR3.out.cell 1 _ rfl
    have m2 := bM3.out.cell 2 _ rfl
    clear hb he heq
    cases hX : hasX M s n with
    | false =>
      have HV3 : Hid (offersB ms mod s n = false) := by show _ = _; rw [HV2.out, hX]; rfl
      go_wp2_with fail
      go_ret
      exact ⟨by rw [HV3.out]; rfl, B3.out⟩
    | true =>
      have HV3 : Hid (offersB ms mod s n = hasF M s n) := by show _ = _; rw [HV2.out, hX]; rfl
      go_wp2_with fail
      obtain ⟨_, _, heq, -, -, hf⟩ := HM.out _ K3.out
      obtain ⟨rfl, rfl⟩ : Value.slice pe M.exports.length ce = _ ∧ Value.slice pf M.funs.length cf = _ := by simpa using heq
      refine (hasFun_any d _ _ M.funs ⟨s, n⟩ hf).mono ?_
      rintro e w4 ⟨rfl, hb⟩
      rw [← HF2.out]
      have B4 : Hid (Below w.heap.size w w4) := B3.out.trans (hb.mono B3.out.size)
      clear hb hf heq
      go_wp2_with fail
      go_ret
      exact ⟨by rw [HV3.out]; first | rfl | simp, B4.out⟩

def codeOf (x : Ex) : ByteArray := if x.mod.toList = [] then cCall else cFar
def wrongB (ms : List Md) (m : Md) (x : Ex) : Bool := if x.mod.toList = [] then (!hasF m x.text x.kids.length && !isPutB x.text x.kids.length) else !offersB ms x.mod x.text x.kids.length
theorem callC_wrong (ms : List Md) (m : Md) (x : Ex) : callC ms m x = if wrongB ms m x then codeOf x else ⟨#[]⟩ := by
  unfold callC wrongB codeOf
  by_cases h : x.mod.toList = []
  · simp only [h, if_true]
    cases hasF m x.text x.kids.length <;> cases isPutB x.text x.kids.length <;> rfl
  · simp only [h, if_false]
    cases offersB ms x.mod x.text x.kids.length <;> rfl

set_option maxHeartbeats 8000000 in
set_option maxRecDepth 100000 in
theorem callProblem_any (d dx : Nat) (w : World) (v : Value) (ms : List Md) (mc : List Value) (m : Md) (cs : List Value) (x : Ex) (h : Rows w All 3 (HMd w All d) v ms) (hm : HMd w All d mc m) (hx : HEx w All dx cs x) :
    Calls Tryz.prog 69 #[.agg #[v], .agg mc.toArray, .agg cs.toArray] w fun e w' => e = .returned (.tuple #[.string (codeOf x), .bool (wrongB ms m x)]) ∧ Below w.heap.size w w' := by
  cases dx with
  | zero => exact hx.elim
  | succ dx =>
  have HMS : Hid (∀ w', Below w.heap.size w w' → Rows w' All 3 (HMd w' All d) v ms) := fun w' hw => h.mono (SameOn.of_below hw) (fun _ h => h) (fun _ _ _ h => h.mono (SameOn.of_below hw) (fun _ h => h))
  obtain ⟨ev, fv, rfl, -, ⟨mpe, mce, rfl, -⟩, hf⟩ := hm
  have HFS : Hid (∀ w', Below w.heap.size w w' → Rows w' All 3 (HFn w' All d) fv m.funs) := fun w' hw => hf.mono (SameOn.of_below hw) (fun _ h => h) (fun _ _ _ h => h.mono (SameOn.of_below hw) (fun _ h => h))
  obtain ⟨mpf, mcf, rfl, -⟩ := hf
  obtain ⟨kx, nx, tx, mx, ks, cl⟩ := x
  obtain ⟨kv, cv, rfl, -, -, -, -, ⟨p1, q1, rfl, hq1, hq2, -⟩, ⟨p2, q2, rfl, -⟩⟩ := hx
  have HC : Hid (codeOf (.mk kx nx tx mx ks cl) = if mx.toList = [] then cCall else cFar) := rfl
  have HWB : Hid (wrongB ms m (.mk kx nx tx mx ks cl) = if mx.toList = [] then (!hasF m tx ks.length && !isPutB tx ks.length) else !offersB ms mx tx ks.length) := rfl
  have HF2 : Hid (hasF m tx ks.length = m.funs.any (sameR ⟨tx, (ks.length : Int)⟩)) := rfl
  simp only [Ex.kind, Ex.n, Ex.text, Ex.mod, Ex.kids, Ex.clauses] at *
  obtain ⟨p, cap, rfl, -⟩ := h
  have hnk : ks.length ≤ 9223372036854775807 := by unfold maxLen at hq2; omega
  generalize codeOf (.mk kx nx tx mx ks cl) = CO at *
  generalize wrongB ms m (.mk kx nx tx mx ks cl) = WB at *
  generalize ms.length = n at *
  generalize m.exports.length = ne at *
  generalize hnf : m.funs.length = nf at *
  generalize ks.length = nk at *
  generalize cl.length = nc at *
  obtain ⟨W3, hW3⟩ : ∃ W3, W3 = ((w.alloc (.cells #[.slice p n cap] 56)).alloc (.cells #[.string m.name, .slice mpe ne mce, .slice mpf nf mcf] 42)).alloc (.cells #[.int .i64 kx, .int .i64 nx, .string tx, .string mx, .slice p1 nk q1, .slice p2 nc q2] 73) := ⟨_, rfl⟩
  have B3 : Hid (Below w.heap.size w W3) := by show Below _ _ _; rw [hW3]; exact (((Below.refl _ _).alloc (Nat.le_refl _) _).alloc (by simp only [alloc_hs]; omega) _).alloc (by simp only [alloc_hs]; omega) _
  have bP : Hid (Blk W3 w.heap.size #[.slice p n cap] 56) := by show Blk _ _ _ _; rw [hW3]; exact Blk.new.alloc.alloc
  have bM : Hid (Blk W3 (w.heap.size + 1) #[.string m.name, .slice mpe ne mce, .slice mpf nf mcf] 42) := by
    show Blk _ _ _ _
    rw [hW3]
    have := Blk.new (w := w.alloc (.cells #[.slice p n cap] 56)) (cs := #[.string m.name, .slice mpe ne mce, .slice mpf nf mcf]) (t := 42)
    simp only [alloc_hs] at this
    exact this.alloc
  have bE : Hid (Blk W3 (w.heap.size + 1 + 1) #[.int .i64 kx, .int .i64 nx, .string tx, .string mx, .slice p1 nk q1, .slice p2 nc q2] 73) := by
    show Blk _ _ _ _
    rw [hW3]
    have := Blk.new (w := (w.alloc (.cells #[.slice p n cap] 56)).alloc (.cells #[.string m.name, .slice mpe ne mce, .slice mpf nf mcf] 42)) (cs := #[.int .i64 kx, .int .i64 nx, .string tx, .string mx, .slice p1 nk q1, .slice p2 nc q2]) (t := 73)
    simp only [alloc_hs] at this
    exact this
  have HW3 : Hid (W3 = ((w.alloc (.cells #[.slice p n cap] 56)).alloc (.cells #[.string m.name, .slice mpe ne mce, .slice mpf nf mcf] 42)).alloc (.cells #[.int .i64 kx, .int .i64 nx, .string tx, .string mx, .slice p1 nk q1, .slice p2 nc q2] 73)) := hW3
  clear hW3 hnf
  by_cases hmx : mx.toList = []
  · have hmb : (mx.toList == ([] : List UInt8)) = true := by rw [hmx]; rfl
    have hmc : mx.toList.isEmpty = true := by rw [hmx]; rfl
    have HC2 : Hid (CO = cCall) := HC.out.trans (if_pos hmx)
    have HWB2 : Hid (WB = (!hasF m tx nk && !isPutB tx nk)) := HWB.out.trans (if_pos hmx)
    clear HC HWB
    go_enter Tryz.func69, Tryz.ntmps69
    go_wp2_with fail
    rw [← HW3.out]
    refine (calledRef_any _ kx nx tx mx p1 p2 nk q1 nc q2 hnk).mono ?_
    rintro e w4 ⟨rfl, hb⟩
    have B4 : Hid (Below w.heap.size w w4) := B3.out.trans (hb.mono B3.out.size)
    have B5 : Hid (Below w.heap.size w (w4.alloc (.cells #[.string tx, .int .i64 (nk : Int)] 44))) := B4.out.alloc B4.out.size _
    have bP5 : Hid (Blk (w4.alloc (.cells #[.string tx, .int .i64 (nk : Int)] 44)) w.heap.size #[.slice p n cap] 56) := (bP.out.next hb).alloc
    have bM5 : Hid (Blk (w4.alloc (.cells #[.string tx, .int .i64 (nk : Int)] 44)) (w.heap.size + 1) #[.string m.name, .slice mpe ne mce, .slice mpf nf mcf] 42) := (bM.out.next hb).alloc
    have bE5 : Hid (Blk (w4.alloc (.cells #[.string tx, .int .i64 (nk : Int)] 44)) (w.heap.size + 1 + 1) #[.int .i64 kx, .int .i64 nx, .string tx, .string mx, .slice p1 nk q1, .slice p2 nc q2] 73) := (bE.out.next hb).alloc
    have bR5 : Hid (Blk (w4.alloc (.cells #[.string tx, .int .i64 (nk : Int)] 44)) w4.heap.size #[.string tx, .int .i64 (nk : Int)] 44) := Blk.new
    have x3 := bE5.out.cell 3 _ rfl
    have x2 := bM5.out.cell 2 _ rfl
    have x0 := bP5.out.cell 0 _ rfl
    have r0 := bR5.out.cell 0 _ rfl
    have r1 := bR5.out.cell 1 _ rfl
    clear hb
    go_wp2_with fail
    clear x3 x2 x0 r0 r1
    refine (hasFun_any d _ _ m.funs ⟨tx, (nk : Int)⟩ (HFS.out _ B5.out)).mono ?_
    rintro e w6 ⟨rfl, hb⟩
    rw [← HF2.out]
    have B6 : Hid (Below w.heap.size w w6) := B5.out.trans (hb.mono B5.out.size)
    have bR6 : Hid (Blk w6 w4.heap.size #[.string tx, .int .i64 (nk : Int)] 44) := bR5.out.next hb
    have r0 := bR6.out.cell 0 _ rfl
    have r1 := bR6.out.cell 1 _ rfl
    clear hb
    cases hF : hasF m tx nk with
    | true =>
      have HWB3 : Hid (WB = false) := by show _ = _; rw [HWB2.out, hF]; rfl
      go_wp2_with fail
      exact bodyPost_ret (v := .tuple #[.string ⟨#[99, 97, 108, 108]⟩, .bool false]) (by simp [results, Tryz.results69, go_sem]) rfl ⟨by rw [HC2.out, HWB3.out]; rfl, B6.out⟩
    | false =>
      have HWB3 : Hid (WB = !isPutB tx nk) := by show _ = _; rw [HWB2.out, hF]; rfl
      go_wp2_with fail
      refine (isPut_any _ tx nk).mono ?_
      rintro e w7 ⟨rfl, hb⟩
      have B7 : Hid (Below w.heap.size w w7) := B6.out.trans (hb.mono B6.out.size)
      clear hb
      go_wp2_with fail
      exact bodyPost_ret (v := .tuple #[.string ⟨#[99, 97, 108, 108]⟩, .bool (!isPutB tx nk)]) (by simp [results, Tryz.results69, go_sem]) rfl ⟨by rw [HC2.out, HWB3.out]; rfl, B7.out⟩
  · have hmb : (mx.toList == ([] : List UInt8)) = false := by simpa using hmx
    have hmc : mx.toList.isEmpty = false := by simpa using hmx
    have HC2 : Hid (CO = cFar) := HC.out.trans (if_neg hmx)
    have HWB2 : Hid (WB = !offersB ms mx tx nk) := HWB.out.trans (if_neg hmx)
    clear HC HWB
    go_enter Tryz.func69, Tryz.ntmps69
    go_wp2_with fail
    rw [← HW3.out]
    refine (calledRef_any _ kx nx tx mx p1 p2 nk q1 nc q2 hnk).mono ?_
    rintro e w4 ⟨rfl, hb⟩
    have B4 : Hid (Below w.heap.size w w4) := B3.out.trans (hb.mono B3.out.size)
    have B5 : Hid (Below w.heap.size w (w4.alloc (.cells #[.string tx, .int .i64 (nk : Int)] 44))) := B4.out.alloc B4.out.size _
    have bP5 : Hid (Blk (w4.alloc (.cells #[.string tx, .int .i64 (nk : Int)] 44)) w.heap.size #[.slice p n cap] 56) := (bP.out.next hb).alloc
    have bM5 : Hid (Blk (w4.alloc (.cells #[.string tx, .int .i64 (nk : Int)] 44)) (w.heap.size + 1) #[.string m.name, .slice mpe ne mce, .slice mpf nf mcf] 42) := (bM.out.next hb).alloc
    have bE5 : Hid (Blk (w4.alloc (.cells #[.string tx, .int .i64 (nk : Int)] 44)) (w.heap.size + 1 + 1) #[.int .i64 kx, .int .i64 nx, .string tx, .string mx, .slice p1 nk q1, .slice p2 nc q2] 73) := (bE.out.next hb).alloc
    have bR5 : Hid (Blk (w4.alloc (.cells #[.string tx, .int .i64 (nk : Int)] 44)) w4.heap.size #[.string tx, .int .i64 (nk : Int)] 44) := Blk.new
    have x3 := bE5.out.cell 3 _ rfl
    have x2 := bM5.out.cell 2 _ rfl
    have x0 := bP5.out.cell 0 _ rfl
    have r0 := bR5.out.cell 0 _ rfl
    have r1 := bR5.out.cell 1 _ rfl
    clear hb
    go_wp2_with fail
    clear x3 x2 x0 r0 r1
    refine (offers_any d _ _ ms mx tx nk (HMS.out _ B5.out)).mono ?_
    rintro e w6 ⟨rfl, hb⟩
    have B6 : Hid (Below w.heap.size w w6) := B5.out.trans (hb.mono B5.out.size)
    clear hb
    go_wp2_with fail
    exact bodyPost_ret (v := .tuple #[.string ⟨#[102, 97, 114]⟩, .bool (!offersB ms mx tx nk)]) (by simp [results, Tryz.results69, go_sem]) rfl ⟨by rw [HC2.out, HWB2.out]; rfl, B6.out⟩
end Go.Proofs.YtigfmdfgioccjaaGreatDoor
/-
  The specification's chapter 4, by contract: l01Has, l04Once, l04PatVars.
-/
namespace Go.Proofs.YtigfmdfgioccjaaGreatDoor
open Go.ChangeShapes Go.WideShapes Go.ChangeAt Go.RowKit
set_option linter.unusedVariables false

theorem anyT_succ' {α : Type} (f : α → Bool) (xs : List α) (k : Nat) (x : α) (h : xs[k]? = some x) (ht : (xs.take k).any f = false) (hx : f x = false) : (xs.take (k + 1)).any f = false := by
  rw [List.take_add_one, h, List.any_append, ht]; simp [hx]
theorem anyT_at' {α : Type} (f : α → Bool) (xs : List α) (k : Nat) (x : α) (h : xs[k]? = some x) (hx : f x = true) : xs.any f = true := by
  rw [List.any_eq_true]; exact ⟨x, List.mem_of_getElem? h, hx⟩

set_option maxHeartbeats 1000000 in
theorem hasS_any (w : World) (v : Value) (xs : List ByteArray) (s : ByteArray) (h : StrR w v xs) :
    Calls Tryz.prog 55 #[v, .string s] w fun e w' => e = .returned (.bool (hasS xs s)) ∧ w' = w := by
  have hv : hasS xs s = xs.any (fun x => x.toList == s.toList) := rfl
  rw [hv]
  clear hv
  obtain ⟨p, cap, rfl, hcl, hcm, hx⟩ := h
  have hnb : xs.length ≤ 9223372036854775807 := by unfold maxLen at hcm; omega
  generalize hn : xs.length = n at *
  have HN : Hid (xs.length = n) := hn
  have HX : Hid (xs ≠ [] → ∃ g off, p = some ⟨g, off, none⟩ ∧ All g ∧ g < w.heap.size ∧ ∀ i x, xs[i]? = some x → ∃ cs, cs.length = 1 ∧ (∀ j, j < 1 → w.cell? ⟨g, off + i * 1 + j, none⟩ = cs[j]?) ∧ HStr cs x) := hx
  clear hx hn
  go_enter Tryz.func55, Tryz.ntmps55
  go_wp2
  go_loop [5] (fun iv => ∃ k : Nat, k ≤ n ∧ iv = .int .i64 k ∧ Hid ((xs.take k).any (fun x => x.toList == s.toList) = false)) (fun iv => n - (intOf iv).toNat)
  case atStart => exact ⟨0, Nat.zero_le _, rfl, by show _ = _; simp⟩
  case round =>
    obtain ⟨k, hk, rfl, hno⟩ := hrel
    by_cases hlt : k < n
    · obtain ⟨x, hxk⟩ : ∃ x, xs[k]? = some x := ⟨xs[k]'(by rw [HN.out]; exact hlt), List.getElem?_eq_getElem _⟩
      obtain ⟨g, off, rfl, -, hgl, hat⟩ := HX.out (by intro h; rw [h] at hxk; simp at hxk)
      obtain ⟨cs, hcsl, hcs, rfl, -⟩ := hat k x hxk
      have a0 := hcs 0 (by omega)
      simp at a0
      have hki : (k : Int) < (n : Int) := by omega
      have hk0 : (0 : Int) ≤ (k : Int) := by omega
      clear hcs hat hcsl
      cases hq : (x.toList == s.toList) with
      | true =>
        have HS : Hid ((xs.any fun x => x.toList == s.toList) = true) := anyT_at' _ xs k x hxk hq
        go_wp2
        go_ret
        exact ⟨by rw [HS.out]; rfl, rfl⟩
      | false =>
        have HS : Hid ((xs.take (k + 1)).any (fun x => x.toList == s.toList) = false) := anyT_succ' _ xs k x hxk hno.out hq
        go_wp2
        go_round
        case rel => exact ⟨k + 1, by omega, by go_num, HS⟩
        case measure => simp [intOf]; omega
    · have HS : Hid ((xs.any fun x => x.toList == s.toList) = false) := by
        have := hno.out
        rwa [List.take_of_length_le (by rw [HN.out]; omega)] at this
      go_wp2
      go_ret
      exact ⟨by rw [HS.out]; rfl, rfl⟩

theorem one_str (W : World) (s : ByteArray) (g : Nat) (hg : g = W.heap.size) : ∀ j u, (strs [s])[j]? = some u → (W.alloc (.cells #[.string s] 9)).cell? ((⟨g, 0, none⟩ : Addr).add j) = some u := by
  subst hg
  intro j u h
  match j, h with
  | 0, h => simp [strs] at h; subst h; rw [Addr.add]; exact cell_new W _ _ 0 _ rfl

set_option maxHeartbeats 4000000 in
set_option maxRecDepth 100000 in
/-- Names with more behind. -/
theorem once_any (w : World) (v1 v2 : Value) (xs ys : List ByteArray) (h1 : StrV w v1 xs) (h2 : StrR w v2 ys) (hl : xs.length + ys.length ≤ 8388608) :
    Calls Tryz.prog 32 #[v1, v2] w fun e w' => ∃ u, e = .returned u ∧ OwnS w' w.heap.size u (onceS xs ys) ∧ Below w.heap.size w w' := by
  obtain ⟨h1, hnil⟩ := h1
  have OX := h1.okS
  have OY := h2.okS
  obtain ⟨p, cap, rfl, hcl, hcm, hx⟩ := h1
  obtain ⟨q, cap', rfl, hcl', hcm', hy⟩ := h2
  obtain ⟨i, hi, hz0, hz1, hz2⟩ := info_parts info_str
  have hlx : xs.length ≤ 8388608 := by omega
  have hly : ys.length ≤ 8388608 := by omega
  have LQ : Hid (∀ k, (onceS xs (ys.take k)).length ≤ 8388608) := fun k => by
    have h3 := onceS_length xs (ys.take k)
    have h4 : (ys.take k).length ≤ ys.length := by rw [List.length_take]; omega
    omega
  have OQ : Hid (∀ k, ∀ x ∈ onceS xs (ys.take k), okS x) := fun k x hx => by
    rcases onceS_mem _ _ x hx with h | h
    · exact OX x h
    · exact OY x (List.mem_of_mem_take h)
  have HY : Hid (ys ≠ [] → ∃ g off, q = some ⟨g, off, none⟩ ∧ All g ∧ g < w.heap.size ∧ ∀ i x, ys[i]? = some x → ∃ cs, cs.length = 1 ∧ (∀ j, j < 1 → w.cell? ⟨g, off + i * 1 + j, none⟩ = cs[j]?) ∧ HStr cs x) := hy
  have O0 : Hid (OwnS (w.alloc (.cells #[] 9)) w.heap.size (.slice (some ⟨w.heap.size, 0, none⟩) 0 0) []) := OwnS.fresh
  have BL : Hid (Below w.heap.size w (w.alloc (.cells #[] 9))) := (Below.refl _ _).alloc (Nat.le_refl _) _
  have HC : Hid (∀ a, p = some a → ∀ j u, (strs xs)[j]? = some u → (w.alloc (.cells #[] 9)).cell? (a.add j) = some u) := fun a ha j u hj => by
    have hne : xs ≠ [] := by intro e; rw [e] at hj; simp [strs] at hj
    obtain ⟨g, off, hp, -, hgl, hat⟩ := hx hne
    have hj' := hj
    simp only [strs, List.getElem?_map, Option.map_eq_some_iff] at hj'
    obtain ⟨x, hxj, rfl⟩ := hj'
    obtain ⟨cs, _, hcs, rfl, _⟩ := hat j x hxj
    have h0 := hcs 0 (by omega)
    rw [hp] at ha
    obtain rfl := Option.some.inj ha
    have e1 : (⟨g, off, none⟩ : Addr).add j = ⟨g, off + j * 1 + 0, none⟩ := by simp [Addr.add]
    rw [e1, BL.out.cell (p := ⟨g, _, none⟩) hgl]
    exact h0
  generalize hn : ys.length = n at *
  have HN : Hid (ys.length = n) := hn
  clear hy OX OY hx hn
  cases p with
  | none =>
    have hxs : xs = [] := by
      have := hnil _ _ rfl
      simp only [Value.slice.injEq, true_and] at this
      exact List.length_eq_zero_iff.1 this.1
    have hcz : cap = 0 := by
      have := hnil _ _ rfl
      simp only [Value.slice.injEq, true_and] at this
      exact this.2
    subst hxs hcz
    simp only [List.length_nil] at *
    clear hnil
    go_enter Tryz.func32, Tryz.ntmps32
    go_wp2_with (first | (at_builtin; refine wpList_append_own_none rfl _ _ 48 rfl w.heap.size 9 i 1 Tryz.underlying48 hi _ _ _ rfl O0.out.1 rfl ?_))
    have HO1 := O0
    have HB1 := BL
    go_wp2_with fail
    go_loopw [5, 6] (fun ov iv wr => ∃ k : Nat, k ≤ n ∧ iv = .int .i64 k ∧ Hid (OwnS wr w.heap.size ov (onceS [] (ys.take k))) ∧ Below w.heap.size w wr) (fun _ iv _ => n - (intOf iv).toNat)
    case atStart => exact ⟨0, Nat.zero_le _, rfl, HO1.out, HB1.out⟩
    case round =>
      obtain ⟨k, hk, rfl, ho, hb⟩ := hrel
      have HB : Hid (Below w.heap.size w wr) := hb
      by_cases hlt : k < n
      · obtain ⟨y, hyk⟩ : ∃ y, ys[k]? = some y := ⟨ys[k]'(by rw [HN.out]; exact hlt), List.getElem?_eq_getElem _⟩
        obtain ⟨g, off, rfl, -, hgl, hat⟩ := HY.out (by intro h; rw [h] at hyk; simp at hyk)
        obtain ⟨cs, hcsl, hcs, rfl, -⟩ := hat k y hyk
        have a0 := hcs 0 (by omega)
        rw [← hb.cell (p := ⟨g, _, none⟩) hgl] at a0
        simp at a0
        have hki : (k : Int) < (n : Int) := by omega
        have hk0 : (0 : Int) ≤ (k : Int) := by omega
        have HJ : Hid (onceS [] (ys.take (k + 1)) = if hasS (onceS [] (ys.take k)) y then onceS [] (ys.take k) else onceS [] (ys.take k) ++ [y]) := by
          show _ = _
          rw [List.take_add_one, hyk]
          exact onceS_snoc [] (ys.take k) y
        have lq := LQ.out k
        have oq := OQ.out k
        have SR : Hid (StrR wr u5 (onceS [] (ys.take k))) := ho.out.strR oq
        generalize hJ0 : onceS [] (ys.take k) = J at *
        clear hb hcs hat hcsl oq hJ0
        cases hq : hasS J y with
        | true =>
          have HJ2 : Hid (onceS [] (ys.take (k + 1)) = J) := by show _ = _; rw [HJ.out, hq]; rfl
          go_wp2_with (first | (go_at_call 55; go_must (refine (hasS_any _ _ _ _ SR.out).mono ?_; rintro e w9 ⟨rfl, hw9⟩; rw [hq, hw9]; clear hw9 w9)))
          exact ⟨⟨k + 1, by omega, by go_num, by show OwnS _ _ _ _; rw [HJ2.out]; exact ho.out, HB.out⟩, by simp [intOf]; omega⟩
        | false =>
          have HJ2 : Hid (onceS [] (ys.take (k + 1)) = J ++ [y]) := by show _ = _; rw [HJ.out, hq]; rfl
          have OA : Hid (OwnS (wr.alloc (.cells #[.string y] 9)) w.heap.size u5 J) := ho.out.next ((Below.refl _ _).alloc (Nat.le_refl _) _)
          have N1 : Hid (∀ j u, (strs [y])[j]? = some u → (wr.alloc (.cells #[.string y] 9)).cell? ((⟨wr.heap.size, 0, none⟩ : Addr).add j) = some u) := one_str wr y _ rfl
          have BA : Hid (Below w.heap.size w (wr.alloc (.cells #[.string y] 9))) := HB.out.alloc HB.out.size _
          go_wp2_with (first | (go_at_call 55; go_must (refine (hasS_any _ _ _ _ SR.out).mono ?_; rintro e w9 ⟨rfl, hw9⟩; rw [hq, hw9]; clear hw9 w9)) | (at_builtin; refine wpList_append_own _ rfl _ _ 48 rfl w.heap.size 9 i (.string ⟨#[]⟩) 1 16 Tryz.underlying48 hi hz0 hz1 hz2 rfl (by decide) u5 _ _ rfl OA.out.1 _ 1 1 (strs [y]) rfl rfl N1.out (strs_oneCell _) (by unfold maxLen; omega) (by omega) OA.out.2 ?_))
          intro u2 w2 hown2 hgr2 _
          have HO2 : Hid (OwnS w2 w.heap.size u2 (J ++ [y])) := OwnS.of hown2 (by simp) rfl (Nat.le_trans OA.out.2 hgr2.size)
          have HB2 : Hid (Below w.heap.size w w2) := BA.out.trans (OA.out.below hgr2)
          clear hown2 hgr2
          go_wp2_with fail
          exact ⟨⟨k + 1, by omega, by go_num, by show OwnS _ _ _ _; rw [HJ2.out]; exact HO2.out, HB2.out⟩, by simp [intOf]; omega⟩
      · have HS : Hid (OwnS wr w.heap.size u5 (onceS [] ys)) := by
          have := ho.out
          rwa [List.take_of_length_le (by rw [HN.out]; omega)] at this
        clear hb
        go_wp2_with fail
        go_ret
        exact ⟨u5, rfl, HS.out, HB.out⟩
  | some a =>
    go_enter Tryz.func32, Tryz.ntmps32
    go_wp2_with (first | (at_builtin; refine wpList_append_own _ rfl _ _ 48 rfl w.heap.size 9 i (.string ⟨#[]⟩) 1 16 Tryz.underlying48 hi hz0 hz1 hz2 rfl (by decide) _ _ _ rfl O0.out.1 a xs.length cap (strs xs) rfl (by rw [strs_length]; omega) (HC.out a rfl) (strs_oneCell _) (by unfold maxLen; simp only [List.length_nil]; omega) (by simp only [List.length_nil]; omega) O0.out.2 ?_))
    intro u1 w1 hown1 hgr1 _
    have HO1 : Hid (OwnS w1 w.heap.size u1 xs) := by
      have := OwnS.of (l := []) (m := xs) hown1 (by simp) (by simp [strs]) (Nat.le_trans O0.out.2 hgr1.size)
      show OwnS _ _ _ _
      simpa using this
    have HB1 : Hid (Below w.heap.size w w1) := BL.out.trans (O0.out.below hgr1)
    clear hown1 hgr1
    go_wp2_with fail
    go_loopw [5, 6] (fun ov iv wr => ∃ k : Nat, k ≤ n ∧ iv = .int .i64 k ∧ Hid (OwnS wr w.heap.size ov (onceS xs (ys.take k))) ∧ Below w.heap.size w wr) (fun _ iv _ => n - (intOf iv).toNat)
    case atStart => exact ⟨0, Nat.zero_le _, rfl, HO1.out, HB1.out⟩
    case round =>
      obtain ⟨k, hk, rfl, ho, hb⟩ := hrel
      have HB : Hid (Below w.heap.size w wr) := hb
      by_cases hlt : k < n
      · obtain ⟨y, hyk⟩ : ∃ y, ys[k]? = some y := ⟨ys[k]'(by rw [HN.out]; exact hlt), List.getElem?_eq_getElem _⟩
        obtain ⟨g, off, rfl, -, hgl, hat⟩ := HY.out (by intro h; rw [h] at hyk; simp at hyk)
        obtain ⟨cs, hcsl, hcs, rfl, -⟩ := hat k y hyk
        have a0 := hcs 0 (by omega)
        rw [← hb.cell (p := ⟨g, _, none⟩) hgl] at a0
        simp at a0
        have hki : (k : Int) < (n : Int) := by omega
        have hk0 : (0 : Int) ≤ (k : Int) := by omega
        have HJ : Hid (onceS xs (ys.take (k + 1)) = if hasS (onceS xs (ys.take k)) y then onceS xs (ys.take k) else onceS xs (ys.take k) ++ [y]) := by
          show _ = _
          rw [List.take_add_one, hyk]
          exact onceS_snoc xs (ys.take k) y
        have lq := LQ.out k
        have oq := OQ.out k
        have SR : Hid (StrR wr u5 (onceS xs (ys.take k))) := ho.out.strR oq
        generalize hJ0 : onceS xs (ys.take k) = J at *
        clear hb hcs hat hcsl oq hJ0
        cases hq : hasS J y with
        | true =>
          have HJ2 : Hid (onceS xs (ys.take (k + 1)) = J) := by show _ = _; rw [HJ.out, hq]; rfl
          go_wp2_with (first | (go_at_call 55; go_must (refine (hasS_any _ _ _ _ SR.out).mono ?_; rintro e w9 ⟨rfl, hw9⟩; rw [hq, hw9]; clear hw9 w9)))
          exact ⟨⟨k + 1, by omega, by go_num, by show OwnS _ _ _ _; rw [HJ2.out]; exact ho.out, HB.out⟩, by simp [intOf]; omega⟩
        | false =>
          have HJ2 : Hid (onceS xs (ys.take (k + 1)) = J ++ [y]) := by show _ = _; rw [HJ.out, hq]; rfl
          have OA : Hid (OwnS (wr.alloc (.cells #[.string y] 9)) w.heap.size u5 J) := ho.out.next ((Below.refl _ _).alloc (Nat.le_refl _) _)
          have N1 : Hid (∀ j u, (strs [y])[j]? = some u → (wr.alloc (.cells #[.string y] 9)).cell? ((⟨wr.heap.size, 0, none⟩ : Addr).add j) = some u) := one_str wr y _ rfl
          have BA : Hid (Below w.heap.size w (wr.alloc (.cells #[.string y] 9))) := HB.out.alloc HB.out.size _
          go_wp2_with (first | (go_at_call 55; go_must (refine (hasS_any _ _ _ _ SR.out).mono ?_; rintro e w9 ⟨rfl, hw9⟩; rw [hq, hw9]; clear hw9 w9)) | (at_builtin; refine wpList_append_own _ rfl _ _ 48 rfl w.heap.size 9 i (.string ⟨#[]⟩) 1 16 Tryz.underlying48 hi hz0 hz1 hz2 rfl (by decide) u5 _ _ rfl OA.out.1 _ 1 1 (strs [y]) rfl rfl N1.out (strs_oneCell _) (by unfold maxLen; omega) (by omega) OA.out.2 ?_))
          intro u2 w2 hown2 hgr2 _
          have HO2 : Hid (OwnS w2 w.heap.size u2 (J ++ [y])) := OwnS.of hown2 (by simp) rfl (Nat.le_trans OA.out.2 hgr2.size)
          have HB2 : Hid (Below w.heap.size w w2) := BA.out.trans (OA.out.below hgr2)
          clear hown2 hgr2
          go_wp2_with fail
          exact ⟨⟨k + 1, by omega, by go_num, by show OwnS _ _ _ _; rw [HJ2.out]; exact HO2.out, HB2.out⟩, by simp [intOf]; omega⟩
      · have HS : Hid (OwnS wr w.heap.size u5 (onceS xs ys)) := by
          have := ho.out
          rwa [List.take_of_length_le (by rw [HN.out]; omega)] at this
        clear hb
        go_wp2_with fail
        go_ret
        exact ⟨u5, rfl, HS.out, HB.out⟩
end Go.Proofs.YtigfmdfgioccjaaGreatDoor
/-
  The specification's readers of programs, by contract: a module by its name, a function, an export.
-/
namespace Go.Proofs.YtigfmdfgioccjaaGreatDoor
open Go.ChangeShapes Go.WideShapes Go.ChangeAt Go.RowKit
set_option linter.unusedVariables false

set_option maxHeartbeats 4000000 in
theorem l05Mod_any (d : Nat) (w : World) (v : Value) (ms : List Md) (s : ByteArray) (h : Rows w All 3 (HMd w All d) v ms) :
    Calls Tryz.prog 81 #[v, .string s] w fun e w' => e = .returned (.int .i64 (findI (named s) ms)) ∧ w' = w := by
  obtain ⟨p, cap, rfl, hcl, hcm, hx⟩ := h
  have hnb : ms.length ≤ 9223372036854775807 := by unfold maxLen at hcm; omega
  generalize hn : ms.length = n at *
  have HN : Hid (ms.length = n) := hn
  have HX : Hid (ms ≠ [] → ∃ g off, p = some ⟨g, off, none⟩ ∧ All g ∧ g < w.heap.size ∧ ∀ i x, ms[i]? = some x → ∃ cs, cs.length = 3 ∧ (∀ j, j < 3 → w.cell? ⟨g, off + i * 3 + j, none⟩ = cs[j]?) ∧ HMd w All d cs x) := hx
  clear hx hn
  go_enter Tryz.func81, Tryz.ntmps81
  go_wp2
  go_loop [5] (fun iv => ∃ k : Nat, k ≤ n ∧ iv = .int .i64 k ∧ Hid ((ms.take k).any (named s) = false)) (fun iv => n - (intOf iv).toNat)
  case atStart => exact ⟨0, Nat.zero_le _, rfl, by show _ = _; simp⟩
  case round =>
    obtain ⟨k, hk, rfl, hno⟩ := hrel
    by_cases hlt : k < n
    · obtain ⟨x, hxk⟩ : ∃ x, ms[k]? = some x := ⟨ms[k]'(by rw [HN.out]; exact hlt), List.getElem?_eq_getElem _⟩
      obtain ⟨g, off, rfl, -, hgl, hat⟩ := HX.out (by intro h; rw [h] at hxk; simp at hxk)
      obtain ⟨cs, hcsl, hcs, ev, fv, rfl, -⟩ := hat k x hxk
      have a0 := hcs 0 (by omega)
      simp at a0
      have hki : (k : Int) < (n : Int) := by omega
      have hk0 : (0 : Int) ≤ (k : Int) := by omega
      clear hcs hat hcsl
      cases hq : (x.name.toList == s.toList) with
      | true =>
        have HS : Hid (findI (named s) ms = k) := findI_at hno.out hxk hq
        go_wp2
        go_ret
        exact ⟨by rw [HS.out]; rfl, rfl⟩
      | false =>
        have HS : Hid ((ms.take (k + 1)).any (named s) = false) := anyT_succ' _ ms k x hxk hno.out hq
        go_wp2
        go_round
        case rel => exact ⟨k + 1, by omega, by go_num, HS⟩
        case measure => simp [intOf]; omega
    · have HS : Hid (findI (named s) ms = -1) := findI_none (by
        have := hno.out
        rwa [List.take_of_length_le (by rw [HN.out]; omega)] at this)
      go_wp2
      go_ret
      exact ⟨by rw [HS.out]; rfl, rfl⟩

set_option maxHeartbeats 8000000 in
set_option maxRecDepth 100000 in
theorem l02FindI_any (d : Nat) (w : World) (cs : List Value) (m : Md) (rs : ByteArray) (rn : Int) (h : HMd w All d cs m) :
    Calls Tryz.prog 18 #[.agg cs.toArray, .string rs, .int .i64 rn] w fun e w' => e = .returned (.int .i64 (findI (sameR ⟨rs, rn⟩) m.funs)) ∧ Below w.heap.size w w' := by
  obtain ⟨ev, fv, rfl, hs, ⟨pe, ce, rfl, -⟩, h⟩ := h
  obtain ⟨ms, es, fs⟩ := m
  simp only at *
  obtain ⟨pf, cf, rfl, hcl, hcm, hx⟩ := h
  have hnb : fs.length ≤ 9223372036854775807 := by unfold maxLen at hcm; omega
  generalize hn : fs.length = nf at *
  generalize es.length = ne at *
  have HN : Hid (fs.length = nf) := hn
  have HX : Hid (fs ≠ [] → ∃ g off, pf = some ⟨g, off, none⟩ ∧ All g ∧ g < w.heap.size ∧ ∀ i x, fs[i]? = some x → ∃ cs, cs.length = 3 ∧ (∀ j, j < 3 → w.cell? ⟨g, off + i * 3 + j, none⟩ = cs[j]?) ∧ HFn w All d cs x) := hx
  obtain ⟨W1, hW1⟩ : ∃ W1, W1 = w.alloc (.cells #[.string ms, .slice pe ne ce, .slice pf nf cf] 42) := ⟨_, rfl⟩
  have bA : Hid (Blk W1 w.heap.size #[.string ms, .slice pe ne ce, .slice pf nf cf] 42) := by show Blk _ _ _ _; rw [hW1]; exact Blk.new
  have B1 : Hid (Below w.heap.size w W1) := by show Below _ _ _; rw [hW1]; exact (Below.refl _ _).alloc (Nat.le_refl _) _
  have xa2 := bA.out.cell 2 _ rfl
  have HW1 : Hid (W1 = w.alloc (.cells #[.string ms, .slice pe ne ce, .slice pf nf cf] 42)) := hW1
  clear hx hn hW1
  go_enter Tryz.func18, Tryz.ntmps18
  go_wp2_with fail
  rw [← HW1.out]
  go_loop [7] (fun iv => ∃ k : Nat, k ≤ nf ∧ iv = .int .i64 k ∧ Hid ((fs.take k).any (sameR ⟨rs, rn⟩) = false)) (fun iv => nf - (intOf iv).toNat)
  case atStart => exact ⟨0, Nat.zero_le _, rfl, by show _ = _; simp⟩
  case round =>
    obtain ⟨k, hk, rfl, hall⟩ := hrel
    by_cases hlt : k < nf
    · obtain ⟨x, hxk⟩ : ∃ x, fs[k]? = some x := ⟨fs[k]'(by rw [HN.out]; exact hlt), List.getElem?_eq_getElem _⟩
      obtain ⟨g, off, rfl, -, hgl, hat⟩ := HX.out (by intro h; rw [h] at hxk; simp at hxk)
      obtain ⟨cs, hcsl, hcs, r1⟩ := hat k x hxk
      obtain ⟨p1, n1, q1, rfl⟩ := fnShape r1
      have HC2 : Hid (sameR ⟨rs, rn⟩ x = false → (fs.take (k + 1)).any (sameR ⟨rs, rn⟩) = false) := fun h => anyT_succ _ fs k _ hxk hall.out h
      have HC3 : Hid (sameR ⟨rs, rn⟩ x = true → findI (sameR ⟨rs, rn⟩) fs = k) := fun h => findI_at hall.out hxk h
      obtain ⟨xs, xn, xc⟩ := x
      simp only at *
      have hsm : sameR ⟨rs, rn⟩ ⟨xs, xn, xc⟩ = (xs.toList == rs.toList && xn == rn) := rfl
      rw [hsm] at HC2 HC3
      have a0 := hcs 0 (by omega)
      have a1 := hcs 1 (by omega)
      have a2 := hcs 2 (by omega)
      rw [← B1.out.cell (p := ⟨g, _, none⟩) hgl] at a0 a1 a2
      simp at a0 a1 a2
      have hki : (k : Int) < (nf : Int) := by omega
      have hk0 : (0 : Int) ≤ (k : Int) := by omega
      clear hcs hat hcsl r1 hsm
      cases c1 : (xs.toList == rs.toList) with
      | false =>
        have HT' : Hid ((fs.take (k + 1)).any (sameR ⟨rs, rn⟩) = false) := HC2.out (by rw [c1]; rfl)
        clear HC2 HC3
        go_wp2
        go_round
        case rel => exact ⟨k + 1, by omega, by go_num, HT'⟩
        case measure => simp [intOf]; omega
      | true =>
        cases c2 : (xn == rn) with
        | false =>
          have HT' : Hid ((fs.take (k + 1)).any (sameR ⟨rs, rn⟩) = false) := HC2.out (by rw [c2, Bool.and_false])
          clear HC2 HC3
          go_wp2
          go_round
          case rel => exact ⟨k + 1, by omega, by go_num, HT'⟩
          case measure => simp [intOf]; omega
        | true =>
          have HF : Hid (findI (sameR ⟨rs, rn⟩) fs = k) := HC3.out (by rw [c1, c2]; rfl)
          clear HC2 HC3
          go_wp2
          go_ret
          exact ⟨by rw [HF.out]; rfl, B1.out⟩
    · have HS : Hid (findI (sameR ⟨rs, rn⟩) fs = -1) := findI_none (by
        have := hall.out
        rwa [List.take_of_length_le (by rw [HN.out]; omega)] at this)
      go_wp2
      go_ret
      exact ⟨by rw [HS.out]; rfl, B1.out⟩

set_option maxHeartbeats 8000000 in
set_option maxRecDepth 100000 in
theorem l05Exported_any (d : Nat) (w : World) (cs : List Value) (m : Md) (rs : ByteArray) (rn : Int) (h : HMd w All d cs m) :
    Calls Tryz.prog 82 #[.agg cs.toArray, .agg #[.string rs, .int .i64 rn]] w fun e w' => e = .returned (.bool (hasX m rs rn)) ∧ Below w.heap.size w w' := by
  obtain ⟨ev, fv, rfl, hs, h, ⟨pf, cf, rfl, -⟩⟩ := h
  obtain ⟨ms, es, fs⟩ := m
  have hv : hasX ⟨ms, es, fs⟩ rs rn = es.any (sameRf rs rn) := rfl
  rw [hv]
  clear hv
  simp only at *
  obtain ⟨pe, ce, rfl, hcl, hcm, hx⟩ := h
  have hnb : es.length ≤ 9223372036854775807 := by unfold maxLen at hcm; omega
  generalize hn : es.length = ne at *
  generalize fs.length = nf at *
  have HN : Hid (es.length = ne) := hn
  have HX : Hid (es ≠ [] → ∃ g off, pe = some ⟨g, off, none⟩ ∧ All g ∧ g < w.heap.size ∧ ∀ i x, es[i]? = some x → ∃ cs, cs.length = 2 ∧ (∀ j, j < 2 → w.cell? ⟨g, off + i * 2 + j, none⟩ = cs[j]?) ∧ HRf cs x) := hx
  obtain ⟨W1, hW1⟩ : ∃ W1, W1 = (w.alloc (.cells #[.string ms, .slice pe ne ce, .slice pf nf cf] 42)).alloc (.cells #[.string rs, .int .i64 rn] 44) := ⟨_, rfl⟩
  have bA : Hid (Blk W1 w.heap.size #[.string ms, .slice pe ne ce, .slice pf nf cf] 42) := by show Blk _ _ _ _; rw [hW1]; exact Blk.new.alloc
  have bB : Hid (Blk W1 (w.heap.size + 1) #[.string rs, .int .i64 rn] 44) := by
    show Blk _ _ _ _
    rw [hW1]
    have := Blk.new (w := w.alloc (.cells #[.string ms, .slice pe ne ce, .slice pf nf cf] 42)) (cs := #[.string rs, .int .i64 rn]) (t := 44)
    rwa [alloc_hs] at this
  have B1 : Hid (Below w.heap.size w W1) := by show Below _ _ _; rw [hW1]; exact ((Below.refl _ _).alloc (Nat.le_refl _) _).alloc (by simp only [alloc_hs]; omega) _
  have xa1 := bA.out.cell 1 _ rfl
  have xb0 := bB.out.cell 0 _ rfl
  have xb1 := bB.out.cell 1 _ rfl
  have HW1 : Hid (W1 = (w.alloc (.cells #[.string ms, .slice pe ne ce, .slice pf nf cf] 42)).alloc (.cells #[.string rs, .int .i64 rn] 44)) := hW1
  clear hx hn hW1
  go_enter Tryz.func82, Tryz.ntmps82
  go_wp2_with fail
  rw [← HW1.out]
  go_loopw [5] (fun iv wr => ∃ k : Nat, k ≤ ne ∧ iv = .int .i64 k ∧ Hid ((es.take k).any (sameRf rs rn) = false) ∧ Hid (SameOn All W1 wr) ∧ Below w.heap.size w wr) (fun iv _ => ne - (intOf iv).toNat)
  case atStart => exact ⟨0, Nat.zero_le _, rfl, by show _ = _; simp, ⟨Nat.le_refl _, fun _ _ _ => rfl⟩, B1.out⟩
  case round =>
    obtain ⟨k, hk, rfl, hall, hso, hb⟩ := hrel
    clear xa1 xb0 xb1
    have HB : Hid (Below w.heap.size w wr) := hb
    have bM := bA.out.same_on hso.out
    have bR := bB.out.same_on hso.out
    have xa1 := bM.cell 1 _ rfl
    by_cases hlt : k < ne
    · obtain ⟨x, hxk⟩ : ∃ x, es[k]? = some x := ⟨es[k]'(by rw [HN.out]; exact hlt), List.getElem?_eq_getElem _⟩
      obtain ⟨g, off, rfl, -, hgl, hat⟩ := HX.out (by intro h; rw [h] at hxk; simp at hxk)
      obtain ⟨cs, hcsl, hcs, rfl, -, -⟩ := hat k x hxk
      obtain ⟨xs, xn⟩ := x
      simp only at *
      have a0 := hcs 0 (by omega)
      have a1 := hcs 1 (by omega)
      rw [← hb.cell (p := ⟨g, _, none⟩) hgl] at a0 a1
      simp at a0 a1
      have hki : (k : Int) < (ne : Int) := by omega
      have hk0 : (0 : Int) ≤ (k : Int) := by omega
      have hgw : g < wr.heap.size := Nat.lt_of_lt_of_le hgl hb.size
      have y0 := bR.cell 0 _ rfl
      have y1 := bR.cell 1 _ rfl
      have l0 := bM.lt
      have l1 := bR.lt
      have qx1 : ∀ m : Wd (fun w' => SameOn All wr w' ∧ Below w.heap.size w w'), m.val.cell? ⟨w.heap.size, 1, none⟩ = some (.slice (some ⟨g, off, none⟩) ne ce) := fun m => (World.cell?_of_block (m.ok.1.2 w.heap.size trivial l0)).trans xa1
      have qy0 : ∀ m : Wd (fun w' => SameOn All wr w' ∧ Below w.heap.size w w'), m.val.cell? ⟨w.heap.size + 1, 0, none⟩ = some (.string rs) := fun m => (World.cell?_of_block (m.ok.1.2 (w.heap.size + 1) trivial l1)).trans y0
      have qy1 : ∀ m : Wd (fun w' => SameOn All wr w' ∧ Below w.heap.size w w'), m.val.cell? ⟨w.heap.size + 1, 1, none⟩ = some (.int .i64 rn) := fun m => (World.cell?_of_block (m.ok.1.2 (w.heap.size + 1) trivial l1)).trans y1
      have qz0 : ∀ m : Wd (fun w' => SameOn All wr w' ∧ Below w.heap.size w w'), m.val.cell? ⟨g, off + k * 2, none⟩ = some (.string xs) := fun m => (World.cell?_of_block (m.ok.1.2 g trivial hgw)).trans a0
      have qz1 : ∀ m : Wd (fun w' => SameOn All wr w' ∧ Below w.heap.size w w'), m.val.cell? ⟨g, off + k * 2 + 1, none⟩ = some (.int .i64 xn) := fun m => (World.cell?_of_block (m.ok.1.2 g trivial hgw)).trans a1
      clear hb hcs hat hcsl y0 y1 l0 l1 bR bM a0 a1
      go_wp2_with fail
      have e1 := refG
      have e2 := refE
      have hCne : Nonempty (Wd (fun w' => SameOn All wr w' ∧ Below w.heap.size w w')) := ⟨⟨wr.drew, ⟨⟨Nat.le_refl _, fun _ _ _ => rfl⟩, HB.out.drew⟩⟩⟩
      refine wp_region_class (fun w' => SameOn All wr w' ∧ Below w.heap.size w w') (by kernel_rfl) (by kernel_rfl) ⟨⟨Nat.le_refl _, fun _ _ _ => rfl⟩, HB.out.drew⟩ ?_
      repeat (go_big_quiet_step (fail))
      refine wpQuiet_nil ?_
      rintro _ ⟨mq, rfl⟩
      have HB4 : Hid (Below w.heap.size w mq.val) := mq.ok.2
      have HS4 : Hid (SameOn All W1 mq.val) := hso.out.trans mq.ok.1
      generalize mq.val = w4 at HB4 HS4 ⊢
      generalize hcv : (xs.toList == rs.toList && xn == rn) = cv
      have HC2 : Hid (cv = false → (es.take (k + 1)).any (sameRf rs rn) = false) := fun h => anyT_succ _ es k _ hxk hall.out (show (xs.toList == rs.toList && xn == rn) = false from hcv.trans h)
      have HC3 : Hid (cv = true → es.any (sameRf rs rn) = true) := fun h => anyT_at _ es k _ hxk (show (xs.toList == rs.toList && xn == rn) = true from hcv.trans h)
      clear hcv
      cases cv with
      | false =>
        have HT' : Hid _ := HC2.out rfl
        clear HC2 HC3
        go_wp2_with fail
        exact ⟨⟨k + 1, by omega, by go_num, HT'.out, HS4.out, HB4.out⟩, by simp [intOf]; omega⟩
      | true =>
        have HF : Hid _ := HC3.out rfl
        clear HC2 HC3
        go_wp2_with fail
        go_ret
        exact ⟨by rw [HF.out]; rfl, HB4.out⟩
    · have HS : Hid (es.any (sameRf rs rn) = false) := by
        have := hall.out
        rwa [List.take_of_length_le (by rw [HN.out]; omega)] at this
      clear bM bR
      go_wp2
      go_ret
      exact ⟨by rw [HS.out]; rfl, HB.out⟩
end Go.Proofs.YtigfmdfgioccjaaGreatDoor
/-
  The specification's l05Call, by contract.
-/
namespace Go.Proofs.YtigfmdfgioccjaaGreatDoor
open Go.ChangeShapes Go.WideShapes Go.ChangeAt Go.RowKit
set_option linter.unusedVariables false

set_option maxHeartbeats 8000000 in
set_option maxRecDepth 100000 in
theorem l05Call_any (d dx : Nat) (w : World) (v : Value) (ms : List Md) (mc : List Value) (m : Md) (cs : List Value) (x : Ex) (h : Rows w All 3 (HMd w All d) v ms) (hm : HMd w All d mc m) (hx : HEx w All dx cs x) :
    Calls Tryz.prog 56 #[v, .agg mc.toArray, .agg cs.toArray] w fun e w' => e = .returned (.string (callC ms m x)) ∧ Below w.heap.size w w' := by
  cases dx with
  | zero => exact hx.elim
  | succ dx =>
  obtain ⟨ev, fv, rfl, -, ⟨mpe, mce, rfl, -⟩, ⟨mpf, mcf, rfl, -⟩⟩ := id hm
  obtain ⟨kx, nx, tx, mx, ks, cl⟩ := x
  obtain ⟨kv, cv, rfl, -, -, -, -, ⟨p1, q1, rfl, -⟩, ⟨p2, q2, rfl, -⟩⟩ := hx
  simp only [Ex.kind, Ex.n, Ex.text, Ex.mod, Ex.kids, Ex.clauses] at *
  have HMS : Hid (∀ w', Below w.heap.size w w' → Rows w' All 3 (HMd w' All d) v ms) := fun w' hw => h.mono (SameOn.of_below hw) (fun _ h => h) (fun _ _ _ h => h.mono (SameOn.of_below hw) (fun _ h => h))
  have HMM : Hid (∀ w', Below w.heap.size w w' → HMd w' All d [.string m.name, .slice mpe m.exports.length mce, .slice mpf m.funs.length mcf] m) := fun w' hw => hm.mono (SameOn.of_below hw) (fun _ h => h)
  obtain ⟨W3, hW3⟩ : ∃ W3, W3 = ((w.alloc (.cells #[.string m.name, .slice mpe m.exports.length mce, .slice mpf m.funs.length mcf] 42)).alloc (.cells #[.int .i64 kx, .int .i64 nx, .string tx, .string mx, .slice p1 ks.length q1, .slice p2 cl.length q2] 73)).alloc (.cells #[.string tx, .int .i64 (ks.length : Int)] 44) := ⟨_, rfl⟩
  have B3 : Hid (Below w.heap.size w W3) := by show Below _ _ _; rw [hW3]; exact (((Below.refl _ _).alloc (Nat.le_refl _) _).alloc (by simp only [alloc_hs]; omega) _).alloc (by simp only [alloc_hs]; omega) _
  have bR : Hid (Blk W3 (w.heap.size + 1 + 1) #[.string tx, .int .i64 (ks.length : Int)] 44) := by
    show Blk _ _ _ _
    rw [hW3]
    have := Blk.new (w := (w.alloc (.cells #[.string m.name, .slice mpe m.exports.length mce, .slice mpf m.funs.length mcf] 42)).alloc (.cells #[.int .i64 kx, .int .i64 nx, .string tx, .string mx, .slice p1 ks.length q1, .slice p2 cl.length q2] 73)) (cs := #[.string tx, .int .i64 (ks.length : Int)]) (t := 44)
    simp only [alloc_hs] at this
    exact this
  have HW3 : Hid (W3 = ((w.alloc (.cells #[.string m.name, .slice mpe m.exports.length mce, .slice mpf m.funs.length mcf] 42)).alloc (.cells #[.int .i64 kx, .int .i64 nx, .string tx, .string mx, .slice p1 ks.length q1, .slice p2 cl.length q2] 73)).alloc (.cells #[.string tx, .int .i64 (ks.length : Int)] 44)) := hW3
  clear hW3
  have HV : Hid (callC ms m (.mk kx nx tx mx ks cl) = if mx.toList = [] then (if hasF m tx ks.length || isPutB tx ks.length then ⟨#[]⟩ else cCall) else (if offersB ms mx tx ks.length then ⟨#[]⟩ else cFar)) := rfl
  by_cases hmx : mx.toList = []
  · have hmb : mx.toList.isEmpty = true := by rw [hmx]; rfl
    have HV2 : Hid (callC ms m (.mk kx nx tx mx ks cl) = if hasF m tx ks.length || isPutB tx ks.length then ⟨#[]⟩ else cCall) := HV.out.trans (if_pos hmx)
    clear HV hm h
    rcases findI_cases (sameR ⟨tx, (ks.length : Int)⟩) m.funs with ⟨hf, hfi⟩ | ⟨k, y, hf, hk, -, hfi, -⟩
    · have HFI : Hid (findI (sameR ⟨tx, (ks.length : Int)⟩) m.funs = -1) := hfi
      have HF : Hid (hasF m tx ks.length = false) := hf
      clear hf hfi
      cases hp : (tx.toList == [112, 117, 116]) with
      | false =>
        have hp2 : ¬ tx.toList = [112, 117, 116] := by simpa using hp
        have HV3 : Hid (callC ms m (.mk kx nx tx mx ks cl) = cCall) := by show _ = _; rw [HV2.out, HF.out]; simp [isPutB, hp]
        clear HV2 HF
        go_enter Tryz.func56, Tryz.ntmps56
        go_wp2_with fail
        rw [← HW3.out]
        refine (l02FindI_any d _ _ m tx ks.length (HMM.out _ B3.out)).mono ?_
        rintro e w4 ⟨rfl, hb⟩
        rw [HFI.out]
        have B4 : Hid (Below w.heap.size w w4) := B3.out.trans (hb.mono B3.out.size)
        have b4 := bR.out.next hb
        have r0 := b4.cell 0 _ rfl
        have r1 := b4.cell 1 _ rfl
        clear hb b4
        go_wp2_with fail
        go_ret
        exact ⟨by rw [HV3.out]; rfl, B4.out⟩
      | true =>
        have hp2 : tx.toList = [112, 117, 116] := by simpa using hp
        cases hq : ((ks.length : Int) == 1) with
        | false =>
          have hq2 : ¬ (ks.length : Int) = 1 := by simpa using hq
          have hq3 : ((ks.length : Int) != 1) = true := by simpa using hq2
          have HV3 : Hid (callC ms m (.mk kx nx tx mx ks cl) = cCall) := by show _ = _; rw [HV2.out, HF.out]; simp [isPutB, hp, hq]
          clear HV2 HF
          go_enter Tryz.func56, Tryz.ntmps56
          go_wp2_with fail
          rw [← HW3.out]
          refine (l02FindI_any d _ _ m tx ks.length (HMM.out _ B3.out)).mono ?_
          rintro e w4 ⟨rfl, hb⟩
          rw [HFI.out]
          have B4 : Hid (Below w.heap.size w w4) := B3.out.trans (hb.mono B3.out.size)
          have b4 := bR.out.next hb
          have r0 := b4.cell 0 _ rfl
          have r1 := b4.cell 1 _ rfl
          clear hb b4
          go_wp2_with fail
          go_ret
          exact ⟨by rw [HV3.out]; rfl, B4.out⟩
        | true =>
          have hq3 : ((ks.length : Int) != 1) = false := by simpa using hq
          have HV3 : Hid (callC ms m (.mk kx nx tx mx ks cl) = ⟨#[]⟩) := by show _ = _; rw [HV2.out, HF.out]; simp [isPutB, hp, hq]
          clear HV2 HF
          go_enter Tryz.func56, Tryz.ntmps56
          go_wp2_with fail
          rw [← HW3.out]
          refine (l02FindI_any d _ _ m tx ks.length (HMM.out _ B3.out)).mono ?_
          rintro e w4 ⟨rfl, hb⟩
          rw [HFI.out]
          have B4 : Hid (Below w.heap.size w w4) := B3.out.trans (hb.mono B3.out.size)
          have b4 := bR.out.next hb
          have r0 := b4.cell 0 _ rfl
          have r1 := b4.cell 1 _ rfl
          clear hb b4
          go_wp2_with fail
          go_ret
          exact ⟨by rw [HV3.out]; rfl, B4.out⟩
    · have HFI : Hid (findI (sameR ⟨tx, (ks.length : Int)⟩) m.funs = (k : Int)) := hfi
      have HV3 : Hid (callC ms m (.mk kx nx tx mx ks cl) = ⟨#[]⟩) := by show _ = _; rw [HV2.out, show hasF m tx ks.length = true from hf]; simp
      have hk0 : ¬ (k : Int) < 0 := by omega
      clear HV2 hf hk hfi
      go_enter Tryz.func56, Tryz.ntmps56
      go_wp2_with fail
      rw [← HW3.out]
      refine (l02FindI_any d _ _ m tx ks.length (HMM.out _ B3.out)).mono ?_
      rintro e w4 ⟨rfl, hb⟩
      rw [HFI.out]
      have B4 : Hid (Below w.heap.size w w4) := B3.out.trans (hb.mono B3.out.size)
      have b4 := bR.out.next hb
      have r0 := b4.cell 0 _ rfl
      have r1 := b4.cell 1 _ rfl
      clear hb b4
      go_wp2_with fail
      go_ret
      exact ⟨by rw [HV3.out]; rfl, B4.out⟩
  · have hmb : mx.toList.isEmpty = false := by simpa using hmx
    have HV2 : Hid (callC ms m (.mk kx nx tx mx ks cl) = if offersB ms mx tx ks.length then ⟨#[]⟩ else cFar) := HV.out.trans (if_neg hmx)
    clear HV hm
    rcases findI_cases (named mx) ms with ⟨hf, hfi⟩ | ⟨k, y, hf, hk, -, hfi, hfd⟩
    · have HFI : Hid (findI (named mx) ms = -1) := hfi
      have HV3 : Hid (callC ms m (.mk kx nx tx mx ks cl) = cFar) := by
        show _ = _
        rw [HV2.out]
        have : ms.find? (named mx) = none := List.find?_eq_none.2 (fun x hx => by simpa using List.any_eq_false.1 hf x hx)
        simp [offersB, this]
      clear HV2 hf hfi
      go_enter Tryz.func56, Tryz.ntmps56
      go_wp2_with fail
      rw [← HW3.out]
      refine (l05Mod_any d _ _ ms mx (HMS.out _ B3.out)).mono ?_
      rintro e w4 ⟨rfl, hw4⟩
      rw [HFI.out, hw4]
      clear hw4
      go_wp2_with fail
      have hCne : Nonempty (Wd (fun w' => SameOn All W3 w' ∧ Below w.heap.size w w')) := ⟨⟨W3.drew, ⟨⟨Nat.le_refl _, fun _ _ _ => rfl⟩, B3.out.drew⟩⟩⟩
      refine wp_region_class (fun w' => SameOn All W3 w' ∧ Below w.heap.size w w') (by kernel_rfl) (by kernel_rfl) ⟨⟨Nat.le_refl _, fun _ _ _ => rfl⟩, B3.out.drew⟩ ?_
      repeat (go_big_quiet_step (fail))
      refine wpQuiet_nil ?_
      rintro _ ⟨mq, rfl⟩
      have HB4 : Hid (Below w.heap.size w mq.val) := mq.ok.2
      have HS4 : Hid (SameOn All W3 mq.val) := mq.ok.1
      generalize mq.val = w4 at HB4 HS4 ⊢
      go_wp2_with fail
      go_ret
      exact ⟨by rw [HV3.out]; rfl, HB4.out⟩
    · have HFI : Hid (findI (named mx) ms = (k : Int)) := hfi
      have HV3 : Hid (callC ms m (.mk kx nx tx mx ks cl) = if hasX y tx ks.length && hasF y tx ks.length then ⟨#[]⟩ else cFar) := by show _ = _; rw [HV2.out]; simp [offersB, hfd]
      obtain ⟨p, cap, rfl, hcl, hcm, hx⟩ := h
      obtain ⟨g, off, rfl, -, hgl, hat⟩ := hx (fun e => by rw [e] at hk; simp at hk)
      obtain ⟨cs, hcsl, hcs, hy⟩ := hat k y hk
      have hkn := (List.getElem?_eq_some_iff.1 hk).1
      have HMY : Hid (∀ w', Below w.heap.size w w' → HMd w' All d cs y) := fun w' hw => hy.mono (SameOn.of_below hw) (fun _ h => h)
      obtain ⟨s1, pe1, ne1, ce1, pf1, nf1, cf1, rfl⟩ := hy.shape
      have a0 := hcs 0 (by omega)
      have a1 := hcs 1 (by omega)
      have a2 := hcs 2 (by omega)
      rw [← B3.out.cell (p := ⟨g, _, none⟩) hgl] at a0 a1 a2
      simp at a0 a1 a2
      generalize hn : ms.length = n at *
      have hki : (k : Int) < (n : Int) := by omega
      have hk0 : (0 : Int) ≤ (k : Int) := by omega
      have hk1 : ¬ (k : Int) < 0 := by omega
      have hk2 : decide ((k : Int) < 0) = false := decide_eq_false hk1
      have hg3 : g < W3.heap.size := Nat.lt_of_lt_of_le hgl B3.out.size
      have HMS2 : Hid (∀ w', Below w.heap.size w w' → Rows w' All 3 (HMd w' All d) (.slice (some ⟨g, off, none⟩) n cap) ms) := HMS.out
      have lR := bR.out.lt
      have r0 := bR.out.cell 0 _ rfl
      have r1 := bR.out.cell 1 _ rfl
      have qa0 : ∀ m : Wd (fun w' => SameOn All W3 w' ∧ Below w.heap.size w w'), m.val.cell? ⟨g, off + k * 3, none⟩ = some (.string s1) := fun m => (World.cell?_of_block (m.ok.1.2 g trivial hg3)).trans a0
      have qa1 : ∀ m : Wd (fun w' => SameOn All W3 w' ∧ Below w.heap.size w w'), m.val.cell? ⟨g, off + k * 3 + 1, none⟩ = some (.slice pe1 ne1 ce1) := fun m => (World.cell?_of_block (m.ok.1.2 g trivial hg3)).trans a1
      have qa2 : ∀ m : Wd (fun w' => SameOn All W3 w' ∧ Below w.heap.size w w'), m.val.cell? ⟨g, off + k * 3 + 2, none⟩ = some (.slice pf1 nf1 cf1) := fun m => (World.cell?_of_block (m.ok.1.2 g trivial hg3)).trans a2
      have qr0 : ∀ m : Wd (fun w' => SameOn All W3 w' ∧ Below w.heap.size w w'), m.val.cell? ⟨w.heap.size + 1 + 1, 0, none⟩ = some (.string tx) := fun m => (World.cell?_of_block (m.ok.1.2 (w.heap.size + 1 + 1) trivial lR)).trans r0
      have qr1 : ∀ m : Wd (fun w' => SameOn All W3 w' ∧ Below w.heap.size w w'), m.val.cell? ⟨w.heap.size + 1 + 1, 1, none⟩ = some (.int .i64 (ks.length : Int)) := fun m => (World.cell?_of_block (m.ok.1.2 (w.heap.size + 1 + 1) trivial lR)).trans r1
      clear HMS HV2 hf hk hfi hfd hx hat hcs hcsl hy hn hcl hcm a0 a1 a2 r0 r1 lR
      cases hX : hasX y tx ks.length with
      | false =>
        have HCX : Hid (hasX y tx ks.length = false) := hX
        have HV4 : Hid (callC ms m (.mk kx nx tx mx ks cl) = cFar) := by show _ = _; rw [HV3.out, hX]; rfl
        clear HV3 hX
        go_enter Tryz.func56, Tryz.ntmps56
        go_wp2_with fail
        rw [← HW3.out]
        refine (l05Mod_any d _ _ ms mx (HMS2.out _ B3.out)).mono ?_
        rintro e w4 ⟨rfl, hw4⟩
        rw [HFI.out, hw4]
        clear hw4
        go_wp2_with fail
        have hCne : Nonempty (Wd (fun w' => SameOn All W3 w' ∧ Below w.heap.size w w')) := ⟨⟨W3.drew, ⟨⟨Nat.le_refl _, fun _ _ _ => rfl⟩, B3.out.drew⟩⟩⟩
        refine wp_region_class (fun w' => SameOn All W3 w' ∧ Below w.heap.size w w') (by kernel_rfl) (by kernel_rfl) ⟨⟨Nat.le_refl _, fun _ _ _ => rfl⟩, B3.out.drew⟩ ?_
        repeat (go_big_quiet_step (first | (rename_i mm; go_at_call 82; refine (l05Exported_any d _ _ y tx ks.length (HMY.out _ mm.ok.2)).mono ?_; rintro e w1 ⟨rfl, hb1⟩; exact ⟨by rw [HCX.out], ⟨⟨w1, ⟨mm.ok.1.trans (SameOn.of_below hb1), mm.ok.2.trans (hb1.mono mm.ok.2.size)⟩⟩, rfl⟩⟩)))
        refine wpQuiet_nil ?_
        rintro _ ⟨mq, rfl⟩
        have HB4 : Hid (Below w.heap.size w mq.val) := mq.ok.2
        have HS4 : Hid (SameOn All W3 mq.val) := mq.ok.1
        generalize mq.val = w4 at HB4 HS4 ⊢
        go_wp2_with fail
        go_ret
        exact ⟨by rw [HV4.out]; rfl, HB4.out⟩
      | true =>
        have HCX : Hid (hasX y tx ks.length = true) := hX
        rcases findI_cases (sameR ⟨tx, (ks.length : Int)⟩) y.funs with ⟨hf, hfi⟩ | ⟨j, z, hf, -, -, hfi, -⟩
        · have HCF : Hid (findI (sameR ⟨tx, (ks.length : Int)⟩) y.funs = -1) := hfi
          have HV4 : Hid (callC ms m (.mk kx nx tx mx ks cl) = cFar) := by show _ = _; rw [HV3.out, hX, show hasF y tx ks.length = false from hf]; rfl
          clear HV3 hX hf hfi
          go_enter Tryz.func56, Tryz.ntmps56
          go_wp2_with fail
          rw [← HW3.out]
          refine (l05Mod_any d _ _ ms mx (HMS2.out _ B3.out)).mono ?_
          rintro e w4 ⟨rfl, hw4⟩
          rw [HFI.out, hw4]
          clear hw4
          go_wp2_with fail
          have hCne : Nonempty (Wd (fun w' => SameOn All W3 w' ∧ Below w.heap.size w w')) := ⟨⟨W3.drew, ⟨⟨Nat.le_refl _, fun _ _ _ => rfl⟩, B3.out.drew⟩⟩⟩
          refine wp_region_class (fun w' => SameOn All W3 w' ∧ Below w.heap.size w w') (by kernel_rfl) (by kernel_rfl) ⟨⟨Nat.le_refl _, fun _ _ _ => rfl⟩, B3.out.drew⟩ ?_
          repeat (go_big_quiet_step (first | (rename_i mm; go_at_call 82; refine (l05Exported_any d _ _ y tx ks.length (HMY.out _ mm.ok.2)).mono ?_; rintro e w1 ⟨rfl, hb1⟩; exact ⟨by rw [HCX.out], ⟨⟨w1, ⟨mm.ok.1.trans (SameOn.of_below hb1), mm.ok.2.trans (hb1.mono mm.ok.2.size)⟩⟩, rfl⟩⟩) | (rename_i mm; go_at_call 18; refine (l02FindI_any d _ _ y tx ks.length (HMY.out _ mm.ok.2)).mono ?_; rintro e w1 ⟨rfl, hb1⟩; exact ⟨by rw [HCF.out], ⟨⟨w1, ⟨mm.ok.1.trans (SameOn.of_below hb1), mm.ok.2.trans (hb1.mono mm.ok.2.size)⟩⟩, rfl⟩⟩)))
          refine wpQuiet_nil ?_
          rintro _ ⟨mq, rfl⟩
          have HB4 : Hid (Below w.heap.size w mq.val) := mq.ok.2
          have HS4 : Hid (SameOn All W3 mq.val) := mq.ok.1
          generalize mq.val = w4 at HB4 HS4 ⊢
          go_wp2_with fail
          go_ret
          exact ⟨by rw [HV4.out]; rfl, HB4.out⟩
        · have HCF : Hid (findI (sameR ⟨tx, (ks.length : Int)⟩) y.funs = (j : Int)) := hfi
          have HV4 : Hid (callC ms m (.mk kx nx tx mx ks cl) = ⟨#[]⟩) := by show _ = _; rw [HV3.out, hX, show hasF y tx ks.length = true from hf]; rfl
          have hj1 : ¬ (j : Int) < 0 := by omega
          have hj2 : decide ((j : Int) < 0) = false := decide_eq_false hj1
          clear HV3 hX hf hfi
          go_enter Tryz.func56, Tryz.ntmps56
          go_wp2_with fail
          rw [← HW3.out]
          refine (l05Mod_any d _ _ ms mx (HMS2.out _ B3.out)).mono ?_
          rintro e w4 ⟨rfl, hw4⟩
          rw [HFI.out, hw4]
          clear hw4
          go_wp2_with fail
          have hCne : Nonempty (Wd (fun w' => SameOn All W3 w' ∧ Below w.heap.size w w')) := ⟨⟨W3.drew, ⟨⟨Nat.le_refl _, fun _ _ _ => rfl⟩, B3.out.drew⟩⟩⟩
          refine wp_region_class (fun w' => SameOn All W3 w' ∧ Below w.heap.size w w') (by kernel_rfl) (by kernel_rfl) ⟨⟨Nat.le_refl _, fun _ _ _ => rfl⟩, B3.out.drew⟩ ?_
          repeat (go_big_quiet_step (first | (rename_i mm; go_at_call 82; refine (l05Exported_any d _ _ y tx ks.length (HMY.out _ mm.ok.2)).mono ?_; rintro e w1 ⟨rfl, hb1⟩; exact ⟨by rw [HCX.out], ⟨⟨w1, ⟨mm.ok.1.trans (SameOn.of_below hb1), mm.ok.2.trans (hb1.mono mm.ok.2.size)⟩⟩, rfl⟩⟩) | (rename_i mm; go_at_call 18; refine (l02FindI_any d _ _ y tx ks.length (HMY.out _ mm.ok.2)).mono ?_; rintro e w1 ⟨rfl, hb1⟩; exact ⟨by rw [HCF.out], ⟨⟨w1, ⟨mm.ok.1.trans (SameOn.of_below hb1), mm.ok.2.trans (hb1.mono mm.ok.2.size)⟩⟩, rfl⟩⟩)))
          refine wpQuiet_nil ?_
          rintro _ ⟨mq, rfl⟩
          have HB4 : Hid (Below w.heap.size w mq.val) := mq.ok.2
          have HS4 : Hid (SameOn All W3 mq.val) := mq.ok.1
          generalize mq.val = w4 at HB4 HS4 ⊢
          go_wp2_with fail
          go_ret
          exact ⟨by rw [HV4.out]; rfl, HB4.out⟩
end Go.Proofs.YtigfmdfgioccjaaGreatDoor
/-
  What is held lies in the heap.
-/
namespace Go.Proofs.YtigfmdfgioccjaaGreatDoor
open Go.ChangeShapes Go.WideShapes Go.ChangeAt Go.RowKit
set_option linter.unusedVariables false

/-- What is held lies in the heap. -/
theorem Rows.tight {α : Type} {w : World} {S : Nat → Prop} {c : Nat} {R R' : List Value → α → Prop} {v : Value} {xs : List α} (h : Rows w S c R v xs) (hR : ∀ cs x, R cs x → R' cs x) : Rows w (fun g => g < w.heap.size) c R' v xs := by
  obtain ⟨p, cap, hv, h1, h2, h3⟩ := h
  refine ⟨p, cap, hv, h1, h2, fun hne => ?_⟩
  obtain ⟨g, off, hp, hg, hlt, hx⟩ := h3 hne
  refine ⟨g, off, hp, hlt, hlt, fun i x hi => ?_⟩
  obtain ⟨cs, hl, hc, hr⟩ := hx i x hi
  exact ⟨cs, hl, hc, hR cs x hr⟩
theorem HEx.tight {w : World} {S : Nat → Prop} : ∀ {d : Nat} {cs : List Value} {x : Ex}, HEx w S d cs x → HEx w (fun g => g < w.heap.size) d cs x
  | 0, _, _, h => h.elim
  | d + 1, cs, x, h => by
    obtain ⟨kv, cv, rfl, h1, h2, h3, h4, hk, hc⟩ := h
    refine ⟨kv, cv, rfl, h1, h2, h3, h4, hk.tight (fun _ _ h => h.tight), hc.tight (fun _ _ h => ?_)⟩
    obtain ⟨p, b, rfl, g1, g2⟩ := h
    exact ⟨p, b, rfl, g1.tight (fun _ _ h => h.tight), g2.tight (fun _ _ h => h.tight)⟩
end Go.Proofs.YtigfmdfgioccjaaGreatDoor
/-
  How great a module is: weights.
-/
namespace Go.Proofs.YtigfmdfgioccjaaGreatDoor
open Go.ChangeShapes Go.WideShapes Go.ChangeAt Go.RowKit
set_option linter.unusedVariables false

def wtCl (f : Ex → Nat) (c : Cl) : Nat := wtS f c.1 + wtS f c.2
def wtEx : Nat → Ex → Nat
  | 0, _ => 0
  | d + 1, e => e.text.size + e.mod.size + wtS (wtEx d) e.kids + wtS (wtCl (wtEx d)) e.clauses
def wtRf (r : Rf) : Nat := r.name.size
def wtFn (d : Nat) (f : Fn') : Nat := f.name.size + wtS (wtCl (wtEx d)) f.clauses
def wtMd (d : Nat) (m : Md) : Nat := m.name.size + wtS wtRf m.exports + wtS (wtFn d) m.funs
end Go.Proofs.YtigfmdfgioccjaaGreatDoor
/-
  The specification's l04Within, by contract: what stands within an expression.
-/
namespace Go.Proofs.YtigfmdfgioccjaaGreatDoor
open Go.ChangeShapes Go.WideShapes Go.ChangeAt Go.RowKit
set_option linter.unusedVariables false

theorem info_exG : (Tryz.prog.info? 73).map (fun i => (i.zero, i.size, i.bytes)) = some (some (.agg #[.int .i64 0, .int .i64 0, .string ⟨#[]⟩, .string ⟨#[]⟩, .slice none 0 0, .slice none 0 0]), 6, 96) := by kernel_rfl
theorem ex_oneCell {w : World} {S : Nat → Prop} {d : Nat} (cs : List Value) (x : Ex) (h : HEx w S d cs x) : ∀ u ∈ cs, u.oneCell' = true := by
  cases d with
  | zero => exact h.elim
  | succ d =>
    obtain ⟨kv, cv, rfl, _, _, _, _, ⟨p1, c1, rfl, _⟩, ⟨p2, c2, rfl, _⟩⟩ := h
    intro u hu
    simp only [List.mem_cons, List.not_mem_nil, or_false] at hu
    rcases hu with rfl | rfl | rfl | rfl | rfl | rfl <;> rfl

theorem within_len (d : Nat) (ks : List Ex) (cl : List Cl) : ks.length + (bodiesOf cl).length ≤ wtS (wtEx d) ks + wtS (wtCl (wtEx d)) cl := by
  have h1 : ks.length ≤ wtS (wtEx d) ks := by unfold wtS; omega
  have h2 : (bodiesOf cl).length ≤ wtS (wtCl (wtEx d)) cl := by
    induction cl with
    | nil => simp [bodiesOf]
    | cons c cl ih =>
      have e : bodiesOf (c :: cl) = c.2 ++ bodiesOf cl := by simp [bodiesOf]
      rw [e, List.length_append]
      simp only [wtS, List.length_cons, List.map_cons, List.sum_cons, wtCl] at ih ⊢
      omega
  omega

set_option maxHeartbeats 8000000 in
set_option maxRecDepth 100000 in
theorem within_any (d : Nat) (w : World) (S : Nat → Prop) (hS : ∀ g, S g → g < w.heap.size) (cs : List Value) (x : Ex) (h : HEx w S (d + 1) cs x) (hw : wtEx (d + 1) x ≤ 1048576) :
    Calls Tryz.prog 57 #[.agg cs.toArray] w fun e w' => ∃ u cells, e = .returned u ∧ w'.ownsRow (w.heap.size + 1) 73 6 u (withinX x).length cells ∧ CellsR 6 (HEx w S d) cells (withinX x) ∧ Below w.heap.size w w' := by
  have hT := h
  obtain ⟨kx, nx, tx, mx, ks, cl⟩ := x
  obtain ⟨kv, cv, rfl, -, -, -, -, hk, hc⟩ := hT
  have HWX : Hid (withinX (.mk kx nx tx mx ks cl) = ks ++ bodiesOf cl) := rfl
  have HL : Hid (ks.length + (bodiesOf cl).length ≤ 1048576) := by
    have h1 := within_len d ks cl
    simp only [wtEx, Ex.text, Ex.mod, Ex.kids, Ex.clauses] at hw
    show _ ≤ _
    omega
  simp only [Ex.kind, Ex.n, Ex.text, Ex.mod, Ex.kids, Ex.clauses] at *
  have HK : Hid (Rows w S 6 (HEx w S d) kv ks) := hk
  obtain ⟨p1, q1, rfl, -⟩ := hk
  obtain ⟨p2, q2, rfl, hcl, hcm, hx⟩ := hc
  have hnb : cl.length ≤ 9223372036854775807 := by unfold maxLen at hcm; omega
  obtain ⟨i, hi, hz0, hz1, hz2⟩ := info_parts info_exG
  have HX : Hid (cl ≠ [] → ∃ g off, p2 = some ⟨g, off, none⟩ ∧ S g ∧ g < w.heap.size ∧ ∀ i x, cl[i]? = some x → ∃ cs, cs.length = 2 ∧ (∀ j, j < 2 → w.cell? ⟨g, off + i * 2 + j, none⟩ = cs[j]?) ∧ HCl w S (HEx w S d) cs x) := hx
  generalize hn1 : ks.length = nk at *
  have HN1 : Hid (ks.length = nk) := hn1
  generalize hn2 : cl.length = nc at *
  have HN2 : Hid (cl.length = nc) := hn2
  obtain ⟨W1, hW1⟩ : ∃ W1, W1 = w.alloc (.cells #[.int .i64 kx, .int .i64 nx, .string tx, .string mx, .slice p1 nk q1, .slice p2 nc q2] 73) := ⟨_, rfl⟩
  have bA : Hid (Blk W1 w.heap.size #[.int .i64 kx, .int .i64 nx, .string tx, .string mx, .slice p1 nk q1, .slice p2 nc q2] 73) := by show Blk _ _ _ _; rw [hW1]; exact Blk.new
  have B1 : Hid (Below w.heap.size w W1) := by show Below _ _ _; rw [hW1]; exact (Below.refl _ _).alloc (Nat.le_refl _) _
  have S1 : Hid (W1.heap.size = w.heap.size + 1) := by show _ = _; rw [hW1, alloc_hs]
  have HW1 : Hid (W1 = w.alloc (.cells #[.int .i64 kx, .int .i64 nx, .string tx, .string mx, .slice p1 nk q1, .slice p2 nc q2] 73)) := hW1
  have O2 : Hid ((W1.alloc (.cells #[] 73)).ownsRow (w.heap.size + 1) 73 6 (.slice (some ⟨w.heap.size + 1, 0, none⟩) 0 0) 0 []) := by
    have := owns_fresh (w := W1) (e := 73) (c := 6)
    rw [S1.out] at this
    exact this
  have B2 : Hid (Below (w.heap.size + 1) W1 (W1.alloc (.cells #[] 73))) := (Below.refl _ _).alloc (by rw [S1.out]; exact Nat.le_refl _) _
  have K2 : Hid (Rows (W1.alloc (.cells #[] 73)) All 6 (HEx w S d) (.slice p1 nk q1) ks) :=
    HK.out.mono (SameOn.of_below (B1.out.trans (B2.out.mono (by omega)))) (fun _ _ => trivial) (fun _ _ _ h => h)
  have z2 : w.heap.size + 1 ≤ (W1.alloc (.cells #[] 73)).heap.size := by rw [alloc_hs, S1.out]; omega
  have Z2 : Hid (w.heap.size + 1 ≤ (W1.alloc (.cells #[] 73)).heap.size) := z2
  clear hx h hw hn1 hn2 z2
  rw [hW1] at O2 K2 Z2
  go_enter Tryz.func57, Tryz.ntmps57
  go_wp2_with (at_builtin; refine wpList_append_rows (R := HEx w S d) (S := All) rfl _ _ 67 rfl (w.heap.size + 1) 73 i _ 6 96 Tryz.underlying67 hi hz0 hz1 hz2 rfl (by decide) (.slice (some ⟨w.heap.size + 1, 0, none⟩) 0 0) 0 [] rfl O2.out (.slice p1 nk q1) ks rfl K2.out (fun cs y h => ex_oneCell cs y h) (by have := HL.out; have := HN1.out; unfold maxLen; omega) (by have := HL.out; have := HN1.out; omega) Z2.out ?_; intro u1 w1 cells1 hc1 ho1 hg1)
  rw [← HW1.out] at hg1 O2 Z2
  have HO1 : Hid (w1.ownsRow (w.heap.size + 1) 73 6 u1 nk cells1) := by have := ho1; rw [HN1.out, Nat.zero_add, List.nil_append] at this; exact this
  have HC1 : Hid (CellsR 6 (HEx w S d) cells1 ks) := hc1
  have HB1 : Hid (Below (w.heap.size + 1) W1 w1) := B2.out.trans (owns_below O2.out hg1 Z2.out)
  clear hc1 ho1 hg1 O2 K2 B2 Z2
  go_wp2_with fail
  go_loopw [3, 4] (fun ov iv wr => ∃ (k n : Nat) (cells : List Value), k ≤ nc ∧ iv = .int .i64 k ∧ Hid (wr.ownsRow (w.heap.size + 1) 73 6 ov n cells) ∧ Hid (CellsR 6 (HEx w S d) cells (ks ++ bodiesOf (cl.take k))) ∧ Hid (n = (ks ++ bodiesOf (cl.take k)).length) ∧ Hid (Below (w.heap.size + 1) W1 wr)) (fun _ iv _ => nc - (intOf iv).toNat)
  case atStart => exact ⟨0, nk, cells1, Nat.zero_le _, rfl, HO1, by show CellsR _ _ _ _; simpa [bodiesOf] using HC1.out, by show _ = _; simp [bodiesOf, HN1.out], HB1⟩
  case round =>
    obtain ⟨k, n, cells, hk, rfl, ho, hc, hn, hb⟩ := hrel
    have bM := bA.out.below hb.out (by omega)
    have x5 := bM.cell 5 _ rfl
    clear bM
    have hb0 : Below w.heap.size w wr := B1.out.trans (hb.out.mono (by omega))
    have HB0 : Hid (Below w.heap.size w wr) := hb0
    by_cases hlt : k < nc
    · obtain ⟨c, hck⟩ : ∃ c, cl[k]? = some c := ⟨cl[k]'(by rw [HN2.out]; exact hlt), List.getElem?_eq_getElem _⟩
      obtain ⟨g, off, rfl, -, hgl, hat⟩ := HX.out (by intro h; rw [h] at hck; simp at hck)
      obtain ⟨cs, hcsl, hcs, pv, bv, rfl, rp, rb⟩ := hat k c hck
      have a0 := hcs 0 (by omega)
      have a1 := hcs 1 (by omega)
      rw [← hb0.cell (p := ⟨g, _, none⟩) hgl] at a0 a1
      simp at a0 a1
      have RB : Hid (Rows wr All 6 (HEx w S d) bv c.2) := rb.mono (SameOn.of_below hb0) (fun _ _ => trivial) (fun _ _ _ h => h)
      obtain ⟨pb, cb, rfl, -⟩ := rb
      have HJ : Hid (ks ++ bodiesOf (cl.take (k + 1)) = ks ++ bodiesOf (cl.take k) ++ c.2) := by show _ = _; rw [bodiesOf_snoc cl k c hck, List.append_assoc]
      have HL2 : Hid (n + c.2.length ≤ 1048576) := by
        have h1 := HL.out
        have h2 := bodiesOf_le cl (k + 1)
        rw [bodiesOf_snoc cl k c hck, List.length_append] at h2
        have h3 := hn.out
        rw [List.length_append, HN1.out] at h3
        show _ ≤ _
        omega
      have hki : (k : Int) < (nc : Int) := by omega
      have hk0 : (0 : Int) ≤ (k : Int) := by omega
      have hs1 : w.heap.size + 1 ≤ wr.heap.size := by rw [← S1.out]; exact hb.out.size
      clear hb0 hat hcs hcsl rp
      go_wp2_with (at_builtin; refine wpList_append_rows (R := HEx w S d) (S := All) rfl _ _ 67 rfl (w.heap.size + 1) 73 i _ 6 96 Tryz.underlying67 hi hz0 hz1 hz2 rfl (by decide) u3 n cells rfl ho.out (.slice pb c.2.length cb) c.2 rfl RB.out (fun cs y h => ex_oneCell cs y h) (by have := HL2.out; unfold maxLen; omega) (by have := HL2.out; omega) hs1 ?_; intro v2 w2 cells2 hc2 ho2 hg2)
      have HB2 : Hid (Below (w.heap.size + 1) W1 w2) := hb.out.trans (owns_below ho.out hg2 hs1)
      have HC2 : Hid (CellsR 6 (HEx w S d) (cells ++ cells2) (ks ++ bodiesOf (cl.take (k + 1)))) := by
        show CellsR _ _ _ _
        rw [HJ.out]
        exact hc.out.append hc2
      have HO2 : Hid (w2.ownsRow (w.heap.size + 1) 73 6 v2 (n + c.2.length) (cells ++ cells2)) := ho2
      have HN3 : Hid (n + c.2.length = (ks ++ bodiesOf (cl.take (k + 1))).length) := by show _ = _; rw [HJ.out, List.length_append, ← hn.out]
      clear hc2 ho2 hg2
      go_wp2_with fail
      exact ⟨⟨k + 1, _, _, by omega, by go_num, HO2, HC2, HN3, HB2⟩, by simp [intOf]; omega⟩
    · have HR : Hid (wr.ownsRow (w.heap.size + 1) 73 6 u3 (withinX (.mk kx nx tx mx ks cl)).length cells ∧ CellsR 6 (HEx w S d) cells (withinX (.mk kx nx tx mx ks cl))) := by
        have h1 := hc.out
        have h2 := hn.out
        have h3 := ho.out
        rw [List.take_of_length_le (by rw [HN2.out]; omega)] at h1 h2
        rw [HWX.out]
        rw [h2] at h3
        exact ⟨h3, h1⟩
      clear hb0
      go_wp2_with fail
      go_ret
      exact ⟨_, _, rfl, HR.out.1, HR.out.2, HB0.out⟩
end Go.Proofs.YtigfmdfgioccjaaGreatDoor
/-
  Chapter 4, plain mathematics: the variables of patterns, what is bound.
-/
namespace Go.Proofs.YtigfmdfgioccjaaGreatDoor
open Go.ChangeShapes Go.WideShapes Go.ChangeAt Go.RowKit
set_option linter.unusedVariables false

/-- Names of one behind the other, each once. -/
def foldV {α : Type} (f : α → List ByteArray) (l : List ByteArray) (ks : List α) : List ByteArray := ks.foldl (fun acc y => onceS acc (f y)) l
theorem foldV_snoc {α : Type} (f : α → List ByteArray) (l : List ByteArray) (ks : List α) (k : Nat) (y : α) (h : ks[k]? = some y) : foldV f l (ks.take (k + 1)) = onceS (foldV f l (ks.take k)) (f y) := by
  unfold foldV
  rw [List.take_add_one, h]
  simp
theorem foldV_len {α : Type} (f : α → List ByteArray) (wt : α → Nat) : ∀ (ks : List α) (l : List ByteArray), (∀ y ∈ ks, (f y).length ≤ 1 + wt y) → (foldV f l ks).length ≤ l.length + wtS wt ks
  | [], l, _ => by simp [foldV]
  | y :: ys, l, h => by
    have h1 := foldV_len f wt ys (onceS l (f y)) (fun z hz => h z (by simp [hz]))
    have h2 := onceS_length l (f y)
    have h3 := h y (by simp)
    have h4 : wtS wt (y :: ys) = 1 + wt y + wtS wt ys := by simp [wtS]; omega
    have h5 : foldV f l (y :: ys) = foldV f (onceS l (f y)) ys := rfl
    rw [h5, h4]; omega
theorem foldV_mem {α : Type} (f : α → List ByteArray) : ∀ (ks : List α) (l : List ByteArray), ∀ s ∈ foldV f l ks, s ∈ l ∨ ∃ y ∈ ks, s ∈ f y
  | [], l, s, h => .inl h
  | y :: ys, l, s, h => by
    rcases foldV_mem f ys (onceS l (f y)) s h with h | ⟨z, hz, hs⟩
    · rcases onceS_mem l (f y) s h with h | h
      · exact .inl h
      · exact .inr ⟨y, by simp, h⟩
    · exact .inr ⟨z, by simp [hz], hs⟩

/-- The variables of a pattern. -/
def patV : Nat → Ex → List ByteArray
  | 0, _ => []
  | d + 1, .mk k n t m ks cs => foldV (patV d) (if k = 2 then [t] else []) ks
theorem patV_len : ∀ (d : Nat) (x : Ex), (patV d x).length ≤ 1 + wtEx d x
  | 0, _ => by simp [patV]
  | d + 1, .mk k n t m ks cs => by
    have h1 := foldV_len (patV d) (wtEx d) ks (if k = 2 then [t] else []) (fun y _ => patV_len d y)
    have h2 : (if k = 2 then [t] else ([] : List ByteArray)).length ≤ 1 := by split <;> simp
    have hw : wtEx (d + 1) (.mk k n t m ks cs) = t.size + m.size + wtS (wtEx d) ks + wtS (wtCl (wtEx d)) cs := rfl
    have h3 : patV (d + 1) (.mk k n t m ks cs) = foldV (patV d) (if k = 2 then [t] else []) ks := rfl
    rw [h3, hw]; omega
/-- What is bound behind an expression. -/
def bndV : Nat → Ex → List ByteArray
  | 0, _ => []
  | d + 1, .mk k n t m ks cs => match k, ks with
    | 9, [a, b] => onceS (bndV d b) (patV d a)
    | _, ks => foldV (bndV d) [] ks
/-- The texts of an expression are as long as any may be. -/
def exS : Nat → Ex → Prop
  | 0, _ => False
  | d + 1, .mk k n t m ks cs => okS t ∧ (∀ y ∈ ks, exS d y) ∧ ∀ c ∈ cs, (∀ y ∈ c.1, exS d y) ∧ ∀ y ∈ c.2, exS d y
theorem rows_mem' {α : Type} {w : World} {S : Nat → Prop} {c : Nat} {R : List Value → α → Prop} {v : Value} {es : List α} (h : Rows w S c R v es) : ∀ y ∈ es, ∃ cs, R cs y := by
  intro y hy
  obtain ⟨p, cap, _, _, _, hr⟩ := h
  obtain ⟨i, hi⟩ := List.mem_iff_getElem?.1 hy
  obtain ⟨g, off, _, _, _, hat⟩ := hr (by intro e; rw [e] at hi; simp at hi)
  obtain ⟨cs, _, _, hv⟩ := hat i y hi
  exact ⟨cs, hv⟩
theorem HEx.txts {w : World} {S : Nat → Prop} : ∀ {d : Nat} {cs : List Value} {x : Ex}, HEx w S d cs x → exS d x
  | 0, _, _, h => h.elim
  | d + 1, cs, .mk k n t m ks cl, h => by
    obtain ⟨kv, cv, rfl, h1, h2, h3, h4, f0, f1⟩ := h
    refine ⟨h3, fun y hy => ?_, fun c hc => ?_⟩
    · obtain ⟨_, hv⟩ := rows_mem' f0 y hy
      exact hv.txts
    · obtain ⟨_, p, b, _, g0, g1⟩ := rows_mem' f1 c hc
      exact ⟨fun y hy => by obtain ⟨_, hv⟩ := rows_mem' g0 y hy; exact hv.txts, fun y hy => by obtain ⟨_, hv⟩ := rows_mem' g1 y hy; exact hv.txts⟩
theorem patV_ok : ∀ (d : Nat) (x : Ex), exS d x → ∀ s ∈ patV d x, okS s
  | 0, _, h, _, _ => h.elim
  | d + 1, .mk k n t m ks cs, h, s, hs => by
    rcases foldV_mem (patV d) ks _ s hs with h1 | ⟨y, hy, h1⟩
    · split at h1
      · simp at h1; subst h1; exact h.1
      · simp at h1
    · exact patV_ok d y (h.2.1 y hy) s h1
end Go.Proofs.YtigfmdfgioccjaaGreatDoor
/-
  The specification's chapter 4, by contract: l04PatVars.
-/
namespace Go.Proofs.YtigfmdfgioccjaaGreatDoor
open Go.ChangeShapes Go.WideShapes Go.ChangeAt Go.RowKit
set_option linter.unusedVariables false

theorem OwnS.base {w : World} {B B' : Nat} {v : Value} {l : List ByteArray} (h : OwnS w B v l) (hB : B' ≤ B) : OwnS w B' v l := by
  refine ⟨⟨h.1.1, ?_⟩, Nat.le_trans hB h.2⟩
  rcases h.1.2 with hn | ⟨g, cap, cur, hv, hb, hr⟩
  · exact .inl hn
  · exact .inr ⟨g, cap, cur, hv, Nat.le_trans hB hb, hr⟩

/-- A function of an expression that answers names, in new memory. -/
def NmC (F : FuncId) (d : Nat) (f : Ex → List ByteArray) : Prop :=
  ∀ (w : World) (cs : List Value) (x : Ex), HEx w All d cs x → wtEx d x ≤ 1048576 → Calls Tryz.prog F #[.agg cs.toArray] w fun e w' => ∃ u, e = .returned u ∧ OwnS w' w.heap.size u (f x) ∧ Below w.heap.size w w'

set_option maxHeartbeats 8000000 in
set_option maxRecDepth 100000 in
theorem patVars_of {d : Nat} (hE : NmC 52 d (patV d)) : NmC 52 (d + 1) (patV (d + 1)) := by
  intro w cs x h hwt
  have hok := h.txts
  obtain ⟨kv, cv, rfl, -, -, hts, hms, f0, -⟩ := h
  obtain ⟨kx, nx, tx, mx, ks, cl⟩ := x
  simp only [Ex.kind, Ex.n, Ex.text, Ex.mod, Ex.kids] at *
  have hw : wtEx (d + 1) (.mk kx nx tx mx ks cl) = tx.size + mx.size + wtS (wtEx d) ks + wtS (wtCl (wtEx d)) cl := rfl
  have wks : wtS (wtEx d) ks ≤ 1048576 := by omega
  obtain ⟨p, cap, rfl, hcl, hcm, hx⟩ := f0
  have hnb : ks.length ≤ 9223372036854775807 := by unfold maxLen at hcm; omega
  obtain ⟨i, hi, hz0, hz1, hz2⟩ := info_parts info_str
  have hpv : patV (d + 1) (.mk kx nx tx mx ks cl) = foldV (patV d) (if kx = 2 then [tx] else []) ks := rfl
  rw [hpv]
  have hl0 : (if kx = 2 then [tx] else ([] : List ByteArray)).length ≤ 1 := by split <;> simp
  have ok0 : ∀ s ∈ (if kx = 2 then [tx] else ([] : List ByteArray)), okS s := fun s hs => by
    split at hs
    · simp at hs; subst hs; exact hts
    · simp at hs
  have LQ : Hid (∀ k, (foldV (patV d) (if kx = 2 then [tx] else []) (ks.take k)).length ≤ 1048577) := fun k => by
    have h1 := foldV_len (patV d) (wtEx d) (ks.take k) (if kx = 2 then [tx] else []) (fun y _ => patV_len d y)
    have h2 : wtS (wtEx d) (ks.take k) ≤ wtS (wtEx d) ks := by
      have h3 := sum_take_le (wtEx d) ks k
      have h4 : (ks.take k).length ≤ ks.length := by rw [List.length_take]; omega
      unfold wtS; omega
    omega
  have OQ : Hid (∀ k, ∀ s ∈ foldV (patV d) (if kx = 2 then [tx] else []) (ks.take k), okS s) := fun k s hs => by
    rcases foldV_mem _ _ _ s hs with h | ⟨y, hy, h⟩
    · exact ok0 s h
    · exact patV_ok d y (hok.2.1 y (List.mem_of_mem_take hy)) s h
  have BX : Hid (∀ k x, ks[k]? = some x → wtEx d x ≤ 1048576 ∧ exS d x ∧ (patV d x).length ≤ 1048577) := fun k x hk => by
    have h1 := sum_take_succ (wtEx d) ks k x hk
    have h2 := sum_take_le (wtEx d) ks (k + 1)
    have h3 := patV_len d x
    have h4 : wtEx d x ≤ 1048576 := by unfold wtS at wks; omega
    exact ⟨h4, hok.2.1 x (List.mem_of_getElem? hk), by omega⟩
  generalize hn : ks.length = n at *
  have HN : Hid (ks.length = n) := hn
  have HX : Hid (ks ≠ [] → ∃ g off, p = some ⟨g, off, none⟩ ∧ All g ∧ g < w.heap.size ∧ ∀ i x, ks[i]? = some x → ∃ cs, cs.length = 6 ∧ (∀ j, j < 6 → w.cell? ⟨g, off + i * 6 + j, none⟩ = cs[j]?) ∧ HEx w All d cs x) := hx
  obtain ⟨W1, hW1⟩ : ∃ W1, W1 = w.alloc (.cells #[.int .i64 kx, .int .i64 nx, .string tx, .string mx, .slice p n cap, cv] 73) := ⟨_, rfl⟩
  have bA : Hid (Blk W1 w.heap.size #[.int .i64 kx, .int .i64 nx, .string tx, .string mx, .slice p n cap, cv] 73) := by show Blk _ _ _ _; rw [hW1]; exact Blk.new
  have B1 : Hid (Below w.heap.size w W1) := by show Below _ _ _; rw [hW1]; exact (Below.refl _ _).alloc (Nat.le_refl _) _
  have hs1 : W1.heap.size = w.heap.size + 1 := by rw [hW1]; simp
  have HW1 : Hid (W1 = w.alloc (.cells #[.int .i64 kx, .int .i64 nx, .string tx, .string mx, .slice p n cap, cv] 73)) := hW1
  have O1 : Hid (OwnS (W1.alloc (.cells #[] 9)) (w.heap.size + 1) (.slice (some ⟨w.heap.size + 1, 0, none⟩) 0 0) []) := by
    have := OwnS.fresh (w := W1)
    rwa [hs1] at this
  have BB : Hid (Below w.heap.size w (W1.alloc (.cells #[] 9))) := B1.out.alloc B1.out.size _
  have bB : Hid (Blk (W1.alloc (.cells #[] 9)) w.heap.size #[.int .i64 kx, .int .i64 nx, .string tx, .string mx, .slice p n cap, cv] 73) := bA.out.alloc
  clear hx hn hok ok0 hw hwt hW1 hpv
  by_cases k2 : kx = 2
  · subst k2
    simp only [if_true] at LQ OQ ⊢
    have O2 : Hid (OwnS ((W1.alloc (.cells #[] 9)).alloc (.cells #[.string tx] 9)) (w.heap.size + 1) (.slice (some ⟨w.heap.size + 1, 0, none⟩) 0 0) []) := O1.out.next ((Below.refl _ _).alloc (Nat.le_refl _) _)
    have N1 : Hid (∀ j u, (strs [tx])[j]? = some u → ((W1.alloc (.cells #[] 9)).alloc (.cells #[.string tx] 9)).cell? ((⟨w.heap.size + 1 + 1, 0, none⟩ : Addr).add j) = some u) := one_str _ tx _ (by simp only [alloc_hs]; omega)
    have B2 : Hid (Below w.heap.size w ((W1.alloc (.cells #[] 9)).alloc (.cells #[.string tx] 9))) := BB.out.alloc BB.out.size _
    have bC : Hid (Blk ((W1.alloc (.cells #[] 9)).alloc (.cells #[.string tx] 9)) w.heap.size #[.int .i64 2, .int .i64 nx, .string tx, .string mx, .slice p n cap, cv] 73) := bB.out.alloc
    have y0 := bB.out.cell 0 _ rfl
    have y2 := bB.out.cell 2 _ rfl
    go_enter Tryz.func52, Tryz.ntmps52
    go_wp2_with (first | (at_builtin; rw [← HW1.out]; refine wpList_append_own _ rfl _ _ 48 rfl (w.heap.size + 1) 9 i (.string ⟨#[]⟩) 1 16 Tryz.underlying48 hi hz0 hz1 hz2 rfl (by decide) (.slice (some ⟨w.heap.size + 1, 0, none⟩) 0 0) _ _ rfl O2.out.1 ⟨w.heap.size + 1 + 1, 0, none⟩ 1 1 (strs [tx]) rfl rfl N1.out (strs_oneCell _) (by unfold maxLen; simp) (by simp) O2.out.2 ?_))
    intro u2 w2 hown2 hgr2 _
    have HO2 : Hid (OwnS w2 w.heap.size u2 [tx]) := by
      have := OwnS.of (l := []) (m := [tx]) hown2 (by simp) rfl (Nat.le_trans O2.out.2 hgr2.size)
      exact OwnS.base (by simpa using this) (by omega)
    have bD : Hid (Blk w2 w.heap.size #[.int .i64 2, .int .i64 nx, .string tx, .string mx, .slice p n cap, cv] 73) := O2.out.blk hgr2 bC.out (by simp [Value.ownBlock])
    have HB2 : Hid (Below w.heap.size w w2) := B2.out.trans ((O2.out.below hgr2).mono (by omega))
    clear hown2 hgr2 y0 y2
    go_wp2_with fail
    go_loopw [3, 4] (fun ov iv wr => ∃ k : Nat, k ≤ n ∧ iv = .int .i64 k ∧ Hid (OwnS wr w.heap.size ov (foldV (patV d) [tx] (ks.take k))) ∧ Hid (Blk wr w.heap.size #[.int .i64 2, .int .i64 nx, .string tx, .string mx, .slice p n cap, cv] 73) ∧ Below w.heap.size w wr) (fun _ iv _ => n - (intOf iv).toNat)
    case atStart => exact ⟨0, Nat.zero_le _, rfl, HO2.out, bD.out, HB2.out⟩
    case round =>
      obtain ⟨k, hk, rfl, ho, hbk, hb⟩ := hrel
      have HB : Hid (Below w.heap.size w wr) := hb
      have xa4 := hbk.out.cell 4 _ rfl
      by_cases hlt : k < n
      · obtain ⟨x, hxk⟩ : ∃ x, ks[k]? = some x := ⟨ks[k]'(by rw [HN.out]; exact hlt), List.getElem?_eq_getElem _⟩
        obtain ⟨g, off, rfl, -, hgl, hat⟩ := HX.out (by intro h; rw [h] at hxk; simp at hxk)
        obtain ⟨cs, hcsl, hcs, r1⟩ := hat k x hxk
        have E1 : ∀ w', Below w.heap.size w w' → HEx w' All d cs x := fun w' hw => r1.mono (SameOn.of_below hw) (fun _ h => h)
        obtain ⟨c0, c1, c2, c3, c4, c5, rfl⟩ := len6 hcsl
        have a0 := hcs 0 (by omega)
        have a1 := hcs 1 (by omega)
        have a2 := hcs 2 (by omega)
        have a3 := hcs 3 (by omega)
        have a4 := hcs 4 (by omega)
        have a5 := hcs 5 (by omega)
        rw [← hb.cell (p := ⟨g, _, none⟩) hgl] at a0 a1 a2 a3 a4 a5
        simp at a0 a1 a2 a3 a4 a5
        have hki : (k : Int) < (n : Int) := by omega
        have hk0 : (0 : Int) ≤ (k : Int) := by omega
        obtain ⟨wx, sx, lx⟩ := BX.out k x hxk
        have HJ : Hid (foldV (patV d) [tx] (ks.take (k + 1)) = onceS (foldV (patV d) [tx] (ks.take k)) (patV d x)) := foldV_snoc _ _ ks k x hxk
        have lq := LQ.out k
        have oq := OQ.out k
        generalize hJ0 : foldV (patV d) [tx] (ks.take k) = J at *
        clear hb hcs hat hcsl r1 hJ0
        go_wp2_with fail
        refine (hE _ _ x (E1 _ HB.out) wx).mono ?_
        rintro e w4 ⟨u4, rfl, ho4, hb4⟩
        have HB4 : Hid (Below w.heap.size w w4) := HB.out.trans (hb4.mono HB.out.size)
        have SV : Hid (StrV w4 u3 J) := (ho.out.next hb4).strV oq
        have SR : Hid (StrR w4 u4 (patV d x)) := ho4.strR (patV_ok d x sx)
        have bk4 : Hid (Blk w4 w.heap.size #[.int .i64 2, .int .i64 nx, .string tx, .string mx, .slice (some ⟨g, off, none⟩) n cap, cv] 73) := hbk.out.next hb4
        clear hb4 ho4 xa4 a0 a1 a2 a3 a4 a5
        go_wp2_with fail
        refine (once_any _ _ _ J (patV d x) SV.out SR.out (by omega)).mono ?_
        rintro e w5 ⟨u5, rfl, ho5, hb5⟩
        have HB5 : Hid (Below w.heap.size w w5) := HB4.out.trans (hb5.mono HB4.out.size)
        have HO5 : Hid (OwnS w5 w.heap.size u5 (onceS J (patV d x))) := ho5.base HB4.out.size
        have bk5 : Hid (Blk w5 w.heap.size #[.int .i64 2, .int .i64 nx, .string tx, .string mx, .slice (some ⟨g, off, none⟩) n cap, cv] 73) := bk4.out.next hb5
        clear hb5 ho5
        go_wp2_with fail
        exact ⟨⟨k + 1, by omega, by go_num, by show OwnS _ _ _ _; rw [HJ.out]; exact HO5.out, bk5.out, HB5.out⟩, by simp [intOf]; omega⟩
      · have HS : Hid (OwnS wr w.heap.size u3 (foldV (patV d) [tx] ks)) := by
          have := ho.out
          rwa [List.take_of_length_le (by rw [HN.out]; omega)] at this
        clear hb
        go_wp2_with fail
        go_ret
        exact ⟨u3, rfl, HS.out, HB.out⟩
  · have L2 : (if kx = 2 then [tx] else ([] : List ByteArray)) = [] := if_neg k2
    simp only [L2] at LQ OQ ⊢
    clear L2
    have k2b : (kx == 2) = false := by simpa using k2
    have O9 : Hid (OwnS (W1.alloc (.cells #[] 9)) w.heap.size (.slice (some ⟨w.heap.size + 1, 0, none⟩) 0 0) []) := O1.out.base (by omega)
    have y0 := bA.out.cell 0 _ rfl
    go_enter Tryz.func52, Tryz.ntmps52
    go_wp2_with fail
    rw [← HW1.out]
    go_loopw [3, 4] (fun ov iv wr => ∃ k : Nat, k ≤ n ∧ iv = .int .i64 k ∧ Hid (OwnS wr w.heap.size ov (foldV (patV d) [] (ks.take k))) ∧ Hid (Blk wr w.heap.size #[.int .i64 kx, .int .i64 nx, .string tx, .string mx, .slice p n cap, cv] 73) ∧ Below w.heap.size w wr) (fun _ iv _ => n - (intOf iv).toNat)
    case atStart => exact ⟨0, Nat.zero_le _, rfl, O9.out, bB.out, BB.out⟩
    case round =>
      obtain ⟨k, hk, rfl, ho, hbk, hb⟩ := hrel
      have HB : Hid (Below w.heap.size w wr) := hb
      have xa4 := hbk.out.cell 4 _ rfl
      by_cases hlt : k < n
      · obtain ⟨x, hxk⟩ : ∃ x, ks[k]? = some x := ⟨ks[k]'(by rw [HN.out]; exact hlt), List.getElem?_eq_getElem _⟩
        obtain ⟨g, off, rfl, -, hgl, hat⟩ := HX.out (by intro h; rw [h] at hxk; simp at hxk)
        obtain ⟨cs, hcsl, hcs, r1⟩ := hat k x hxk
        have E1 : ∀ w', Below w.heap.size w w' → HEx w' All d cs x := fun w' hw => r1.mono (SameOn.of_below hw) (fun _ h => h)
        obtain ⟨c0, c1, c2, c3, c4, c5, rfl⟩ := len6 hcsl
        have a0 := hcs 0 (by omega)
        have a1 := hcs 1 (by omega)
        have a2 := hcs 2 (by omega)
        have a3 := hcs 3 (by omega)
        have a4 := hcs 4 (by omega)
        have a5 := hcs 5 (by omega)
        rw [← hb.cell (p := ⟨g, _, none⟩) hgl] at a0 a1 a2 a3 a4 a5
        simp at a0 a1 a2 a3 a4 a5
        have hki : (k : Int) < (n : Int) := by omega
        have hk0 : (0 : Int) ≤ (k : Int) := by omega
        obtain ⟨wx, sx, lx⟩ := BX.out k x hxk
        have HJ : Hid (foldV (patV d) [] (ks.take (k + 1)) = onceS (foldV (patV d) [] (ks.take k)) (patV d x)) := foldV_snoc _ _ ks k x hxk
        have lq := LQ.out k
        have oq := OQ.out k
        generalize hJ0 : foldV (patV d) [] (ks.take k) = J at *
        clear hb hcs hat hcsl r1 hJ0
        go_wp2_with fail
        refine (hE _ _ x (E1 _ HB.out) wx).mono ?_
        rintro e w4 ⟨u4, rfl, ho4, hb4⟩
        have HB4 : Hid (Below w.heap.size w w4) := HB.out.trans (hb4.mono HB.out.size)
        have SV : Hid (StrV w4 u3 J) := (ho.out.next hb4).strV oq
        have SR : Hid (StrR w4 u4 (patV d x)) := ho4.strR (patV_ok d x sx)
        have bk4 : Hid (Blk w4 w.heap.size #[.int .i64 kx, .int .i64 nx, .string tx, .string mx, .slice (some ⟨g, off, none⟩) n cap, cv] 73) := hbk.out.next hb4
        clear hb4 ho4 xa4 a0 a1 a2 a3 a4 a5
        go_wp2_with fail
        refine (once_any _ _ _ J (patV d x) SV.out SR.out (by omega)).mono ?_
        rintro e w5 ⟨u5, rfl, ho5, hb5⟩
        have HB5 : Hid (Below w.heap.size w w5) := HB4.out.trans (hb5.mono HB4.out.size)
        have HO5 : Hid (OwnS w5 w.heap.size u5 (onceS J (patV d x))) := ho5.base HB4.out.size
        have bk5 : Hid (Blk w5 w.heap.size #[.int .i64 kx, .int .i64 nx, .string tx, .string mx, .slice (some ⟨g, off, none⟩) n cap, cv] 73) := bk4.out.next hb5
        clear hb5 ho5
        go_wp2_with fail
        exact ⟨⟨k + 1, by omega, by go_num, by show OwnS _ _ _ _; rw [HJ.out]; exact HO5.out, bk5.out, HB5.out⟩, by simp [intOf]; omega⟩
      · have HS : Hid (OwnS wr w.heap.size u3 (foldV (patV d) [] ks)) := by
          have := ho.out
          rwa [List.take_of_length_le (by rw [HN.out]; omega)] at this
        clear hb
        go_wp2_with fail
        go_ret
        exact ⟨u3, rfl, HS.out, HB.out⟩

theorem patVars_all : ∀ d, NmC 52 d (patV d)
  | 0 => fun w cs x h _ => h.elim
  | d + 1 => patVars_of (patVars_all d)
end Go.Proofs.YtigfmdfgioccjaaGreatDoor
