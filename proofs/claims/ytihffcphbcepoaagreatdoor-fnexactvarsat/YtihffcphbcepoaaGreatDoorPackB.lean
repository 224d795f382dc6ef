/-
  Texts of the proof, packed: ModOkSpecE, ModOkImplD, ProgOkA, StrRow, CheckMath, PlBase, Wt, NameMath, NameMath2, NameSpecA, NameSpecB, NameSpecE, AtMath, AtImplA, NameSpecD, NameSpecF, AtSpecA, CheckSpecA, AtSpecB, AtImplB.
-/
import Derived.Test.YtihffcphbcepoaaGreatDoorPackA
import Derived.Laws.AppendOwn
import Derived.Laws.AppendOwnNone
import Derived.OwnWalk
import Derived.Deep.RegionLaw
import Derived.Deep.RegionHeldLaw
import Derived.Deep.AppendLies
import Derived.Deep.QuietTactic
import Derived.BigQuiet
import Derived.Deep.RegionHeld3
/-
  The specification's ModuleOk, by contract: modules.
-/
namespace Go.Proofs.YtihffcphbcepoaaGreatDoor
open Go.ChangeShapes Go.WideShapes Go.ChangeAt Go.RowKit
set_option linter.unusedVariables false

theorem any_take_lt {α : Type} (f : α → Bool) (xs : List α) (i k : Nat) (x : α) (h : xs[k]? = some x) (hf : f x = true) (hki : k < i) : (xs.take i).any f = true := by
  rw [List.any_eq_true]
  refine ⟨x, List.mem_of_getElem? (i := k) ?_, hf⟩
  rw [List.getElem?_take, if_pos hki]; exact h
theorem any_take_get {α : Type} (f : α → Bool) (xs : List α) (i : Nat) (h : (xs.take i).any f = true) : ∃ j x, j < i ∧ xs[j]? = some x ∧ f x = true := by
  rw [List.any_eq_true] at h
  obtain ⟨x, hx, hf⟩ := h
  obtain ⟨j, hj⟩ := List.mem_iff_getElem?.1 hx
  rw [List.getElem?_take] at hj
  split at hj
  · exact ⟨j, x, by assumption, hj, hf⟩
  · cases hj

set_option maxHeartbeats 8000000 in
set_option maxRecDepth 100000 in
theorem l02Find_any (d : Nat) (w : World) (ms : ByteArray) (pe : Option Addr) (ne ce : Nat) (v : Value) (fs : List Fn') (i : Nat) (f : Fn') (h : Rows w All 3 (HFn w All d) v fs) (hi : fs[i]? = some f) :
    Calls Tryz.prog 87 #[.agg #[.string ms, .slice pe ne ce, v], .string f.name, .int .i64 f.arity] w fun e w' => ∃ r : Int, e = .returned (.int .i64 r) ∧ (r == (i : Int)) = !(fs.take i).any (sameR ⟨f.name, f.arity⟩) ∧ Below w.heap.size w w' := by
  obtain ⟨pf, cf, rfl, hcl, hcm, hx⟩ := h
  have hnb : fs.length ≤ 9223372036854775807 := by unfold maxLen at hcm; omega
  have HI : Hid (fs[i]? = some f) := hi
  have hself : sameR ⟨f.name, f.arity⟩ f = true := by simp [sameR]
  have HSELF : Hid (sameR ⟨f.name, f.arity⟩ f = true) := hself
  obtain ⟨rs, rn, fcl⟩ := f
  simp only at *
  generalize hn : fs.length = nf at *
  have HN : Hid (fs.length = nf) := hn
  have HX : Hid (fs ≠ [] → ∃ g off, pf = some ⟨g, off, none⟩ ∧ All g ∧ g < w.heap.size ∧ ∀ i x, fs[i]? = some x → ∃ cs, cs.length = 3 ∧ (∀ j, j < 3 → w.cell? ⟨g, off + i * 3 + j, none⟩ = cs[j]?) ∧ HFn w All d cs x) := hx
  obtain ⟨W1, hW1⟩ : ∃ W1, W1 = w.alloc (.cells #[.string ms, .slice pe ne ce, .slice pf nf cf] 54) := ⟨_, rfl⟩
  have bA : Hid (Blk W1 w.heap.size #[.string ms, .slice pe ne ce, .slice pf nf cf] 54) := by show Blk _ _ _ _; rw [hW1]; exact Blk.new
  have B1 : Hid (Below w.heap.size w W1) := by show Below _ _ _; rw [hW1]; exact (Below.refl _ _).alloc (Nat.le_refl _) _
  have xa2 := bA.out.cell 2 _ rfl
  have HW1 : Hid (W1 = w.alloc (.cells #[.string ms, .slice pe ne ce, .slice pf nf cf] 54)) := hW1
  clear hx hn hi hself hW1
  go_enter Tryz.func87, Tryz.ntmps87
  go_wp2_with fail
  rw [← HW1.out]
  go_loop [7] (fun iv => ∃ k : Nat, k ≤ nf ∧ iv = .int .i64 k ∧ Hid ((fs.take k).any (sameR ⟨rs, rn⟩) = false)) (fun iv => nf - (intOf iv).toNat)
  case atStart => exact ⟨0, Nat.zero_le _, rfl, by show _ = _; simp⟩
  case round =>
    obtain ⟨k, hk, rfl, hall⟩ := hrel
    by_cases hlt : k < nf
    · obtain ⟨x, hxk⟩ : ∃ x, fs[k]? = some x := ⟨fs[k]'(by rw [HN.out]; exact hlt), List.getElem?_eq_getElem _⟩
      obtain ⟨g, off, rfl, -, hgl, hat⟩ := HX.out (by intro h; rw [h] at hxk; simp at hxk)
      obtain ⟨cs, hcsl, hcs, r1⟩ := hat k x hxk
      obtain ⟨p1, n1, q1, rfl⟩ := fnShape r1
      have HC2 : Hid (sameR ⟨rs, rn⟩ x = false → (fs.take (k + 1)).any (sameR ⟨rs, rn⟩) = false) := fun h => anyT_succ _ fs k _ hxk hall.out h
      have HC3 : Hid (sameR ⟨rs, rn⟩ x = true → ((k : Int) == (i : Int)) = !(fs.take i).any (sameR ⟨rs, rn⟩)) := fun h => by
        have hki : k ≤ i := Classical.byContradiction fun hc => by
          have := any_take_lt (sameR ⟨rs, rn⟩) fs k i _ HI.out HSELF.out (by omega)
          rw [hall.out] at this; cases this
        by_cases he : k = i
        · subst he; rw [hall.out]; simp
        · rw [any_take_lt (sameR ⟨rs, rn⟩) fs i k x hxk h (by omega)]; simp; omega
      obtain ⟨xs, xn, xc⟩ := x
      simp only at *
      have hsm : sameR ⟨rs, rn⟩ ⟨xs, xn, xc⟩ = (xs.toList == rs.toList && xn == rn) := rfl
      rw [hsm] at HC2 HC3
      have a0 := hcs 0 (by omega)
      have a1 := hcs 1 (by omega)
      have a2 := hcs 2 (by omega)
      rw [← B1.out.cell (p := ⟨g, _, none⟩) hgl] at a0 a1 a2
      simp at a0 a1 a2
      have hki : (k : Int) < (nf : Int) := by omega
      have hk0 : (0 : Int) ≤ (k : Int) := by omega
      clear hcs hat hcsl r1 hsm
      cases c1 : (xs.toList == rs.toList) with
      | false =>
        have HT' : Hid ((fs.take (k + 1)).any (sameR ⟨rs, rn⟩) = false) := HC2.out (by rw [c1]; rfl)
        clear HC2 HC3
        go_wp2
        go_round
        case rel => exact ⟨k + 1, by omega, by go_num, HT'⟩
        case measure => simp [intOf]; omega
      | true =>
        cases c2 : (xn == rn) with
        | false =>
          have HT' : Hid ((fs.take (k + 1)).any (sameR ⟨rs, rn⟩) = false) := HC2.out (by rw [c2, Bool.and_false])
          clear HC2 HC3
          go_wp2
          go_round
          case rel => exact ⟨k + 1, by omega, by go_num, HT'⟩
          case measure => simp [intOf]; omega
        | true =>
          have HF : Hid (((k : Int) == (i : Int)) = !(fs.take i).any (sameR ⟨rs, rn⟩)) := HC3.out (by rw [c1, c2]; rfl)
          clear HC2 HC3
          go_wp2
          go_ret
          exact ⟨_, rfl, HF.out, B1.out⟩
    · exfalso
      have h1 := hall.out
      have h2 := any_take_lt (sameR ⟨rs, rn⟩) fs k i _ HI.out HSELF.out (by
        have := (List.getElem?_eq_some_iff.1 HI.out).1
        have := HN.out
        omega)
      rw [h1] at h2; cases h2

set_option maxHeartbeats 16000000 in
set_option maxRecDepth 100000 in
/-- THE SPECIFICATION's ModuleOk. -/
theorem specModuleOk_any (d : Nat) (w : World) (cs : List Value) (m : Md) (h : HMd w All d cs m) :
    Calls Tryz.prog 76 #[.agg cs.toArray] w fun e w' => e = .returned (.bool (mdOk d m)) ∧ Below w.heap.size w w' := by
  obtain ⟨ev, fv, rfl, hs, f0, f1⟩ := h
  obtain ⟨ms, es, fs⟩ := m
  simp only at *
  have FR : ∀ w', Below w.heap.size w w' → Rows w' All 3 (HFn w' All d) fv fs := fun w' hw => f1.mono (SameOn.of_below hw) (fun _ h => h) (fun _ _ _ h => h.mono (SameOn.of_below hw) (fun _ h => h))
  obtain ⟨pe, ce, rfl, hce, hcme, hxe⟩ := f0
  obtain ⟨pf, cf, rfl, hcf, hcmf, hxf⟩ := f1
  have hne : es.length ≤ 9223372036854775807 := by unfold maxLen at hcme; omega
  have hnf : fs.length ≤ 9223372036854775807 := by unfold maxLen at hcmf; omega
  have hv : mdOk d ⟨ms, es, fs⟩ = (atomB ms && ((decide (es.length ≤ 20) && (List.range es.length).all (rfsAt es)) && (inB fs.length 1 30 && (List.range fs.length).all (fnsAt d fs)))) := rfl
  rw [hv]
  clear hv
  generalize hn : es.length = ne at *
  generalize hn2 : fs.length = nf at *
  have HN : Hid (es.length = ne) := hn
  have HN2 : Hid (fs.length = nf) := hn2
  have HE : Hid (es ≠ [] → ∃ g off, pe = some ⟨g, off, none⟩ ∧ All g ∧ g < w.heap.size ∧ ∀ i x, es[i]? = some x → ∃ cs, cs.length = 2 ∧ (∀ j, j < 2 → w.cell? ⟨g, off + i * 2 + j, none⟩ = cs[j]?) ∧ HRf cs x) := hxe
  have HF0 : Hid (fs ≠ [] → ∃ g off, pf = some ⟨g, off, none⟩ ∧ All g ∧ g < w.heap.size ∧ ∀ i x, fs[i]? = some x → ∃ cs, cs.length = 3 ∧ (∀ j, j < 3 → w.cell? ⟨g, off + i * 3 + j, none⟩ = cs[j]?) ∧ HFn w All d cs x) := hxf
  obtain ⟨W1, hW1⟩ : ∃ W1, W1 = w.alloc (.cells #[.string ms, .slice pe ne ce, .slice pf nf cf] 54) := ⟨_, rfl⟩
  have bA : Hid (Blk W1 w.heap.size #[.string ms, .slice pe ne ce, .slice pf nf cf] 54) := by show Blk _ _ _ _; rw [hW1]; exact Blk.new
  have B1 : Hid (Below w.heap.size w W1) := by show Below _ _ _; rw [hW1]; exact (Below.refl _ _).alloc (Nat.le_refl _) _
  have HW1 : Hid (W1 = w.alloc (.cells #[.string ms, .slice pe ne ce, .slice pf nf cf] 54)) := hW1
  clear hxe hxf hn hn2 hW1
  cases ha : atomB ms with
  | false =>
    go_enter Tryz.func76, Tryz.ntmps76
    go_wp2_with (first | (go_at_call 115; go_must (refine (specAtomOk_any _ _ hs).mono ?_; rintro e w9 ⟨rfl, rfl⟩; rw [ha])))
    rw [← HW1.out]
    go_ret
    exact ⟨by simp, B1.out⟩
  | true =>
  by_cases h20 : ¬ ne ≤ 20
  · have h21 : (20 : Int) < (ne : Int) := by omega
    rw [decide_eq_false h20]
    go_enter Tryz.func76, Tryz.ntmps76
    go_wp2_with (first | (go_at_call 115; go_must (refine (specAtomOk_any _ _ hs).mono ?_; rintro e w9 ⟨rfl, rfl⟩; rw [ha])))
    rw [← HW1.out]
    go_ret
    exact ⟨by simp, B1.out⟩
  replace h20 : ne ≤ 20 := by omega
  have h21 : ¬ (20 : Int) < (ne : Int) := by omega
  rw [decide_eq_true h20]
  cases hin : inB nf 1 30 with
  | false =>
    go_enter Tryz.func76, Tryz.ntmps76
    go_wp2_with (first | (go_at_call 115; go_must (refine (specAtomOk_any _ _ hs).mono ?_; rintro e w9 ⟨rfl, rfl⟩; rw [ha])) | (go_at_call 75; go_must (refine (l01In_any _ _ _ _).mono ?_; rintro e w9 ⟨rfl, rfl⟩; rw [hin])))
    rw [← HW1.out]
    go_ret
    exact ⟨by simp, B1.out⟩
  | true =>
  simp only [Bool.true_and]
  go_enter Tryz.func76, Tryz.ntmps76
  go_wp2_with (first | (go_at_call 115; go_must (refine (specAtomOk_any _ _ hs).mono ?_; rintro e w9 ⟨rfl, rfl⟩; rw [ha])) | (go_at_call 75; go_must (refine (l01In_any _ _ _ _).mono ?_; rintro e w9 ⟨rfl, rfl⟩; rw [hin])))
  rw [← HW1.out]
  go_loopw [3] (fun iv wr => ∃ k : Nat, k ≤ ne ∧ iv = .int .i64 k ∧ Hid ((List.range k).all (rfsAt es) = true) ∧ Hid (SameOn All W1 wr) ∧ Below w.heap.size w wr) (fun iv _ => ne - (intOf iv).toNat)
  case atStart => exact ⟨0, Nat.zero_le _, rfl, by show _ = _; simp, ⟨Nat.le_refl _, fun _ _ _ => rfl⟩, B1.out⟩
  case round =>
    obtain ⟨k, hk, rfl, hall, hso, hb⟩ := hrel
    have HB : Hid (Below w.heap.size w wr) := hb
    have b1 := bA.out.same_on hso.out
    have hlw := b1.lt
    have xa0 := b1.cell 0 _ rfl
    have xa1 := b1.cell 1 _ rfl
    have xa2 := b1.cell 2 _ rfl
    clear b1
    by_cases hlt : k < ne
    · obtain ⟨x, hxk⟩ : ∃ x, es[k]? = some x := ⟨es[k]'(by rw [HN.out]; exact hlt), List.getElem?_eq_getElem _⟩
      obtain ⟨g, off, rfl, -, hgl, hat⟩ := HE.out (by intro h; rw [h] at hxk; simp at hxk)
      obtain ⟨cs, hcsl, hcs, r1⟩ := hat k x hxk
      obtain ⟨rfl, hxs, -⟩ := r1
      have hgw : g < wr.heap.size := Nat.lt_of_lt_of_le hgl hb.size
      have HAT0 : Hid (k = 0 → rfsAt es k = refB x) := fun h => rfsAt_zero h hxk
      have HATS : Hid (∀ j, k = j + 1 → ∃ q : Rf, rfsAt es k = (refB x && lessB q x) ∧ wr.cell? ⟨g, off + j * 2, none⟩ = some (.string q.name) ∧ wr.cell? ⟨g, off + j * 2 + 1, none⟩ = some (.int .i64 q.arity)) := fun j hj => by
        obtain ⟨q, hq⟩ : ∃ q, es[j]? = some q := ⟨es[j]'(by rw [HN.out]; omega), List.getElem?_eq_getElem _⟩
        obtain ⟨cs', _, hcs', rfl, hqs, _⟩ := hat j q hq
        have b0 := hcs' 0 (by omega)
        have b1 := hcs' 1 (by omega)
        rw [← hb.cell (p := ⟨g, _, none⟩) hgl] at b0 b1
        exact ⟨q, rfsAt_succ (by omega) (by rw [hj]; exact hq) hxk, by simpa using b0, by simpa using b1⟩
      have a0 := hcs 0 (by omega)
      have a1 := hcs 1 (by omega)
      rw [← hb.cell (p := ⟨g, _, none⟩) hgl] at a0 a1
      simp at a0 a1
      have hki : (k : Int) < (ne : Int) := by omega
      have hk0 : (0 : Int) ≤ (k : Int) := by omega
      obtain ⟨xs, xn⟩ := x
      simp only at *
      have hrf : refB ⟨xs, xn⟩ = (atomB xs && inB xn 0 6) := rfl
      rw [hrf] at HAT0 HATS
      generalize hca : atomB xs = ca at *
      have HCA : Hid (atomB xs = ca) := hca
      generalize hci : inB xn 0 6 = ci at *
      have HCI : Hid (inB xn 0 6 = ci) := hci
      obtain ⟨W5, hW5⟩ : ∃ W5, W5 = wr.alloc (.cells #[.string xs, .int .i64 xn] 73) := ⟨_, rfl⟩
      have bF : Hid (Blk W5 wr.heap.size #[.string xs, .int .i64 xn] 73) := by show Blk _ _ _ _; rw [hW5]; exact Blk.new
      have K5 : Hid (Below wr.heap.size wr W5) := by show Below _ _ _; rw [hW5]; exact (Below.refl _ _).alloc (Nat.le_refl _) _
      have B5 : Hid (Below w.heap.size w W5) := hb.trans (K5.out.mono hb.size)
      have S5 : Hid (SameOn All W1 W5) := hso.out.trans (SameOn.of_below K5.out)
      have HW5 : Hid (W5 = wr.alloc (.cells #[.string xs, .int .i64 xn] 73)) := hW5
      have hg5 : g < W5.heap.size := Nat.lt_of_lt_of_le hgw K5.out.size
      have z0 := bF.out.cell 0 _ rfl
      have z1 := bF.out.cell 1 _ rfl
      have l2 := bF.out.lt
      have bM := bA.out.same_on S5.out
      have u1 := bM.cell 1 _ rfl
      have l3 := bM.lt
      have qz0 : ∀ m : Wd (fun w' => SameOn All W5 w' ∧ Below w.heap.size w w'), m.val.cell? ⟨wr.heap.size, 0, none⟩ = some (.string xs) := fun m => (World.cell?_of_block (m.ok.1.2 wr.heap.size trivial l2)).trans z0
      have qz1 : ∀ m : Wd (fun w' => SameOn All W5 w' ∧ Below w.heap.size w w'), m.val.cell? ⟨wr.heap.size, 1, none⟩ = some (.int .i64 xn) := fun m => (World.cell?_of_block (m.ok.1.2 wr.heap.size trivial l2)).trans z1
      have qu1 : ∀ m : Wd (fun w' => SameOn All W5 w' ∧ Below w.heap.size w w'), m.val.cell? ⟨w.heap.size, 1, none⟩ = some (.slice (some ⟨g, off, none⟩) ne ce) := fun m => (World.cell?_of_block (m.ok.1.2 w.heap.size trivial l3)).trans u1
      clear hb hcs hat hcsl hW5 z0 z1 l2 hca hci bM u1 l3
      by_cases hac : (ca && ci) = false
      · have HF : Hid ((List.range ne).all (rfsAt es) = false) := rangeT_at _ ne k hlt (by
          rcases Nat.eq_zero_or_pos k with h | h
          · rw [HAT0.out h, hac]
          · obtain ⟨q, hq, _⟩ := HATS.out (k - 1) (by omega)
            rw [hq, hac]; rfl)
        clear HAT0 HATS
        cases ca with
        | false =>
          go_wp2_with fail
          rw [← HW5.out]
          have hCne : Nonempty (Wd (fun w' => SameOn All W5 w' ∧ Below w.heap.size w w')) := ⟨⟨W5.drew, ⟨⟨Nat.le_refl _, fun _ _ _ => rfl⟩, B5.out.drew⟩⟩⟩
          refine wp_region_class (fun w' => SameOn All W5 w' ∧ Below w.heap.size w w') (by kernel_rfl) (by kernel_rfl) ⟨⟨Nat.le_refl _, fun _ _ _ => rfl⟩, B5.out.drew⟩ ?_
          repeat (go_big_quiet_step (first | (rename_i m; go_at_call 115; refine (specAtomOk_any _ _ hxs).mono ?_; rintro e w1 ⟨rfl, rfl⟩; exact ⟨by rw [HCA.out], ⟨m, rfl⟩⟩)))
          refine wpQuiet_nil ?_
          rintro _ ⟨mq, rfl⟩
          have HB4 : Hid (Below w.heap.size w mq.val) := mq.ok.2
          have HS4 : Hid (SameOn All W5 mq.val) := mq.ok.1
          generalize mq.val = w4 at HB4 HS4 ⊢
          go_wp2_with fail
          go_ret
          exact ⟨by rw [HF.out]; rfl, HB4.out⟩
        | true =>
          obtain rfl : ci = false := by simpa using hac
          clear hac
          go_wp2_with fail
          rw [← HW5.out]
          have hCne : Nonempty (Wd (fun w' => SameOn All W5 w' ∧ Below w.heap.size w w')) := ⟨⟨W5.drew, ⟨⟨Nat.le_refl _, fun _ _ _ => rfl⟩, B5.out.drew⟩⟩⟩
          refine wp_region_class (fun w' => SameOn All W5 w' ∧ Below w.heap.size w w') (by kernel_rfl) (by kernel_rfl) ⟨⟨Nat.le_refl _, fun _ _ _ => rfl⟩, B5.out.drew⟩ ?_
          repeat (go_big_quiet_step (first | (rename_i m; go_at_call 115; refine (specAtomOk_any _ _ hxs).mono ?_; rintro e w1 ⟨rfl, rfl⟩; exact ⟨by rw [HCA.out], ⟨m, rfl⟩⟩) | (rename_i m; go_at_call 75; refine (l01In_any _ _ _ _).mono ?_; rintro e w1 ⟨rfl, rfl⟩; exact ⟨by rw [HCI.out], ⟨m, rfl⟩⟩)))
          refine wpQuiet_nil ?_
          rintro _ ⟨mq, rfl⟩
          have HB4 : Hid (Below w.heap.size w mq.val) := mq.ok.2
          have HS4 : Hid (SameOn All W5 mq.val) := mq.ok.1
          generalize mq.val = w4 at HB4 HS4 ⊢
          go_wp2_with fail
          go_ret
          exact ⟨by rw [HF.out]; rfl, HB4.out⟩
      · obtain ⟨rfl, rfl⟩ : ca = true ∧ ci = true := by simpa using hac
        clear hac
        rcases Nat.eq_zero_or_pos k with hz | hz
        · have HT' : Hid ((List.range (k + 1)).all (rfsAt es) = true) := rangeT_succ _ k hall.out (HAT0.out hz)
          have hz1 : ¬ (0 : Int) < (k : Int) := by omega
          have hz3 : ¬ 0 < k := by omega
          have hz4 : decide (0 < k) = false := decide_eq_false hz3
          clear HAT0 HATS hz
          go_wp2_with fail
          rw [← HW5.out]
          have hCne : Nonempty (Wd (fun w' => SameOn All W5 w' ∧ Below w.heap.size w w')) := ⟨⟨W5.drew, ⟨⟨Nat.le_refl _, fun _ _ _ => rfl⟩, B5.out.drew⟩⟩⟩
          refine wp_region_class (fun w' => SameOn All W5 w' ∧ Below w.heap.size w w') (by kernel_rfl) (by kernel_rfl) ⟨⟨Nat.le_refl _, fun _ _ _ => rfl⟩, B5.out.drew⟩ ?_
          repeat (go_big_quiet_step (first | (rename_i m; go_at_call 115; refine (specAtomOk_any _ _ hxs).mono ?_; rintro e w1 ⟨rfl, rfl⟩; exact ⟨by rw [HCA.out], ⟨m, rfl⟩⟩) | (rename_i m; go_at_call 75; refine (l01In_any _ _ _ _).mono ?_; rintro e w1 ⟨rfl, rfl⟩; exact ⟨by rw [HCI.out], ⟨m, rfl⟩⟩)))
          refine wpQuiet_nil ?_
          rintro _ ⟨mq, rfl⟩
          have HB4 : Hid (Below w.heap.size w mq.val) := mq.ok.2
          have HS4 : Hid (SameOn All W5 mq.val) := mq.ok.1
          generalize mq.val = w4 at HB4 HS4 ⊢
          have HS9 : Hid (SameOn All W1 w4) := S5.out.trans HS4.out
          go_wp2_with fail
          exact ⟨⟨k + 1, by omega, by go_num, HT'.out, HS9.out, HB4.out⟩, by simp [intOf]; omega⟩
        · obtain ⟨j, rfl⟩ : ∃ j, k = j + 1 := ⟨k - 1, by omega⟩
          obtain ⟨q, hat, y0, y1⟩ := HATS.out j rfl
          have HAT : Hid (rfsAt es (j + 1) = ((true && true) && lessB q ⟨xs, xn⟩)) := hat
          obtain ⟨qs, qn⟩ := q
          simp only at *
          have qy0 : ∀ m : Wd (fun w' => SameOn All W5 w' ∧ Below w.heap.size w w'), m.val.cell? ⟨g, off + j * 2, none⟩ = some (.string qs) := fun m => (World.cell?_of_block (m.ok.1.2 g trivial hg5)).trans (cell_next K5.out y0)
          have qy1 : ∀ m : Wd (fun w' => SameOn All W5 w' ∧ Below w.heap.size w w'), m.val.cell? ⟨g, off + j * 2 + 1, none⟩ = some (.int .i64 qn) := fun m => (World.cell?_of_block (m.ok.1.2 g trivial hg5)).trans (cell_next K5.out y1)
          have hji : (j : Int) < (ne : Int) := by omega
          have hj0 : (0 : Int) ≤ (j : Int) := by omega
          have hj1 : (0 : Int) < (j : Int) + 1 := by omega
          generalize hz9 : lessB ⟨qs, qn⟩ ⟨xs, xn⟩ = z
          have HCL : Hid (lessB ⟨qs, qn⟩ ⟨xs, xn⟩ = z) := hz9
          have HT2 : Hid (z = true → (List.range (j + 1 + 1)).all (rfsAt es) = true) := fun h => rangeT_succ _ (j + 1) hall.out (by rw [HAT.out, hz9, h]; rfl)
          have HF2 : Hid (z = false → (List.range ne).all (rfsAt es) = false) := fun h => rangeT_at _ ne (j + 1) hlt (by rw [HAT.out, hz9, h]; rfl)
          clear HAT0 HATS hat hz y0 y1 hz9
          go_wp2_with fail
          rw [← HW5.out]
          have hCne : Nonempty (Wd (fun w' => SameOn All W5 w' ∧ Below w.heap.size w w')) := ⟨⟨W5.drew, ⟨⟨Nat.le_refl _, fun _ _ _ => rfl⟩, B5.out.drew⟩⟩⟩
          refine wp_region_class (fun w' => SameOn All W5 w' ∧ Below w.heap.size w w') (by kernel_rfl) (by kernel_rfl) ⟨⟨Nat.le_refl _, fun _ _ _ => rfl⟩, B5.out.drew⟩ ?_
          repeat (go_big_quiet_step (first | (rename_i m; go_at_call 115; refine (specAtomOk_any _ _ hxs).mono ?_; rintro e w1 ⟨rfl, rfl⟩; exact ⟨by rw [HCA.out], ⟨m, rfl⟩⟩) | (rename_i m; go_at_call 75; refine (l01In_any _ _ _ _).mono ?_; rintro e w1 ⟨rfl, rfl⟩; exact ⟨by rw [HCI.out], ⟨m, rfl⟩⟩) | (rename_i m; go_at_call 116; refine (l02Less_any ⟨qs, qn⟩ ⟨xs, xn⟩ _).mono ?_; rintro e w1 ⟨rfl, hb1⟩; exact ⟨by rw [HCL.out], ⟨⟨w1, ⟨(SameOn.trans m.ok.1 (SameOn.of_below hb1)), m.ok.2.trans (hb1.mono m.ok.2.size)⟩⟩, rfl⟩⟩)))
          refine wpQuiet_nil ?_
          rintro _ ⟨mq, rfl⟩
          have HB4 : Hid (Below w.heap.size w mq.val) := mq.ok.2
          have HS4 : Hid (SameOn All W5 mq.val) := mq.ok.1
          generalize mq.val = w4 at HB4 HS4 ⊢
          have HS9 : Hid (SameOn All W1 w4) := S5.out.trans HS4.out
          cases z with
          | true =>
            have HT' : Hid _ := HT2.out rfl
            clear HT2 HF2
            go_wp2_with fail
            exact ⟨⟨j + 1 + 1, by omega, by go_num, HT'.out, HS9.out, HB4.out⟩, by simp [intOf]; omega⟩
          | false =>
            have HF' : Hid _ := HF2.out rfl
            clear HT2 HF2
            go_wp2_with fail
            go_ret
            exact ⟨by rw [HF'.out]; rfl, HB4.out⟩
    · have HDE : Hid ((List.range ne).all (rfsAt es) = true) := by
        obtain rfl : k = ne := by omega
        exact hall.out
      clear hb
      go_wp2_with fail
      clear xa0 xa1 xa2
      go_loopw [5] (fun iv wr => ∃ k : Nat, k ≤ nf ∧ iv = .int .i64 k ∧ Hid ((List.range k).all (fnsAt d fs) = true) ∧ Hid (SameOn All W1 wr) ∧ Below w.heap.size w wr) (fun iv _ => nf - (intOf iv).toNat)
      case atStart => exact ⟨0, Nat.zero_le _, rfl, by show _ = _; simp, hso.out, HB.out⟩
      case round =>
        clear HB hso
        obtain ⟨k, hk, rfl, hall, hso, hb⟩ := hrel
        have HB : Hid (Below w.heap.size w wr) := hb
        have b1 := bA.out.same_on hso.out
        have hlw := b1.lt
        have xa0 := b1.cell 0 _ rfl
        have xa1 := b1.cell 1 _ rfl
        have xa2 := b1.cell 2 _ rfl
        clear b1
        by_cases hlt : k < nf
        · obtain ⟨x, hxk⟩ : ∃ x, fs[k]? = some x := ⟨fs[k]'(by rw [HN2.out]; exact hlt), List.getElem?_eq_getElem _⟩
          obtain ⟨g, off, rfl, -, hgl, hat⟩ := HF0.out (by intro h; rw [h] at hxk; simp at hxk)
          obtain ⟨cs, hcsl, hcs, r1⟩ := hat k x hxk
          have HAT : Hid (fnsAt d fs k = (fnB d x && !(fs.take k).any (sameR ⟨x.name, x.arity⟩))) := fnsAt_eq hxk
          have HFI : Hid (∀ w', Below w.heap.size w w' → Calls Tryz.prog 87 #[.agg #[.string ms, .slice pe ne ce, .slice (some ⟨g, off, none⟩) nf cf], .string x.name, .int .i64 x.arity] w' fun e w'' => ∃ r : Int, e = .returned (.int .i64 r) ∧ (r == (k : Int)) = !(fs.take k).any (sameR ⟨x.name, x.arity⟩) ∧ Below w'.heap.size w' w'') := fun w' hw => l02Find_any d w' ms pe ne ce _ fs k x (FR w' hw) hxk
          obtain ⟨cv, rfl, hxs, -, hcr⟩ := r1
          obtain ⟨xs, xn, xc⟩ := x
          simp only at *
          have CR : ∀ w', Below w.heap.size w w' → Rows w' All 2 (HCl w' All (HEx w' All d)) cv xc := fun w' hw => hcr.mono (SameOn.of_below hw) (fun _ h => h) (fun _ _ _ h => h.mono (SameOn.of_below hw) (fun _ h => h) (fun _ _ h => h.mono (SameOn.of_below hw) (fun _ h => h)))
          obtain ⟨pc, cc, rfl, hcc, hcmc, hxc⟩ := hcr
          have hncb : xc.length ≤ 9223372036854775807 := by unfold maxLen at hcmc; omega
          have hfb : fnB d ⟨xs, xn, xc⟩ = ((atomB xs && inB xn 0 6) && (inB xc.length 1 20 && xc.all (fun c => clB (fun y q => exOk d y q 40) c xn))) := rfl
          rw [hfb] at HAT
          clear hfb
          generalize hn3 : xc.length = nc at *
          have HN3 : Hid (xc.length = nc) := hn3
          have HC0 : Hid (xc ≠ [] → ∃ g off, pc = some ⟨g, off, none⟩ ∧ All g ∧ g < w.heap.size ∧ ∀ i x, xc[i]? = some x → ∃ cs, cs.length = 2 ∧ (∀ j, j < 2 → w.cell? ⟨g, off + i * 2 + j, none⟩ = cs[j]?) ∧ HCl w All (HEx w All d) cs x) := hxc
          have a0 := hcs 0 (by omega)
          have a1 := hcs 1 (by omega)
          have a2 := hcs 2 (by omega)
          rw [← hb.cell (p := ⟨g, _, none⟩) hgl] at a0 a1 a2
          simp at a0 a1 a2
          have hki : (k : Int) < (nf : Int) := by omega
          have hk0 : (0 : Int) ≤ (k : Int) := by omega
          generalize hcb : (fs.take k).any (sameR ⟨xs, xn⟩) = cb at *
          obtain ⟨W5, hW5⟩ : ∃ W5, W5 = wr.alloc (.cells #[.string xs, .int .i64 xn, .slice pc nc cc] 57) := ⟨_, rfl⟩
          have bF : Hid (Blk W5 wr.heap.size #[.string xs, .int .i64 xn, .slice pc nc cc] 57) := by show Blk _ _ _ _; rw [hW5]; exact Blk.new
          have K5 : Hid (Below wr.heap.size wr W5) := by show Below _ _ _; rw [hW5]; exact (Below.refl _ _).alloc (Nat.le_refl _) _
          have B5 : Hid (Below w.heap.size w W5) := hb.trans (K5.out.mono hb.size)
          have S5 : Hid (SameOn All W1 W5) := hso.out.trans (SameOn.of_below K5.out)
          have HW5 : Hid (W5 = wr.alloc (.cells #[.string xs, .int .i64 xn, .slice pc nc cc] 57)) := hW5
          clear hb hcs hat hcsl hW5 hcb hxc hn3
          by_cases hac : (atomB xs && inB xn 0 6) = false
          · have HF : Hid ((List.range nf).all (fnsAt d fs) = false) := rangeT_at _ nf k hlt (by rw [HAT.out, hac]; rfl)
            clear HAT
            cases ca : atomB xs with
            | false =>
              go_wp2_with (first | (go_at_call 115; go_must (refine (specAtomOk_any _ _ hxs).mono ?_; rintro e w9 ⟨rfl, rfl⟩; rw [ca])))
              rw [← HW5.out]
              go_ret
              exact ⟨by rw [HDE.out, HF.out]; rfl, B5.out⟩
            | true =>
              have ci : inB xn 0 6 = false := by rw [ca] at hac; simpa using hac
              go_wp2_with (first | (go_at_call 115; go_must (refine (specAtomOk_any _ _ hxs).mono ?_; rintro e w9 ⟨rfl, rfl⟩; rw [ca])) | (go_at_call 75; go_must (refine (l01In_any _ _ _ _).mono ?_; rintro e w9 ⟨rfl, rfl⟩; rw [ci])))
              rw [← HW5.out]
              go_ret
              exact ⟨by rw [HDE.out, HF.out]; rfl, B5.out⟩
          obtain ⟨ca, ci⟩ : atomB xs = true ∧ inB xn 0 6 = true := by simpa using hac
          rw [ca, ci] at HAT
          clear hac
          have bM := bA.out.same_on S5.out
          have u0 := bM.cell 0 _ rfl
          have u1 := bM.cell 1 _ rfl
          have u2 := bM.cell 2 _ rfl
          rw [HW5.out] at u0 u1 u2
          clear bM
          cases cb with
          | true =>
            have HF : Hid ((List.range nf).all (fnsAt d fs) = false) := rangeT_at _ nf k hlt (by rw [HAT.out]; simp)
            clear HAT
            go_wp2_with (first | (go_at_call 115; go_must (refine (specAtomOk_any _ _ hxs).mono ?_; rintro e w9 ⟨rfl, rfl⟩; rw [ca])) | (go_at_call 75; go_must (refine (l01In_any _ _ _ _).mono ?_; rintro e w9 ⟨rfl, rfl⟩; rw [ci])))
            rw [← HW5.out]
            refine (HFI.out _ B5.out).mono ?_
            rintro e w6 ⟨r, rfl, hri, hb6⟩
            have hr2 : (r != (k : Int)) = true := by simpa using hri
            have B6 : Hid (Below w.heap.size w w6) := B5.out.trans (hb6.mono B5.out.size)
            clear hri hb6
            go_wp2_with fail
            go_ret
            exact ⟨by rw [HDE.out, HF.out]; rfl, B6.out⟩
          | false =>
            cases cin : inB nc 1 20 with
            | false =>
              have HF : Hid ((List.range nf).all (fnsAt d fs) = false) := rangeT_at _ nf k hlt (by rw [HAT.out, cin]; simp)
              clear HAT
              go_wp2_with (first | (go_at_call 115; go_must (refine (specAtomOk_any _ _ hxs).mono ?_; rintro e w9 ⟨rfl, rfl⟩; rw [ca])) | (go_at_call 75; go_must (refine (l01In_any _ _ _ _).mono ?_; rintro e w9 ⟨rfl, rfl⟩; rw [ci])))
              rw [← HW5.out]
              refine (HFI.out _ B5.out).mono ?_
              rintro e w6 ⟨r, rfl, hri, hb6⟩
              obtain rfl : r = (k : Int) := by simpa using hri
              have B6 : Hid (Below w.heap.size w w6) := B5.out.trans (hb6.mono B5.out.size)
              have S6 : Hid (SameOn All W5 w6) := SameOn.of_below hb6
              have bG : Hid (Blk w6 wr.heap.size #[.string xs, .int .i64 xn, .slice pc nc cc] 57) := bF.out.next hb6
              have v0 := bG.out.cell 0 _ rfl
              have v1 := bG.out.cell 1 _ rfl
              have v2 := bG.out.cell 2 _ rfl
              clear hri hb6
              go_wp2_with (first | (go_at_call 75; go_must (refine (l01In_any _ _ _ _).mono ?_; rintro e w9 ⟨rfl, hw9⟩; rw [cin, hw9]; clear hw9 w9)))
              go_ret
              exact ⟨by rw [HDE.out, HF.out]; rfl, B6.out⟩
            | true =>
              rw [cin] at HAT
              go_wp2_with (first | (go_at_call 115; go_must (refine (specAtomOk_any _ _ hxs).mono ?_; rintro e w9 ⟨rfl, rfl⟩; rw [ca])) | (go_at_call 75; go_must (refine (l01In_any _ _ _ _).mono ?_; rintro e w9 ⟨rfl, rfl⟩; rw [ci])))
              rw [← HW5.out]
              refine (HFI.out _ B5.out).mono ?_
              rintro e w6 ⟨r, rfl, hri, hb6⟩
              obtain rfl : r = (k : Int) := by simpa using hri
              have B6 : Hid (Below w.heap.size w w6) := B5.out.trans (hb6.mono B5.out.size)
              have S6 : Hid (SameOn All W5 w6) := SameOn.of_below hb6
              have bG : Hid (Blk w6 wr.heap.size #[.string xs, .int .i64 xn, .slice pc nc cc] 57) := bF.out.next hb6
              have v0 := bG.out.cell 0 _ rfl
              have v1 := bG.out.cell 1 _ rfl
              have v2 := bG.out.cell 2 _ rfl
              clear hri hb6
              go_wp2_with (first | (go_at_call 75; go_must (refine (l01In_any _ _ _ _).mono ?_; rintro e w9 ⟨rfl, hw9⟩; rw [cin, hw9]; clear hw9 w9)))
              clear v0 v1 v2 u0 u1 u2 xa0 xa1 xa2
              obtain ⟨W6, hW6⟩ : ∃ W6, W6 = wr.heap.size := ⟨_, rfl⟩
              have HW6 : Hid (W6 = wr.heap.size) := hW6
              rw [← hW6] at bG ⊢
              have S1 : Hid (SameOn All W1 w6) := S5.out.trans S6.out
              clear hW6 HW6 hlw bF HW5 K5 S5 S6 B5
              go_loopw [7] (fun iv wr => ∃ k2 : Nat, k2 ≤ nc ∧ iv = .int .i64 k2 ∧ Hid ((xc.take k2).all (fun c => clB (fun y q => exOk d y q 40) c xn) = true) ∧ Hid (SameOn All w6 wr) ∧ Below w.heap.size w wr) (fun iv _ => nc - (intOf iv).toNat)
              case atStart => exact ⟨0, Nat.zero_le _, rfl, by show _ = _; simp, ⟨Nat.le_refl _, fun _ _ _ => rfl⟩, B6.out⟩
              case round =>
                clear HB hso
                obtain ⟨k2, hk2, rfl, hall2, hso, hb⟩ := hrel
                have HB : Hid (Below w.heap.size w wr) := hb
                have b1 := bG.out.same_on hso.out
                have hlw := b1.lt
                have xa1 := b1.cell 1 _ rfl
                have xa2 := b1.cell 2 _ rfl
                clear b1
                by_cases hlt2 : k2 < nc
                · obtain ⟨c, hck⟩ : ∃ c, xc[k2]? = some c := ⟨xc[k2]'(by rw [HN3.out]; exact hlt2), List.getElem?_eq_getElem _⟩
                  obtain ⟨g2, off2, rfl, -, hgl2, hat2⟩ := HC0.out (by intro h; rw [h] at hck; simp at hck)
                  obtain ⟨cs, hcsl, hcs, r1⟩ := hat2 k2 c hck
                  have E1 : ∀ w', SameOn All wr w' → HCl w' All (HEx w' All d) cs c := fun w' hw => r1.mono (SameOn.trans (SameOn.of_below hb) hw) (fun _ h => h) (fun _ _ h => h.mono (SameOn.trans (SameOn.of_below hb) hw) (fun _ h => h))
                  obtain ⟨c0, c1, rfl⟩ := len2 hcsl
                  have a0 := hcs 0 (by omega)
                  have a1 := hcs 1 (by omega)
                  rw [← hb.cell (p := ⟨g2, _, none⟩) hgl2] at a0 a1
                  simp at a0 a1
                  have hki2 : (k2 : Int) < (nc : Int) := by omega
                  have hk02 : (0 : Int) ≤ (k2 : Int) := by omega
                  have hgw : g2 < wr.heap.size := Nat.lt_of_lt_of_le hgl2 hb.size
                  have qa0 : ∀ m : Wd (fun w' => SameOn All wr w' ∧ Below w.heap.size w w'), m.val.cell? ⟨g2, off2 + k2 * 2, none⟩ = some c0 := fun m => (World.cell?_of_block (m.ok.1.2 g2 trivial hgw)).trans a0
                  have qa1 : ∀ m : Wd (fun w' => SameOn All wr w' ∧ Below w.heap.size w w'), m.val.cell? ⟨g2, off2 + k2 * 2 + 1, none⟩ = some c1 := fun m => (World.cell?_of_block (m.ok.1.2 g2 trivial hgw)).trans a1
                  have qx1 : ∀ m : Wd (fun w' => SameOn All wr w' ∧ Below w.heap.size w w'), m.val.cell? ⟨W6, 1, none⟩ = some (.int .i64 xn) := fun m => (World.cell?_of_block (m.ok.1.2 W6 trivial hlw)).trans xa1
                  have qx2 : ∀ m : Wd (fun w' => SameOn All wr w' ∧ Below w.heap.size w w'), m.val.cell? ⟨W6, 2, none⟩ = some (.slice (some ⟨g2, off2, none⟩) nc cc) := fun m => (World.cell?_of_block (m.ok.1.2 W6 trivial hlw)).trans xa2
                  clear hb hcs hat2 hcsl r1
                  generalize hcv : clB (fun y q => exOk d y q 40) c xn = cv
                  have HCV : Hid (clB (fun y q => exOk d y q 40) c xn = cv) := hcv
                  have HC2 : Hid (cv = true → (xc.take (k2 + 1)).all (fun c => clB (fun y q => exOk d y q 40) c xn) = true) := fun h => allT_succ _ xc k2 c hck hall2.out (hcv.trans h)
                  have HC3 : Hid (cv = false → (List.range nf).all (fnsAt d fs) = false) := fun h => rangeT_at _ nf k hlt (by rw [HAT.out, allT_at _ xc k2 c hck (hcv.trans h)]; rfl)
                  clear hcv
                  go_wp2
                  have hCne : Nonempty (Wd (fun w' => SameOn All wr w' ∧ Below w.heap.size w w')) := ⟨⟨wr.drew, ⟨⟨Nat.le_refl _, fun _ _ _ => rfl⟩, HB.out.drew⟩⟩⟩
                  refine wp_region_class (fun w' => SameOn All wr w' ∧ Below w.heap.size w w') (by kernel_rfl) (by kernel_rfl) ⟨⟨Nat.le_refl _, fun _ _ _ => rfl⟩, HB.out.drew⟩ ?_
                  repeat (go_big_quiet_step (first | (rename_i m; go_at_call 117; refine (clause_allS d _ _ c xn 40 (E1 _ m.ok.1) (by omega) (by omega)).mono ?_; rintro e w1 ⟨rfl, hb1⟩; exact ⟨by rw [HCV.out], ⟨⟨w1, ⟨(SameOn.trans m.ok.1 (SameOn.of_below hb1)), m.ok.2.trans (hb1.mono m.ok.2.size)⟩⟩, rfl⟩⟩)))
                  refine wpQuiet_nil ?_
                  rintro _ ⟨mq, rfl⟩
                  have HB4 : Hid (Below w.heap.size w mq.val) := mq.ok.2
                  have HS4 : Hid (SameOn All w6 mq.val) := hso.out.trans mq.ok.1
                  generalize mq.val = w4 at HB4 HS4 ⊢
                  clear HCV
                  cases cv with
                  | true =>
                    have HT' : Hid _ := HC2.out rfl
                    clear HC2 HC3
                    go_wp2_with fail
                    exact ⟨⟨k2 + 1, by omega, by go_num, HT'.out, HS4.out, HB4.out⟩, by simp [intOf]; omega⟩
                  | false =>
                    have HF : Hid _ := HC3.out rfl
                    clear HC2 HC3
                    go_wp2_with fail
                    go_ret
                    exact ⟨by rw [HDE.out, HF.out]; rfl, HB4.out⟩
                · have HT' : Hid ((List.range (k + 1)).all (fnsAt d fs) = true) := rangeT_succ _ k hall.out (by
                    have := hall2.out
                    rw [List.take_of_length_le (by rw [HN3.out]; omega)] at this
                    rw [HAT.out, this]; rfl)
                  have HS9 : Hid (SameOn All W1 wr) := S1.out.trans hso.out
                  clear hb
                  go_wp2_with fail
                  exact ⟨⟨k + 1, by omega, by go_num, HT'.out, HS9.out, HB.out⟩, by simp [intOf]; omega⟩
        · have HD : Hid ((List.range nf).all (fnsAt d fs) = true) := by
            obtain rfl : k = nf := by omega
            exact hall.out
          clear hb
          go_wp2_with fail
          go_ret
          exact ⟨by rw [HDE.out, HD.out]; rfl, HB.out⟩
end Go.Proofs.YtihffcphbcepoaaGreatDoor
/-
  The program's ModuleOk, by contract: exports, modules.
-/
namespace Go.Proofs.YtihffcphbcepoaaGreatDoor
open Go.ChangeShapes Go.WideShapes Go.ChangeAt Go.RowKit
set_option linter.unusedVariables false

set_option maxHeartbeats 8000000 in
set_option maxRecDepth 100000 in
theorem exportsOk_any (w : World) (v : Value) (es : List Rf) (hT : Tabs w) (h : Rows w All 2 HRf v es) :
    Calls Tryz.prog 120 #[v] w fun e w' => e = .returned (.bool (decide (es.length ≤ 20) && rfsB es)) ∧ Below w.heap.size w w' := by
  have HT : Hid (Tabs w) := hT
  obtain ⟨p, cap, rfl, hcl, hcm, hx⟩ := h
  have hnb : es.length ≤ 9223372036854775807 := by unfold maxLen at hcm; omega
  have hfn : rfsB es = (List.range es.length).all (rfsAt es) := rfl
  rw [hfn]
  clear hfn
  generalize hn : es.length = n at *
  have HN : Hid (es.length = n) := hn
  have HX : Hid (es ≠ [] → ∃ g off, p = some ⟨g, off, none⟩ ∧ All g ∧ g < w.heap.size ∧ ∀ i x, es[i]? = some x → ∃ cs, cs.length = 2 ∧ (∀ j, j < 2 → w.cell? ⟨g, off + i * 2 + j, none⟩ = cs[j]?) ∧ HRf cs x) := hx
  clear hx hn hT
  by_cases h20 : n ≤ 20
  · have h21 : ¬ (20 : Int) < (n : Int) := by omega
    rw [decide_eq_true h20]
    go_enter Tryz.func120, Tryz.ntmps120
    go_wp2_with fail
    go_loopw [10] (fun iv wr => ∃ k : Nat, k ≤ n ∧ iv = .int .i64 k ∧ Hid ((List.range k).all (rfsAt es) = true) ∧ Below w.heap.size w wr) (fun iv _ => n - (intOf iv).toNat)
    case atStart => exact ⟨0, Nat.zero_le _, rfl, by show _ = _; simp, Below.refl _ _⟩
    case round =>
      obtain ⟨k, hk, rfl, hall, hb⟩ := hrel
      have HB : Hid (Below w.heap.size w wr) := hb
      by_cases hlt : k < n
      · obtain ⟨x, hxk⟩ : ∃ x, es[k]? = some x := ⟨es[k]'(by rw [HN.out]; exact hlt), List.getElem?_eq_getElem _⟩
        obtain ⟨g, off, rfl, -, hgl, hat⟩ := HX.out (by intro h; rw [h] at hxk; simp at hxk)
        obtain ⟨cs, hcsl, hcs, r1⟩ := hat k x hxk
        obtain ⟨rfl, hxs, -⟩ := r1
        have hgw : g < wr.heap.size := Nat.lt_of_lt_of_le hgl hb.size
        have HAT0 : Hid (k = 0 → rfsAt es k = refB x) := fun h => rfsAt_zero h hxk
        have HATS : Hid (∀ j, k = j + 1 → ∃ q : Rf, rfsAt es k = (refB x && lessB q x) ∧ okS q.name ∧ wr.cell? ⟨g, off + j * 2, none⟩ = some (.string q.name) ∧ wr.cell? ⟨g, off + j * 2 + 1, none⟩ = some (.int .i64 q.arity)) := fun j hj => by
          obtain ⟨q, hq⟩ : ∃ q, es[j]? = some q := ⟨es[j]'(by rw [HN.out]; omega), List.getElem?_eq_getElem _⟩
          obtain ⟨cs', _, hcs', rfl, hqs, _⟩ := hat j q hq
          have b0 := hcs' 0 (by omega)
          have b1 := hcs' 1 (by omega)
          rw [← hb.cell (p := ⟨g, _, none⟩) hgl] at b0 b1
          exact ⟨q, rfsAt_succ (by omega) (by rw [hj]; exact hq) hxk, hqs, by simpa using b0, by simpa using b1⟩
        have a0 := hcs 0 (by omega)
        have a1 := hcs 1 (by omega)
        rw [← hb.cell (p := ⟨g, _, none⟩) hgl] at a0 a1
        simp at a0 a1
        have hki : (k : Int) < (n : Int) := by omega
        have hk0 : (0 : Int) ≤ (k : Int) := by omega
        generalize hca : refB x = ca at *
        have HCA : Hid (refB x = ca) := hca
        obtain ⟨xs, xn⟩ := x
        simp only at *
        obtain ⟨W5, hW5⟩ : ∃ W5, W5 = wr.alloc (.cells #[.string xs, .int .i64 xn] 73) := ⟨_, rfl⟩
        have bF : Hid (Blk W5 wr.heap.size #[.string xs, .int .i64 xn] 73) := by show Blk _ _ _ _; rw [hW5]; exact Blk.new
        have K5 : Hid (Below wr.heap.size wr W5) := by show Below _ _ _; rw [hW5]; exact (Below.refl _ _).alloc (Nat.le_refl _) _
        have B5 : Hid (Below w.heap.size w W5) := hb.trans (K5.out.mono hb.size)
        have HW5 : Hid (W5 = wr.alloc (.cells #[.string xs, .int .i64 xn] 73)) := hW5
        have hg5 : g < W5.heap.size := Nat.lt_of_lt_of_le hgw K5.out.size
        have z0 := bF.out.cell 0 _ rfl
        have z1 := bF.out.cell 1 _ rfl
        have l2 := bF.out.lt
        have qz0 : ∀ m : Wd (fun w' => SameOn All W5 w' ∧ Below w.heap.size w w'), m.val.cell? ⟨wr.heap.size, 0, none⟩ = some (.string xs) := fun m => (World.cell?_of_block (m.ok.1.2 wr.heap.size trivial l2)).trans z0
        have qz1 : ∀ m : Wd (fun w' => SameOn All W5 w' ∧ Below w.heap.size w w'), m.val.cell? ⟨wr.heap.size, 1, none⟩ = some (.int .i64 xn) := fun m => (World.cell?_of_block (m.ok.1.2 wr.heap.size trivial l2)).trans z1
        clear hb hcs hat hcsl hW5 z0 z1 l2 hca
        cases ca with
        | false =>
          have HF : Hid ((List.range n).all (rfsAt es) = false) := rangeT_at _ n k hlt (by
            rcases Nat.eq_zero_or_pos k with h | h
            · exact HAT0.out h
            · obtain ⟨q, hq, _⟩ := HATS.out (k - 1) (by omega)
              rw [hq]; rfl)
          clear HAT0 HATS
          go_wp2_with fail
          rw [← HW5.out]
          have hCne : Nonempty (Wd (fun w' => SameOn All W5 w' ∧ Below w.heap.size w w')) := ⟨⟨W5.drew, ⟨⟨Nat.le_refl _, fun _ _ _ => rfl⟩, B5.out.drew⟩⟩⟩
          refine wp_region_class (fun w' => SameOn All W5 w' ∧ Below w.heap.size w w') (by kernel_rfl) (by kernel_rfl) ⟨⟨Nat.le_refl _, fun _ _ _ => rfl⟩, B5.out.drew⟩ ?_
          repeat (go_big_quiet_step (first | (rename_i m; go_at_call 160; refine (refOk_any ⟨xs, xn⟩ _ hxs (HT.out.below m.ok.2).keys).mono ?_; rintro e w1 ⟨rfl, hb1⟩; exact ⟨by rw [HCA.out], ⟨⟨w1, ⟨(SameOn.trans m.ok.1 (SameOn.of_below hb1)), m.ok.2.trans (hb1.mono m.ok.2.size)⟩⟩, rfl⟩⟩)))
          refine wpQuiet_nil ?_
          rintro _ ⟨mq, rfl⟩
          have HB4 : Hid (Below w.heap.size w mq.val) := mq.ok.2
          have HS4 : Hid (SameOn All W5 mq.val) := mq.ok.1
          generalize mq.val = w4 at HB4 HS4 ⊢
          go_wp2_with fail
          go_ret
          exact ⟨by rw [HF.out]; rfl, HB4.out⟩
        | true =>
          rcases Nat.eq_zero_or_pos k with hz | hz
          · have HT' : Hid ((List.range (k + 1)).all (rfsAt es) = true) := rangeT_succ _ k hall.out (HAT0.out hz)
            have hz1 : ¬ (0 : Int) < (k : Int) := by omega
            have hz3 : ¬ 0 < k := by omega
            have hz4 : decide (0 < k) = false := decide_eq_false hz3
            clear HAT0 HATS hz
            go_wp2_with fail
            rw [← HW5.out]
            have hCne : Nonempty (Wd (fun w' => SameOn All W5 w' ∧ Below w.heap.size w w')) := ⟨⟨W5.drew, ⟨⟨Nat.le_refl _, fun _ _ _ => rfl⟩, B5.out.drew⟩⟩⟩
            refine wp_region_class (fun w' => SameOn All W5 w' ∧ Below w.heap.size w w') (by kernel_rfl) (by kernel_rfl) ⟨⟨Nat.le_refl _, fun _ _ _ => rfl⟩, B5.out.drew⟩ ?_
            repeat (go_big_quiet_step (first | (rename_i m; go_at_call 160; refine (refOk_any ⟨xs, xn⟩ _ hxs (HT.out.below m.ok.2).keys).mono ?_; rintro e w1 ⟨rfl, hb1⟩; exact ⟨by rw [HCA.out], ⟨⟨w1, ⟨(SameOn.trans m.ok.1 (SameOn.of_below hb1)), m.ok.2.trans (hb1.mono m.ok.2.size)⟩⟩, rfl⟩⟩)))
            refine wpQuiet_nil ?_
            rintro _ ⟨mq, rfl⟩
            have HB4 : Hid (Below w.heap.size w mq.val) := mq.ok.2
            have HS4 : Hid (SameOn All W5 mq.val) := mq.ok.1
            generalize mq.val = w4 at HB4 HS4 ⊢
            go_wp2_with fail
            exact ⟨⟨k + 1, by omega, by go_num, HT'.out, HB4.out⟩, by simp [intOf]; omega⟩
          · obtain ⟨j, rfl⟩ : ∃ j, k = j + 1 := ⟨k - 1, by omega⟩
            obtain ⟨q, hat, hqs, y0, y1⟩ := HATS.out j rfl
            have HAT : Hid (rfsAt es (j + 1) = (true && lessB q ⟨xs, xn⟩)) := hat
            obtain ⟨qs, qn⟩ := q
            simp only at *
            have qy0 : ∀ m : Wd (fun w' => SameOn All W5 w' ∧ Below w.heap.size w w'), m.val.cell? ⟨g, off + j * 2, none⟩ = some (.string qs) := fun m => (World.cell?_of_block (m.ok.1.2 g trivial hg5)).trans (cell_next K5.out y0)
            have qy1 : ∀ m : Wd (fun w' => SameOn All W5 w' ∧ Below w.heap.size w w'), m.val.cell? ⟨g, off + j * 2 + 1, none⟩ = some (.int .i64 qn) := fun m => (World.cell?_of_block (m.ok.1.2 g trivial hg5)).trans (cell_next K5.out y1)
            have hji : (j : Int) < (n : Int) := by omega
            have hj0 : (0 : Int) ≤ (j : Int) := by omega
            have hj1 : (0 : Int) < (j : Int) + 1 := by omega
            generalize hz9 : cmpRf ⟨qs, qn⟩ ⟨xs, xn⟩ = z
            have HZ : Hid (cmpRf ⟨qs, qn⟩ ⟨xs, xn⟩ = z) := hz9
            have HL : Hid (lessB ⟨qs, qn⟩ ⟨xs, xn⟩ = decide (z < 0)) := by show _ = _; unfold lessB; rw [hz9]
            clear HAT0 HATS hat hz y0 y1 hz9
            by_cases hzl : z < 0
            · have HT' : Hid ((List.range (j + 1 + 1)).all (rfsAt es) = true) := rangeT_succ _ (j + 1) hall.out (by rw [HAT.out, HL.out, decide_eq_true hzl]; rfl)
              have hzl2 : ¬ 0 ≤ z := by omega
              go_wp2_with fail
              rw [← HW5.out]
              have hCne : Nonempty (Wd (fun w' => SameOn All W5 w' ∧ Below w.heap.size w w')) := ⟨⟨W5.drew, ⟨⟨Nat.le_refl _, fun _ _ _ => rfl⟩, B5.out.drew⟩⟩⟩
              refine wp_region_class (fun w' => SameOn All W5 w' ∧ Below w.heap.size w w') (by kernel_rfl) (by kernel_rfl) ⟨⟨Nat.le_refl _, fun _ _ _ => rfl⟩, B5.out.drew⟩ ?_
              repeat (go_big_quiet_step (first | (rename_i m; go_at_call 160; refine (refOk_any ⟨xs, xn⟩ _ hxs (HT.out.below m.ok.2).keys).mono ?_; rintro e w1 ⟨rfl, hb1⟩; exact ⟨by rw [HCA.out], ⟨⟨w1, ⟨(SameOn.trans m.ok.1 (SameOn.of_below hb1)), m.ok.2.trans (hb1.mono m.ok.2.size)⟩⟩, rfl⟩⟩) | (rename_i m; go_at_call 161; refine (compareRef_any ⟨qs, qn⟩ ⟨xs, xn⟩ _).mono ?_; rintro e w1 ⟨rfl, hb1⟩; exact ⟨by rw [HZ.out], ⟨⟨w1, ⟨(SameOn.trans m.ok.1 (SameOn.of_below hb1)), m.ok.2.trans (hb1.mono m.ok.2.size)⟩⟩, rfl⟩⟩)))
              refine wpQuiet_nil ?_
              rintro _ ⟨mq, rfl⟩
              have HB4 : Hid (Below w.heap.size w mq.val) := mq.ok.2
              have HS4 : Hid (SameOn All W5 mq.val) := mq.ok.1
              generalize mq.val = w4 at HB4 HS4 ⊢
              go_wp2_with fail
              exact ⟨⟨j + 1 + 1, by omega, by go_num, HT'.out, HB4.out⟩, by simp [intOf]; omega⟩
            · have HF : Hid ((List.range n).all (rfsAt es) = false) := rangeT_at _ n (j + 1) hlt (by rw [HAT.out, HL.out, decide_eq_false hzl]; rfl)
              have hzl2 : 0 ≤ z := by omega
              go_wp2_with fail
              rw [← HW5.out]
              have hCne : Nonempty (Wd (fun w' => SameOn All W5 w' ∧ Below w.heap.size w w')) := ⟨⟨W5.drew, ⟨⟨Nat.le_refl _, fun _ _ _ => rfl⟩, B5.out.drew⟩⟩⟩
              refine wp_region_class (fun w' => SameOn All W5 w' ∧ Below w.heap.size w w') (by kernel_rfl) (by kernel_rfl) ⟨⟨Nat.le_refl _, fun _ _ _ => rfl⟩, B5.out.drew⟩ ?_
              repeat (go_big_quiet_step (first | (rename_i m; go_at_call 160; refine (refOk_any ⟨xs, xn⟩ _ hxs (HT.out.below m.ok.2).keys).mono ?_; rintro e w1 ⟨rfl, hb1⟩; exact ⟨by rw [HCA.out], ⟨⟨w1, ⟨(SameOn.trans m.ok.1 (SameOn.of_below hb1)), m.ok.2.trans (hb1.mono m.ok.2.size)⟩⟩, rfl⟩⟩) | (rename_i m; go_at_call 161; refine (compareRef_any ⟨qs, qn⟩ ⟨xs, xn⟩ _).mono ?_; rintro e w1 ⟨rfl, hb1⟩; exact ⟨by rw [HZ.out], ⟨⟨w1, ⟨(SameOn.trans m.ok.1 (SameOn.of_below hb1)), m.ok.2.trans (hb1.mono m.ok.2.size)⟩⟩, rfl⟩⟩)))
              refine wpQuiet_nil ?_
              rintro _ ⟨mq, rfl⟩
              have HB4 : Hid (Below w.heap.size w mq.val) := mq.ok.2
              have HS4 : Hid (SameOn All W5 mq.val) := mq.ok.1
              generalize mq.val = w4 at HB4 HS4 ⊢
              go_wp2_with fail
              go_ret
              exact ⟨by rw [HF.out]; rfl, HB4.out⟩
      · have HD : Hid ((List.range n).all (rfsAt es) = true) := by
          obtain rfl : k = n := by omega
          exact hall.out
        clear hb
        go_wp2_with fail
        go_ret
        exact ⟨by rw [HD.out]; rfl, HB.out⟩
  · have h21 : (20 : Int) < (n : Int) := by omega
    rw [decide_eq_false h20]
    go_enter Tryz.func120, Tryz.ntmps120
    go_wp2_with fail
    go_ret
    exact ⟨by simp, Below.refl _ _⟩

set_option maxHeartbeats 4000000 in
/-- THE PROGRAM's ModuleOk. -/
theorem implModuleOk_any (d : Nat) (w : World) (cs : List Value) (m : Md) (hT : Tabs w) (h : HMd w All d cs m) :
    Calls Tryz.prog 78 #[.agg cs.toArray] w fun e w' => e = .returned (.bool (mdOk d m)) ∧ Below w.heap.size w w' := by
  have HT : Hid (Tabs w) := hT
  obtain ⟨ev, fv, rfl, hs, f0, f1⟩ := h
  obtain ⟨ms, es, fs⟩ := m
  simp only at *
  have BL : Hid (∀ (cs : Array Value) (t : TypeId), Below w.heap.size w (w.alloc (.cells cs t))) := fun cs t => (Below.refl _ _).alloc (Nat.le_refl _) _
  have F0 : ∀ w', Below w.heap.size w w' → Rows w' All 2 HRf ev es := fun w' hw => f0.mono (SameOn.of_below hw) (fun _ h => h) (fun _ _ _ h => h)
  have F1 : ∀ w', Below w.heap.size w w' → Rows w' All 3 (HFn w' All d) fv fs := fun w' hw => f1.mono (SameOn.of_below hw) (fun _ h => h) (fun _ _ _ h => h.mono (SameOn.of_below hw) (fun _ h => h))
  obtain ⟨p, cap, rfl, -, -, -⟩ := f0
  obtain ⟨q, cap', rfl, -, -, -⟩ := f1
  have hv : mdOk d ⟨ms, es, fs⟩ = (atomB ms && ((decide (es.length ≤ 20) && rfsB es) && (inB fs.length 1 30 && fnsB d fs))) := rfl
  rw [hv]
  clear hv hT
  cases ha : atomB ms with
  | false =>
    go_enter Tryz.func78, Tryz.ntmps78
    go_wp2_with (first | (go_at_call 119; go_must (refine (implAtomOk_any _ _ hs (HT.out.below (BL.out _ _)).keys).mono ?_; rintro e w9 ⟨rfl, rfl⟩; rw [ha])))
    go_ret
    exact ⟨by simp, BL.out _ _⟩
  | true =>
    cases he : (decide (es.length ≤ 20) && rfsB es) with
    | false =>
      go_enter Tryz.func78, Tryz.ntmps78
      go_wp2_with (first | (go_at_call 119; go_must (refine (implAtomOk_any _ _ hs (HT.out.below (BL.out _ _)).keys).mono ?_; rintro e w9 ⟨rfl, rfl⟩; rw [ha])))
      refine (exportsOk_any _ _ es (HT.out.below (BL.out _ _)) (F0 _ (BL.out _ _))).mono ?_
      rintro e w2 ⟨rfl, hb2⟩
      rw [he]
      have B2 : Hid (Below w.heap.size w w2) := (BL.out _ _).trans (hb2.mono (BL.out _ _).size)
      clear hb2
      go_wp2_with fail
      go_ret
      exact ⟨by simp, B2.out⟩
    | true =>
      go_enter Tryz.func78, Tryz.ntmps78
      go_wp2_with (first | (go_at_call 119; go_must (refine (implAtomOk_any _ _ hs (HT.out.below (BL.out _ _)).keys).mono ?_; rintro e w9 ⟨rfl, rfl⟩; rw [ha])))
      refine (exportsOk_any _ _ es (HT.out.below (BL.out _ _)) (F0 _ (BL.out _ _))).mono ?_
      rintro e w2 ⟨rfl, hb2⟩
      rw [he]
      have B2 : Hid (Below w.heap.size w w2) := (BL.out _ _).trans (hb2.mono (BL.out _ _).size)
      have hbk := (Blk.new (w := w) (cs := #[.string ms, .slice p es.length cap, .slice q fs.length cap']) (t := 54)).next hb2
      have a2 := hbk.cell 2 _ rfl
      clear hb2 hbk
      go_wp2_with fail
      refine (funsOk_any d _ _ fs (HT.out.below B2.out) (F1 _ B2.out)).mono ?_
      rintro e w3 ⟨rfl, hb3⟩
      have B3 : Hid (Below w.heap.size w w3) := B2.out.trans (hb3.mono B2.out.size)
      clear hb3
      go_wp2_with fail
      go_ret
      exact ⟨by simp, B3.out⟩
end Go.Proofs.YtihffcphbcepoaaGreatDoor
/-
  A program is right: its modules are, and ascending: both sides, by contract.
-/
namespace Go.Proofs.YtihffcphbcepoaaGreatDoor
open Go.ChangeShapes Go.WideShapes Go.ChangeAt Go.RowKit
set_option linter.unusedVariables false

/-- One module of a program: it is right, and behind the one ahead of it. -/
def mdsAt (d : Nat) (ms : List Md) (k : Nat) : Bool :=
  match ms[k]? with
  | none => true
  | some m => mdOk d m && (match k with
    | 0 => true
    | j + 1 => match ms[j]? with
      | none => true
      | some q => Op.bytesLess q.name.toList m.name.toList)
/-- Whether a program is right. -/
def pgOk (d : Nat) (ms : List Md) : Bool := decide (ms.length ≤ 10) && (List.range ms.length).all (mdsAt d ms)
theorem mdsAt_zero {d : Nat} {ms : List Md} {k : Nat} {r : Md} (hk : k = 0) (h : ms[k]? = some r) : mdsAt d ms k = mdOk d r := by
  subst hk; simp [mdsAt, h]
theorem mdsAt_succ {d : Nat} {ms : List Md} {j : Nat} {q r : Md} (hq : ms[j]? = some q) (hr : ms[j + 1]? = some r) : mdsAt d ms (j + 1) = (mdOk d r && Op.bytesLess q.name.toList r.name.toList) := by
  simp [mdsAt, hr, hq]
theorem mdsAt_bad {d : Nat} {ms : List Md} {k : Nat} {r : Md} (hr : ms[k]? = some r) (h : mdOk d r = false) : mdsAt d ms k = false := by
  simp [mdsAt, hr, h]
theorem less_flip : ∀ {a b : List UInt8}, Op.bytesLess a b = false → a ≠ b → Op.bytesLess b a = true
  | [], [], _, h => absurd rfl h
  | _ :: _, [], _, _ => rfl
  | [], _ :: _, h, _ => by simp [Op.bytesLess] at h
  | x :: a, y :: b, h, hne => by
    simp only [Op.bytesLess, Bool.or_eq_false_iff, decide_eq_false_iff_not, Bool.and_eq_false_iff, beq_eq_false_iff_ne] at h
    simp only [Op.bytesLess, Bool.or_eq_true, decide_eq_true_eq, Bool.and_eq_true, beq_iff_eq]
    by_cases hxy : x = y
    · subst hxy
      rcases h.2 with h2 | h2
      · exact absurd rfl h2
      · exact Or.inr ⟨rfl, less_flip h2 (fun e => hne (by rw [e]))⟩
    · left
      rw [UInt8.lt_iff_toNat_lt] at h ⊢
      have : x.toNat ≠ y.toNat := fun e => hxy (UInt8.toNat_inj.1 e)
      omega
theorem less_asym : ∀ {a b : List UInt8}, Op.bytesLess a b = true → Op.bytesLess b a = false
  | [], [], h => by simp [Op.bytesLess] at h
  | _ :: _, [], h => by simp [Op.bytesLess] at h
  | [], _ :: _, _ => rfl
  | x :: a, y :: b, h => by
    simp only [Op.bytesLess, Bool.or_eq_true, decide_eq_true_eq, Bool.and_eq_true, beq_iff_eq] at h
    simp only [Op.bytesLess, Bool.or_eq_false_iff, decide_eq_false_iff_not, Bool.and_eq_false_iff, beq_eq_false_iff_ne]
    rw [UInt8.lt_iff_toNat_lt] at h ⊢
    rcases h with h | ⟨rfl, h⟩
    · exact ⟨by omega, Or.inl (fun e => by rw [e] at h; omega)⟩
    · exact ⟨by omega, Or.inr (less_asym h)⟩

set_option maxHeartbeats 8000000 in
set_option maxRecDepth 100000 in
theorem specProgramOk_any (d : Nat) (w : World) (v : Value) (ms : List Md) (h : Rows w All 3 (HMd w All d) v ms) :
    Calls Tryz.prog 40 #[v] w fun e w' => e = .returned (.bool (pgOk d ms)) ∧ Below w.heap.size w w' := by
  obtain ⟨p, cap, rfl, hcl, hcm, hx⟩ := h
  have hv : pgOk d ms = (decide (ms.length ≤ 10) && (List.range ms.length).all (mdsAt d ms)) := rfl
  rw [hv]
  clear hv
  generalize hn : ms.length = n at *
  have HN : Hid (ms.length = n) := hn
  have HX : Hid (ms ≠ [] → ∃ g off, p = some ⟨g, off, none⟩ ∧ All g ∧ g < w.heap.size ∧ ∀ i x, ms[i]? = some x → ∃ cs, cs.length = 3 ∧ (∀ j, j < 3 → w.cell? ⟨g, off + i * 3 + j, none⟩ = cs[j]?) ∧ HMd w All d cs x) := hx
  have hnb : n ≤ 9223372036854775807 := by unfold maxLen at hcm; omega
  clear hx hn
  go_enter Tryz.func40, Tryz.ntmps40
  go_wp2
  go_loopw [3] (fun iv wr => ∃ k : Nat, k ≤ n ∧ iv = .int .i64 k ∧ Hid ((List.range k).all (mdsAt d ms) = true) ∧ Below w.heap.size w wr) (fun iv _ => n - (intOf iv).toNat)
  case atStart => exact ⟨0, Nat.zero_le _, rfl, by show _ = _; simp, Below.refl _ _⟩
  case round =>
    obtain ⟨k, hk, rfl, hall, hb⟩ := hrel
    have HB : Hid (Below w.heap.size w wr) := hb
    by_cases hlt : k < n
    · obtain ⟨x, hxk⟩ : ∃ x, ms[k]? = some x := ⟨ms[k]'(by rw [HN.out]; exact hlt), List.getElem?_eq_getElem _⟩
      obtain ⟨g, off, rfl, -, hgl, hat⟩ := HX.out (by intro h; rw [h] at hxk; simp at hxk)
      obtain ⟨cs, hcsl, hcs, hmd⟩ := hat k x hxk
      have hgw : g < wr.heap.size := Nat.lt_of_lt_of_le hgl hb.size
      have HATS : Hid (∀ j, k = j + 1 → ∃ q : Md, ms[j]? = some q ∧ wr.cell? ⟨g, off + j * 3, none⟩ = some (.string q.name)) := fun j hj => by
        obtain ⟨q, hq⟩ : ∃ q, ms[j]? = some q := ⟨ms[j]'(by rw [HN.out]; omega), List.getElem?_eq_getElem _⟩
        obtain ⟨cs', _, hcs', ev, fv, rfl, _⟩ := hat j q hq
        have b0 := hcs' 0 (by omega)
        rw [← hb.cell (p := ⟨g, _, none⟩) hgl] at b0
        exact ⟨q, hq, by simpa using b0⟩
      have HMD : Hid (∀ w', Below w.heap.size w w' → HMd w' All d cs x) := fun w' hw => hmd.mono (SameOn.of_below hw) (fun _ h => h)
      obtain ⟨ev, fv, rfl, hxs, f0, f1⟩ := hmd
      obtain ⟨pe, ce, rfl, -⟩ := f0
      obtain ⟨pf, cf, rfl, -⟩ := f1
      have a0 := hcs 0 (by omega)
      have a1 := hcs 1 (by omega)
      have a2 := hcs 2 (by omega)
      rw [← hb.cell (p := ⟨g, _, none⟩) hgl] at a0 a1 a2
      simp at a0 a1 a2
      have hki : (k : Int) < (n : Int) := by omega
      have hk0 : (0 : Int) ≤ (k : Int) := by omega
      generalize hca : mdOk d x = ca at *
      have HCA : Hid (mdOk d x = ca) := hca
      have HXK : Hid (ms[k]? = some x) := hxk
      have qa0 : ∀ m : Wd (fun w' => SameOn All wr w' ∧ Below w.heap.size w w'), m.val.cell? ⟨g, off + k * 3, none⟩ = some (.string x.name) := fun m => (World.cell?_of_block (m.ok.1.2 g trivial hgw)).trans a0
      have qa1 : ∀ m : Wd (fun w' => SameOn All wr w' ∧ Below w.heap.size w w'), m.val.cell? ⟨g, off + k * 3 + 1, none⟩ = some (.slice pe x.exports.length ce) := fun m => (World.cell?_of_block (m.ok.1.2 g trivial hgw)).trans a1
      have qa2 : ∀ m : Wd (fun w' => SameOn All wr w' ∧ Below w.heap.size w w'), m.val.cell? ⟨g, off + k * 3 + 2, none⟩ = some (.slice pf x.funs.length cf) := fun m => (World.cell?_of_block (m.ok.1.2 g trivial hgw)).trans a2
      clear hb hcs hat hcsl hca a0 a1 a2 hxk
      cases ca with
      | false =>
        have HF : Hid ((List.range n).all (mdsAt d ms) = false) := rangeT_at _ n k hlt (mdsAt_bad HXK.out HCA.out)
        clear HATS
        go_wp2_with fail
        have hCne : Nonempty (Wd (fun w' => SameOn All wr w' ∧ Below w.heap.size w w')) := ⟨⟨wr.drew, ⟨⟨Nat.le_refl _, fun _ _ _ => rfl⟩, HB.out.drew⟩⟩⟩
        refine wp_region_class (fun w' => SameOn All wr w' ∧ Below w.heap.size w w') (by kernel_rfl) (by kernel_rfl) ⟨⟨Nat.le_refl _, fun _ _ _ => rfl⟩, HB.out.drew⟩ ?_
        repeat (go_big_quiet_step (first | (rename_i m; go_at_call 76; refine (specModuleOk_any d _ _ x (HMD.out _ m.ok.2)).mono ?_; rintro e w1 ⟨rfl, hb1⟩; exact ⟨by rw [HCA.out], ⟨⟨w1, ⟨m.ok.1.trans (SameOn.of_below hb1), m.ok.2.trans (hb1.mono m.ok.2.size)⟩⟩, rfl⟩⟩)))
        refine wpQuiet_nil ?_
        rintro _ ⟨mq, rfl⟩
        have HB4 : Hid (Below w.heap.size w mq.val) := mq.ok.2
        have HS4 : Hid (SameOn All wr mq.val) := mq.ok.1
        generalize mq.val = w4 at HB4 HS4 ⊢
        go_wp2_with fail
        go_ret
        exact ⟨by rw [HF.out]; simp, HB4.out⟩
      | true =>
        rcases Nat.eq_zero_or_pos k with hz | hz
        · have HT' : Hid ((List.range (k + 1)).all (mdsAt d ms) = true) := rangeT_succ _ k hall.out (by rw [mdsAt_zero hz HXK.out]; exact HCA.out)
          have hz1 : ¬ (0 : Int) < (k : Int) := by omega
          have hz3 : ¬ 0 < k := by omega
          have hz4 : decide (0 < k) = false := decide_eq_false hz3
          clear HATS hz
          go_wp2_with fail
          have hCne : Nonempty (Wd (fun w' => SameOn All wr w' ∧ Below w.heap.size w w')) := ⟨⟨wr.drew, ⟨⟨Nat.le_refl _, fun _ _ _ => rfl⟩, HB.out.drew⟩⟩⟩
          refine wp_region_class (fun w' => SameOn All wr w' ∧ Below w.heap.size w w') (by kernel_rfl) (by kernel_rfl) ⟨⟨Nat.le_refl _, fun _ _ _ => rfl⟩, HB.out.drew⟩ ?_
          repeat (go_big_quiet_step (first | (rename_i m; go_at_call 76; refine (specModuleOk_any d _ _ x (HMD.out _ m.ok.2)).mono ?_; rintro e w1 ⟨rfl, hb1⟩; exact ⟨by rw [HCA.out], ⟨⟨w1, ⟨m.ok.1.trans (SameOn.of_below hb1), m.ok.2.trans (hb1.mono m.ok.2.size)⟩⟩, rfl⟩⟩)))
          refine wpQuiet_nil ?_
          rintro _ ⟨mq, rfl⟩
          have HB4 : Hid (Below w.heap.size w mq.val) := mq.ok.2
          have HS4 : Hid (SameOn All wr mq.val) := mq.ok.1
          generalize mq.val = w4 at HB4 HS4 ⊢
          go_wp2_with fail
          exact ⟨⟨k + 1, by omega, by go_num, HT'.out, HB4.out⟩, by simp [intOf]; omega⟩
        · obtain ⟨j, rfl⟩ : ∃ j, k = j + 1 := ⟨k - 1, by omega⟩
          obtain ⟨q, hqj, y0⟩ := HATS.out j rfl
          have HAT : Hid (mdsAt d ms (j + 1) = (true && Op.bytesLess q.name.toList x.name.toList)) := by show _ = _; rw [mdsAt_succ hqj HXK.out, HCA.out]
          have qy0 : ∀ m : Wd (fun w' => SameOn All wr w' ∧ Below w.heap.size w w'), m.val.cell? ⟨g, off + j * 3, none⟩ = some (.string q.name) := fun m => (World.cell?_of_block (m.ok.1.2 g trivial hgw)).trans y0
          have hji : (j : Int) < (n : Int) := by omega
          have hj0 : (0 : Int) ≤ (j : Int) := by omega
          have hj1 : (0 : Int) < (j : Int) + 1 := by omega
          clear HATS hqj hz y0
          cases hlq : Op.bytesLess x.name.toList q.name.toList with
          | true =>
            have HF : Hid ((List.range n).all (mdsAt d ms) = false) := rangeT_at _ n (j + 1) hlt (by rw [HAT.out, less_asym hlq]; rfl)
            go_wp2_with fail
            have hCne : Nonempty (Wd (fun w' => SameOn All wr w' ∧ Below w.heap.size w w')) := ⟨⟨wr.drew, ⟨⟨Nat.le_refl _, fun _ _ _ => rfl⟩, HB.out.drew⟩⟩⟩
            refine wp_region_class (fun w' => SameOn All wr w' ∧ Below w.heap.size w w') (by kernel_rfl) (by kernel_rfl) ⟨⟨Nat.le_refl _, fun _ _ _ => rfl⟩, HB.out.drew⟩ ?_
            repeat (go_big_quiet_step (first | (rename_i m; go_at_call 76; refine (specModuleOk_any d _ _ x (HMD.out _ m.ok.2)).mono ?_; rintro e w1 ⟨rfl, hb1⟩; exact ⟨by rw [HCA.out], ⟨⟨w1, ⟨m.ok.1.trans (SameOn.of_below hb1), m.ok.2.trans (hb1.mono m.ok.2.size)⟩⟩, rfl⟩⟩)))
            refine wpQuiet_nil ?_
            rintro _ ⟨mq, rfl⟩
            have HB4 : Hid (Below w.heap.size w mq.val) := mq.ok.2
            have HS4 : Hid (SameOn All wr mq.val) := mq.ok.1
            generalize mq.val = w4 at HB4 HS4 ⊢
            go_wp2_with fail
            go_ret
            exact ⟨by rw [HF.out]; simp, HB4.out⟩
          | false =>
            by_cases he : x.name = q.name
            · have HF : Hid ((List.range n).all (mdsAt d ms) = false) := rangeT_at _ n (j + 1) hlt (by rw [HAT.out, he, bytesLess_self]; rfl)
              rw [← he] at qy0 hlq
              clear he
              go_wp2_with fail
              have hCne : Nonempty (Wd (fun w' => SameOn All wr w' ∧ Below w.heap.size w w')) := ⟨⟨wr.drew, ⟨⟨Nat.le_refl _, fun _ _ _ => rfl⟩, HB.out.drew⟩⟩⟩
              refine wp_region_class (fun w' => SameOn All wr w' ∧ Below w.heap.size w w') (by kernel_rfl) (by kernel_rfl) ⟨⟨Nat.le_refl _, fun _ _ _ => rfl⟩, HB.out.drew⟩ ?_
              repeat (go_big_quiet_step (first | (rename_i m; go_at_call 76; refine (specModuleOk_any d _ _ x (HMD.out _ m.ok.2)).mono ?_; rintro e w1 ⟨rfl, hb1⟩; exact ⟨by rw [HCA.out], ⟨⟨w1, ⟨m.ok.1.trans (SameOn.of_below hb1), m.ok.2.trans (hb1.mono m.ok.2.size)⟩⟩, rfl⟩⟩)))
              refine wpQuiet_nil ?_
              rintro _ ⟨mq, rfl⟩
              have HB4 : Hid (Below w.heap.size w mq.val) := mq.ok.2
              have HS4 : Hid (SameOn All wr mq.val) := mq.ok.1
              generalize mq.val = w4 at HB4 HS4 ⊢
              go_wp2_with fail
              go_ret
              exact ⟨by rw [HF.out]; simp, HB4.out⟩
            · have hq1 := str_ne he
              have hq2 := str_neB he
              have HT' : Hid ((List.range (j + 1 + 1)).all (mdsAt d ms) = true) := rangeT_succ _ (j + 1) hall.out (by rw [HAT.out, less_flip hlq hq1]; rfl)
              go_wp2_with fail
              have hCne : Nonempty (Wd (fun w' => SameOn All wr w' ∧ Below w.heap.size w w')) := ⟨⟨wr.drew, ⟨⟨Nat.le_refl _, fun _ _ _ => rfl⟩, HB.out.drew⟩⟩⟩
              refine wp_region_class (fun w' => SameOn All wr w' ∧ Below w.heap.size w w') (by kernel_rfl) (by kernel_rfl) ⟨⟨Nat.le_refl _, fun _ _ _ => rfl⟩, HB.out.drew⟩ ?_
              repeat (go_big_quiet_step (first | (rename_i m; go_at_call 76; refine (specModuleOk_any d _ _ x (HMD.out _ m.ok.2)).mono ?_; rintro e w1 ⟨rfl, hb1⟩; exact ⟨by rw [HCA.out], ⟨⟨w1, ⟨m.ok.1.trans (SameOn.of_below hb1), m.ok.2.trans (hb1.mono m.ok.2.size)⟩⟩, rfl⟩⟩)))
              refine wpQuiet_nil ?_
              rintro _ ⟨mq, rfl⟩
              have HB4 : Hid (Below w.heap.size w mq.val) := mq.ok.2
              have HS4 : Hid (SameOn All wr mq.val) := mq.ok.1
              generalize mq.val = w4 at HB4 HS4 ⊢
              go_wp2_with fail
              exact ⟨⟨j + 1 + 1, by omega, by go_num, HT'.out, HB4.out⟩, by simp [intOf]; omega⟩
    · have HT : Hid ((List.range n).all (mdsAt d ms) = true) := by
        have := hall.out
        rwa [show k = n by omega] at this
      clear hall
      go_wp2
      go_ret
      exact ⟨by rw [HT.out]; simp; omega, HB.out⟩

set_option maxHeartbeats 8000000 in
set_option maxRecDepth 100000 in
theorem implProgramOk_any (d : Nat) (w : World) (v : Value) (ms : List Md) (hT : Tabs w) (h : Rows w All 3 (HMd w All d) v ms) :
    Calls Tryz.prog 42 #[v] w fun e w' => e = .returned (.bool (pgOk d ms)) ∧ Below w.heap.size w w' := by
  have HTAB : Hid (Tabs w) := hT
  clear hT
  obtain ⟨p, cap, rfl, hcl, hcm, hx⟩ := h
  have hv : pgOk d ms = (decide (ms.length ≤ 10) && (List.range ms.length).all (mdsAt d ms)) := rfl
  rw [hv]
  clear hv
  generalize hn : ms.length = n at *
  have HN : Hid (ms.length = n) := hn
  have HX : Hid (ms ≠ [] → ∃ g off, p = some ⟨g, off, none⟩ ∧ All g ∧ g < w.heap.size ∧ ∀ i x, ms[i]? = some x → ∃ cs, cs.length = 3 ∧ (∀ j, j < 3 → w.cell? ⟨g, off + i * 3 + j, none⟩ = cs[j]?) ∧ HMd w All d cs x) := hx
  have hnb : n ≤ 9223372036854775807 := by unfold maxLen at hcm; omega
  clear hx hn
  by_cases h10 : ¬ n ≤ 10
  · have h11 : (10 : Int) < (n : Int) := by omega
    rw [decide_eq_false h10]
    go_enter Tryz.func42, Tryz.ntmps42
    go_wp2
    go_ret
    exact ⟨rfl, Below.refl _ _⟩
  replace h10 : n ≤ 10 := by omega
  have h11 : ¬ (10 : Int) < (n : Int) := by omega
  rw [decide_eq_true h10]
  go_enter Tryz.func42, Tryz.ntmps42
  go_wp2
  go_loopw [10] (fun iv wr => ∃ k : Nat, k ≤ n ∧ iv = .int .i64 k ∧ Hid ((List.range k).all (mdsAt d ms) = true) ∧ Below w.heap.size w wr) (fun iv _ => n - (intOf iv).toNat)
  case atStart => exact ⟨0, Nat.zero_le _, rfl, by show _ = _; simp, Below.refl _ _⟩
  case round =>
    obtain ⟨k, hk, rfl, hall, hb⟩ := hrel
    have HB : Hid (Below w.heap.size w wr) := hb
    by_cases hlt : k < n
    · obtain ⟨x, hxk⟩ : ∃ x, ms[k]? = some x := ⟨ms[k]'(by rw [HN.out]; exact hlt), List.getElem?_eq_getElem _⟩
      obtain ⟨g, off, rfl, -, hgl, hat⟩ := HX.out (by intro h; rw [h] at hxk; simp at hxk)
      obtain ⟨cs, hcsl, hcs, hmd⟩ := hat k x hxk
      have hgw : g < wr.heap.size := Nat.lt_of_lt_of_le hgl hb.size
      have HATS : Hid (∀ j, k = j + 1 → ∃ q : Md, ms[j]? = some q ∧ wr.cell? ⟨g, off + j * 3, none⟩ = some (.string q.name)) := fun j hj => by
        obtain ⟨q, hq⟩ : ∃ q, ms[j]? = some q := ⟨ms[j]'(by rw [HN.out]; omega), List.getElem?_eq_getElem _⟩
        obtain ⟨cs', _, hcs', ev, fv, rfl, _⟩ := hat j q hq
        have b0 := hcs' 0 (by omega)
        rw [← hb.cell (p := ⟨g, _, none⟩) hgl] at b0
        exact ⟨q, hq, by simpa using b0⟩
      have HMD : Hid (∀ w', Below w.heap.size w w' → HMd w' All d cs x) := fun w' hw => hmd.mono (SameOn.of_below hw) (fun _ h => h)
      obtain ⟨ev, fv, rfl, hxs, f0, f1⟩ := hmd
      obtain ⟨pe, ce, rfl, -⟩ := f0
      obtain ⟨pf, cf, rfl, -⟩ := f1
      have a0 := hcs 0 (by omega)
      have a1 := hcs 1 (by omega)
      have a2 := hcs 2 (by omega)
      rw [← hb.cell (p := ⟨g, _, none⟩) hgl] at a0 a1 a2
      simp at a0 a1 a2
      have hki : (k : Int) < (n : Int) := by omega
      have hk0 : (0 : Int) ≤ (k : Int) := by omega
      generalize hca : mdOk d x = ca at *
      have HCA : Hid (mdOk d x = ca) := hca
      have HXK : Hid (ms[k]? = some x) := hxk
      obtain ⟨W5, hW5⟩ : ∃ W5, W5 = wr.alloc (.cells #[.string x.name, .slice pe x.exports.length ce, .slice pf x.funs.length cf] 54) := ⟨_, rfl⟩
      have bF : Hid (Blk W5 wr.heap.size #[.string x.name, .slice pe x.exports.length ce, .slice pf x.funs.length cf] 54) := by show Blk _ _ _ _; rw [hW5]; exact Blk.new
      have K5 : Hid (Below wr.heap.size wr W5) := by show Below _ _ _; rw [hW5]; exact (Below.refl _ _).alloc (Nat.le_refl _) _
      have B5 : Hid (Below w.heap.size w W5) := hb.trans (K5.out.mono hb.size)
      have HW5 : Hid (W5 = wr.alloc (.cells #[.string x.name, .slice pe x.exports.length ce, .slice pf x.funs.length cf] 54)) := hW5
      have hg5 : g < W5.heap.size := Nat.lt_of_lt_of_le hgw K5.out.size
      have z0 := bF.out.cell 0 _ rfl
      have z1 := bF.out.cell 1 _ rfl
      have z2 := bF.out.cell 2 _ rfl
      have l2 := bF.out.lt
      have qz0 : ∀ m : Wd (fun w' => SameOn All W5 w' ∧ Below w.heap.size w w'), m.val.cell? ⟨wr.heap.size, 0, none⟩ = some (.string x.name) := fun m => (World.cell?_of_block (m.ok.1.2 wr.heap.size trivial l2)).trans z0
      have qz1 : ∀ m : Wd (fun w' => SameOn All W5 w' ∧ Below w.heap.size w w'), m.val.cell? ⟨wr.heap.size, 1, none⟩ = some (.slice pe x.exports.length ce) := fun m => (World.cell?_of_block (m.ok.1.2 wr.heap.size trivial l2)).trans z1
      have qz2 : ∀ m : Wd (fun w' => SameOn All W5 w' ∧ Below w.heap.size w w'), m.val.cell? ⟨wr.heap.size, 2, none⟩ = some (.slice pf x.funs.length cf) := fun m => (World.cell?_of_block (m.ok.1.2 wr.heap.size trivial l2)).trans z2
      clear hb hcs hat hcsl hca hxk hW5 z0 z1 z2 l2
      cases ca with
      | false =>
        have HF : Hid ((List.range n).all (mdsAt d ms) = false) := rangeT_at _ n k hlt (mdsAt_bad HXK.out HCA.out)
        clear HATS
        go_wp2_with fail
        rw [← HW5.out]
        have hCne : Nonempty (Wd (fun w' => SameOn All W5 w' ∧ Below w.heap.size w w')) := ⟨⟨W5.drew, ⟨⟨Nat.le_refl _, fun _ _ _ => rfl⟩, B5.out.drew⟩⟩⟩
        refine wp_region_class (fun w' => SameOn All W5 w' ∧ Below w.heap.size w w') (by kernel_rfl) (by kernel_rfl) ⟨⟨Nat.le_refl _, fun _ _ _ => rfl⟩, B5.out.drew⟩ ?_
        repeat (go_big_quiet_step (first | (rename_i m; go_at_call 78; refine (implModuleOk_any d _ _ x (HTAB.out.below m.ok.2) (HMD.out _ m.ok.2)).mono ?_; rintro e w1 ⟨rfl, hb1⟩; exact ⟨by rw [HCA.out], ⟨⟨w1, ⟨m.ok.1.trans (SameOn.of_below hb1), m.ok.2.trans (hb1.mono m.ok.2.size)⟩⟩, rfl⟩⟩)))
        refine wpQuiet_nil ?_
        rintro _ ⟨mq, rfl⟩
        have HB4 : Hid (Below w.heap.size w mq.val) := mq.ok.2
        have HS4 : Hid (SameOn All W5 mq.val) := mq.ok.1
        generalize mq.val = w4 at HB4 HS4 ⊢
        go_wp2_with fail
        go_ret
        exact ⟨by rw [HF.out]; simp, HB4.out⟩
      | true =>
        rcases Nat.eq_zero_or_pos k with hz | hz
        · have HT' : Hid ((List.range (k + 1)).all (mdsAt d ms) = true) := rangeT_succ _ k hall.out (by rw [mdsAt_zero hz HXK.out]; exact HCA.out)
          have hz1 : ¬ (0 : Int) < (k : Int) := by omega
          have hz3 : ¬ 0 < k := by omega
          have hz4 : decide (0 < k) = false := decide_eq_false hz3
          clear HATS hz
          go_wp2_with fail
          rw [← HW5.out]
          have hCne : Nonempty (Wd (fun w' => SameOn All W5 w' ∧ Below w.heap.size w w')) := ⟨⟨W5.drew, ⟨⟨Nat.le_refl _, fun _ _ _ => rfl⟩, B5.out.drew⟩⟩⟩
          refine wp_region_class (fun w' => SameOn All W5 w' ∧ Below w.heap.size w w') (by kernel_rfl) (by kernel_rfl) ⟨⟨Nat.le_refl _, fun _ _ _ => rfl⟩, B5.out.drew⟩ ?_
          repeat (go_big_quiet_step (first | (rename_i m; go_at_call 78; refine (implModuleOk_any d _ _ x (HTAB.out.below m.ok.2) (HMD.out _ m.ok.2)).mono ?_; rintro e w1 ⟨rfl, hb1⟩; exact ⟨by rw [HCA.out], ⟨⟨w1, ⟨m.ok.1.trans (SameOn.of_below hb1), m.ok.2.trans (hb1.mono m.ok.2.size)⟩⟩, rfl⟩⟩)))
          refine wpQuiet_nil ?_
          rintro _ ⟨mq, rfl⟩
          have HB4 : Hid (Below w.heap.size w mq.val) := mq.ok.2
          have HS4 : Hid (SameOn All W5 mq.val) := mq.ok.1
          generalize mq.val = w4 at HB4 HS4 ⊢
          go_wp2_with fail
          exact ⟨⟨k + 1, by omega, by go_num, HT'.out, HB4.out⟩, by simp [intOf]; omega⟩
        · obtain ⟨j, rfl⟩ : ∃ j, k = j + 1 := ⟨k - 1, by omega⟩
          obtain ⟨q, hqj, y0⟩ := HATS.out j rfl
          have HAT : Hid (mdsAt d ms (j + 1) = (true && Op.bytesLess q.name.toList x.name.toList)) := by show _ = _; rw [mdsAt_succ hqj HXK.out, HCA.out]
          have qy0 : ∀ m : Wd (fun w' => SameOn All W5 w' ∧ Below w.heap.size w w'), m.val.cell? ⟨g, off + j * 3, none⟩ = some (.string q.name) := fun m => (World.cell?_of_block (m.ok.1.2 g trivial hg5)).trans (cell_next K5.out y0)
          have hji : (j : Int) < (n : Int) := by omega
          have hj0 : (0 : Int) ≤ (j : Int) := by omega
          have hj1 : (0 : Int) < (j : Int) + 1 := by omega
          clear HATS hqj hz y0
          cases hlq : Op.bytesLess q.name.toList x.name.toList with
          | false =>
            have HF : Hid ((List.range n).all (mdsAt d ms) = false) := rangeT_at _ n (j + 1) hlt (by rw [HAT.out, hlq]; rfl)
            go_wp2_with fail
            rw [← HW5.out]
            have hCne : Nonempty (Wd (fun w' => SameOn All W5 w' ∧ Below w.heap.size w w')) := ⟨⟨W5.drew, ⟨⟨Nat.le_refl _, fun _ _ _ => rfl⟩, B5.out.drew⟩⟩⟩
            refine wp_region_class (fun w' => SameOn All W5 w' ∧ Below w.heap.size w w') (by kernel_rfl) (by kernel_rfl) ⟨⟨Nat.le_refl _, fun _ _ _ => rfl⟩, B5.out.drew⟩ ?_
            repeat (go_big_quiet_step (first | (rename_i m; go_at_call 78; refine (implModuleOk_any d _ _ x (HTAB.out.below m.ok.2) (HMD.out _ m.ok.2)).mono ?_; rintro e w1 ⟨rfl, hb1⟩; exact ⟨by rw [HCA.out], ⟨⟨w1, ⟨m.ok.1.trans (SameOn.of_below hb1), m.ok.2.trans (hb1.mono m.ok.2.size)⟩⟩, rfl⟩⟩)))
            refine wpQuiet_nil ?_
            rintro _ ⟨mq, rfl⟩
            have HB4 : Hid (Below w.heap.size w mq.val) := mq.ok.2
            have HS4 : Hid (SameOn All W5 mq.val) := mq.ok.1
            generalize mq.val = w4 at HB4 HS4 ⊢
            go_wp2_with fail
            go_ret
            exact ⟨by rw [HF.out]; simp, HB4.out⟩
          | true =>
            have HT' : Hid ((List.range (j + 1 + 1)).all (mdsAt d ms) = true) := rangeT_succ _ (j + 1) hall.out (by rw [HAT.out, hlq]; rfl)
            go_wp2_with fail
            rw [← HW5.out]
            have hCne : Nonempty (Wd (fun w' => SameOn All W5 w' ∧ Below w.heap.size w w')) := ⟨⟨W5.drew, ⟨⟨Nat.le_refl _, fun _ _ _ => rfl⟩, B5.out.drew⟩⟩⟩
            refine wp_region_class (fun w' => SameOn All W5 w' ∧ Below w.heap.size w w') (by kernel_rfl) (by kernel_rfl) ⟨⟨Nat.le_refl _, fun _ _ _ => rfl⟩, B5.out.drew⟩ ?_
            repeat (go_big_quiet_step (first | (rename_i m; go_at_call 78; refine (implModuleOk_any d _ _ x (HTAB.out.below m.ok.2) (HMD.out _ m.ok.2)).mono ?_; rintro e w1 ⟨rfl, hb1⟩; exact ⟨by rw [HCA.out], ⟨⟨w1, ⟨m.ok.1.trans (SameOn.of_below hb1), m.ok.2.trans (hb1.mono m.ok.2.size)⟩⟩, rfl⟩⟩)))
            refine wpQuiet_nil ?_
            rintro _ ⟨mq, rfl⟩
            have HB4 : Hid (Below w.heap.size w mq.val) := mq.ok.2
            have HS4 : Hid (SameOn All W5 mq.val) := mq.ok.1
            generalize mq.val = w4 at HB4 HS4 ⊢
            go_wp2_with fail
            exact ⟨⟨j + 1 + 1, by omega, by go_num, HT'.out, HB4.out⟩, by simp [intOf]; omega⟩
    · have HT : Hid ((List.range n).all (mdsAt d ms) = true) := by
        have := hall.out
        rwa [show k = n by omega] at this
      clear hall
      go_wp2
      go_ret
      exact ⟨by rw [HT.out]; simp, HB.out⟩
end Go.Proofs.YtihffcphbcepoaaGreatDoor
/-
  Lists of texts in memory: rows that are read, and rows that the call owns and grows by append.
-/
namespace Go.Proofs.YtihffcphbcepoaaGreatDoor
open Go.ChangeShapes Go.WideShapes Go.ChangeAt Go.RowKit
set_option linter.unusedVariables false

/-- One cell that is a text. -/
def HStr (cs : List Value) (s : ByteArray) : Prop := cs = [.string s] ∧ okS s
abbrev StrR (w : World) (v : Value) (xs : List ByteArray) : Prop := Rows w All 1 HStr v xs
theorem StrR.mono {w w' : World} {v : Value} {xs : List ByteArray} (h : StrR w v xs) (hs : SameOn All w w') : StrR w' v xs := Rows.mono h hs (fun _ h => h) (fun _ _ _ h => h)
theorem StrR.okS {w : World} {v : Value} {xs : List ByteArray} (h : StrR w v xs) : ∀ x ∈ xs, Go.Proofs.YtihffcphbcepoaaGreatDoor.okS x := by
  intro x hx
  obtain ⟨p, cap, _, _, _, hr⟩ := h
  obtain ⟨i, hi⟩ := List.mem_iff_getElem?.1 hx
  obtain ⟨g, off, _, _, _, hat⟩ := hr (by intro e; rw [e] at hi; simp at hi)
  obtain ⟨cs, _, _, hv⟩ := hat i x hi
  exact hv.2

def strs (l : List ByteArray) : List Value := l.map Value.string
theorem strs_length (l : List ByteArray) : (strs l).length = l.length := by simp [strs]
theorem strs_append (a b : List ByteArray) : strs (a ++ b) = strs a ++ strs b := by simp [strs]
theorem strs_oneCell (l : List ByteArray) : ∀ u ∈ strs l, u.oneCell' = true := by
  intro u hu
  simp only [strs, List.mem_map] at hu
  obtain ⟨b, _, rfl⟩ := hu
  rfl
theorem info_str : (Tryz.prog.info? 9).map (fun i => (i.zero, i.size, i.bytes)) = some (some (.string ⟨#[]⟩), 1, 16) := by kernel_rfl

/-- The row v holds just the texts l; it lies in a block of its own at B or above. -/
def OwnS (w : World) (B : Nat) (v : Value) (l : List ByteArray) : Prop := w.ownsRow B 9 1 v l.length (strs l) ∧ B ≤ w.heap.size
theorem OwnS.next {w w' : World} {B : Nat} {v : Value} {l : List ByteArray} (h : OwnS w B v l) (hb : Below w.heap.size w w') : OwnS w' B v l := by
  refine ⟨⟨h.1.1, ?_⟩, Nat.le_trans h.2 hb.size⟩
  rcases h.1.2 with hn | ⟨g, cap, cur, hv, hB, hg, hr⟩
  · exact .inl hn
  · exact .inr ⟨g, cap, cur, hv, hB, (hb.block g (Array.getElem?_eq_some_iff.1 hg).1).trans hg, hr⟩
theorem OwnS.off {w : World} {B : Nat} {v : Value} {l : List ByteArray} (h : OwnS w B v l) {b : Nat} (hb : v.ownBlock = some b) : B ≤ b ∧ b < w.heap.size := by
  rcases h.1.2 with hn | ⟨g', cap', cur, hv', hB, hg, hr⟩
  · rw [hn.1] at hb; cases hb
  · rw [hv'] at hb
    simp [Value.ownBlock] at hb
    subst hb
    exact ⟨hB, (Array.getElem?_eq_some_iff.1 hg).1⟩
theorem OwnS.below {w w' : World} {B : Nat} {v : Value} {l : List ByteArray} (h : OwnS w B v l) (hg : w.grownBy w' v.ownBlock) : Below B w w' :=
  ⟨hg.os, hg.tape, hg.output, hg.size, fun j hj => hg.block j (by have := h.2; omega) (fun e => by have := (h.off e.symm).1; omega)⟩
theorem OwnS.blk {w w' : World} {B b : Nat} {v : Value} {l : List ByteArray} {cs : Array Value} {t : TypeId} (h : OwnS w B v l) (hg : w.grownBy w' v.ownBlock) (hb : Blk w b cs t) (hne : v.ownBlock ≠ some b) : Blk w' b cs t :=
  (hg.block b hb.lt (fun e => hne e.symm)).trans hb
theorem OwnS.of {w' : World} {B n : Nat} {v : Value} {l m : List ByteArray} {xs : List Value} (h : w'.ownsRow B 9 1 v n xs) (hn : n = (l ++ m).length) (hx : xs = strs l ++ strs m) (hB : B ≤ w'.heap.size) : OwnS w' B v (l ++ m) := by
  subst hn; subst hx; rw [← strs_append] at h; exact ⟨h, hB⟩
/-- The empty row that '[]string{}' makes. -/
theorem OwnS.fresh {w : World} : OwnS (w.alloc (.cells #[] 9)) w.heap.size (.slice (some ⟨w.heap.size, 0, none⟩) 0 0) [] := by
  refine ⟨⟨by simp [strs], .inr ⟨w.heap.size, 0, #[], rfl, Nat.le_refl _, ?_, Nat.le_refl _, Nat.zero_le _, rfl, rfl⟩⟩, by simp⟩
  exact Blk.new (w := w) (cs := #[]) (t := 9)
theorem OwnS.rows {w : World} {B : Nat} {v : Value} {l : List ByteArray} (h : OwnS w B v l) (ho : ∀ x ∈ l, okS x) : Rows w (fun g => B ≤ g) 1 HStr v l := by
  obtain ⟨h, _⟩ := h
  rcases h.2 with ⟨rfl, hn⟩ | ⟨g, cap, cur, rfl, hB, hg, h1, h2, h3, h4⟩
  · obtain rfl := List.length_eq_zero_iff.1 hn
    exact Rows.nil (Nat.zero_le _)
  · refine ⟨_, cap, rfl, h1, h2, fun hne => ⟨g, 0, rfl, hB, (Array.getElem?_eq_some_iff.1 hg).1, fun i x hi => ⟨[.string x], rfl, fun j hj => ?_, rfl, ho x (List.mem_of_getElem? hi)⟩⟩⟩
    obtain rfl : j = 0 := by omega
    rw [show 0 + i * 1 + 0 = i by omega]
    exact (h.cellAt i (by have := (List.getElem?_eq_some_iff.1 hi).1; omega)).trans (by simp [strs, hi])
theorem OwnS.strR {w : World} {B : Nat} {v : Value} {l : List ByteArray} (h : OwnS w B v l) (ho : ∀ x ∈ l, okS x) : StrR w v l := Rows.mono (h.rows ho) ⟨Nat.le_refl _, fun _ _ _ => rfl⟩ (fun _ _ => trivial) (fun _ _ _ h => h)

/-- A row that is nil where it has no memory. -/
def StrV (w : World) (v : Value) (xs : List ByteArray) : Prop := StrR w v xs ∧ ∀ n c, v = .slice none n c → v = .slice none 0 0
theorem OwnS.strV {w : World} {B : Nat} {v : Value} {l : List ByteArray} (h : OwnS w B v l) (ho : ∀ x ∈ l, okS x) : StrV w v l := by
  refine ⟨h.strR ho, fun n c hv => ?_⟩
  rcases h.1.2 with hn | ⟨g, cap, cur, hv', _⟩
  · exact hn.1
  · rw [hv] at hv'; simp at hv'
theorem StrV.next {w w' : World} {v : Value} {xs : List ByteArray} (h : StrV w v xs) (hs : SameOn All w w') : StrV w' v xs := ⟨h.1.mono hs, h.2⟩

/-- Texts that are there. -/
def hasS (l : List ByteArray) (s : ByteArray) : Bool := l.any fun x => x.toList == s.toList
/-- Names with more behind, those that are not there. -/
def onceS (l : List ByteArray) : List ByteArray → List ByteArray
  | [] => l
  | y :: ys => onceS (if hasS l y then l else l ++ [y]) ys
theorem onceS_snoc (l ys : List ByteArray) (y : ByteArray) : onceS l (ys ++ [y]) = if hasS (onceS l ys) y then onceS l ys else onceS l ys ++ [y] := by
  induction ys generalizing l with
  | nil => rfl
  | cons z zs ih => exact ih _
theorem onceS_length (l ys : List ByteArray) : (onceS l ys).length ≤ l.length + ys.length := by
  induction ys generalizing l with
  | nil => simp [onceS]
  | cons z zs ih =>
    have := ih (if hasS l z then l else l ++ [z])
    have h2 : (if hasS l z then l else l ++ [z]).length ≤ l.length + 1 := by split <;> simp
    simp only [onceS, List.length_cons]
    omega
theorem onceS_mem (l ys : List ByteArray) : ∀ x ∈ onceS l ys, x ∈ l ∨ x ∈ ys := by
  induction ys generalizing l with
  | nil => intro x hx; exact .inl hx
  | cons z zs ih =>
    intro x hx
    rcases ih _ x hx with h | h
    · split at h
      · exact .inl h
      · rcases List.mem_append.1 h with h | h
        · exact .inl h
        · simp at h; subst h; exact .inr (by simp)
    · exact .inr (by simp [h])
end Go.Proofs.YtihffcphbcepoaaGreatDoor
/-
  What is wrong with a program: plain mathematics.
-/
namespace Go.Proofs.YtihffcphbcepoaaGreatDoor
open Go.ChangeShapes Go.WideShapes Go.ChangeAt Go.RowKit
set_option linter.unusedVariables false

def cCall : ByteArray := ⟨#[99, 97, 108, 108]⟩
def cFar : ByteArray := ⟨#[102, 97, 114]⟩
def cLoose : ByteArray := ⟨#[108, 111, 111, 115, 101]⟩
def cExport : ByteArray := ⟨#[101, 120, 112, 111, 114, 116]⟩

/-- The place of the first that fits, or -1. -/
def findI {α : Type} (f : α → Bool) (xs : List α) : Int := match xs.findIdx? f with
  | some k => k
  | none => -1
theorem findI_none {α : Type} {f : α → Bool} {xs : List α} (h : xs.any f = false) : findI f xs = -1 := by
  have : xs.findIdx? f = none := by
    rw [List.findIdx?_eq_none_iff]
    intro x hx
    exact Bool.eq_false_iff.2 fun e => by
      have := List.any_eq_false.1 h x hx
      exact this e
  simp [findI, this]
theorem findI_at {α : Type} {f : α → Bool} {xs : List α} {k : Nat} {x : α} (h : (xs.take k).any f = false) (hx : xs[k]? = some x) (hf : f x = true) : findI f xs = k := by
  have : xs.findIdx? f = some k := by
    rw [List.findIdx?_eq_some_iff_getElem]
    obtain ⟨hk, he⟩ := List.getElem?_eq_some_iff.1 hx
    refine ⟨hk, by rw [he]; exact hf, fun j hj => ?_⟩
    have := List.any_eq_false.1 h (xs[j]) (List.mem_of_getElem? (i := j) (by rw [List.getElem?_take, if_pos hj]; exact List.getElem?_eq_getElem _))
    exact this
  simp [findI, this]
theorem findI_cases {α : Type} (f : α → Bool) (xs : List α) : (xs.any f = false ∧ findI f xs = -1) ∨ (∃ k x, xs.any f = true ∧ xs[k]? = some x ∧ f x = true ∧ findI f xs = (k : Nat) ∧ xs.find? f = some x) := by
  cases h : xs.any f with
  | false => exact Or.inl ⟨rfl, findI_none h⟩
  | true =>
    right
    rw [List.any_eq_true] at h
    obtain ⟨x, hx, hf⟩ := h
    cases hi : xs.findIdx? f with
    | none =>
      rw [List.findIdx?_eq_none_iff] at hi
      rw [hi x hx] at hf; cases hf
    | some k =>
      rw [List.findIdx?_eq_some_iff_getElem] at hi
      obtain ⟨hk, hfk, hj⟩ := hi
      refine ⟨k, xs[k], rfl, List.getElem?_eq_getElem _, hfk, ?_, ?_⟩
      · exact findI_at (x := xs[k]) (by
          rw [List.any_eq_false]
          intro y hy
          obtain ⟨j, hj'⟩ := List.mem_iff_getElem?.1 hy
          rw [List.getElem?_take] at hj'
          split at hj'
          · rename_i hjk
            obtain ⟨h1, rfl⟩ := List.getElem?_eq_some_iff.1 hj'
            simpa using hj j hjk
          · cases hj') (List.getElem?_eq_getElem _) hfk
      · rw [List.find?_eq_some_iff_getElem]
        exact ⟨hfk, k, hk, rfl, fun j hj' => by simpa using hj j hj'⟩

def hasF (m : Md) (s : ByteArray) (n : Int) : Bool := m.funs.any (sameR ⟨s, n⟩)
def sameRf (s : ByteArray) (n : Int) (q : Rf) : Bool := q.name.toList == s.toList && q.arity == n
def hasX (m : Md) (s : ByteArray) (n : Int) : Bool := m.exports.any (sameRf s n)
def named (s : ByteArray) (m : Md) : Bool := m.name.toList == s.toList
def isPutB (s : ByteArray) (n : Int) : Bool := s.toList == [112, 117, 116] && n == 1
/-- Whether there is such a module, which exports such a function and has it. -/
def offersB (ms : List Md) (mod s : ByteArray) (n : Int) : Bool := match ms.find? (named mod) with
  | none => false
  | some q => hasX q s n && hasF q s n
/-- What is wrong with a call, or the empty text. -/
def callC (ms : List Md) (m : Md) (x : Ex) : ByteArray :=
  if x.mod.toList = [] then (if hasF m x.text x.kids.length || isPutB x.text x.kids.length then ⟨#[]⟩ else cCall)
  else (if offersB ms x.mod x.text x.kids.length then ⟨#[]⟩ else cFar)
def callL (ms : List Md) (m : Md) (x : Ex) : List ByteArray := if x.kind = 8 then (if (callC ms m x).toList = [] then [] else [callC ms m x]) else []
def bodiesOf (cl : List Cl) : List Ex := cl.flatMap fun c : Cl => c.2
theorem bodiesOf_snoc (cl : List Cl) (k : Nat) (c : Cl) (h : cl[k]? = some c) : bodiesOf (cl.take (k + 1)) = bodiesOf (cl.take k) ++ c.2 := by
  unfold bodiesOf
  rw [List.take_add_one, h]; simp
theorem bodiesOf_le (cl : List Cl) (k : Nat) : (bodiesOf (cl.take k)).length ≤ (bodiesOf cl).length := by
  conv => rhs; rw [← List.take_append_drop k cl]
  unfold bodiesOf
  rw [List.flatMap_append, List.length_append]; omega
def withinX (x : Ex) : List Ex := x.kids ++ bodiesOf x.clauses
/-- What is wrong with an expression and all within, in order. -/
def codesX (ms : List Md) (m : Md) : Nat → Ex → List ByteArray
  | 0, _ => []
  | d + 1, x => callL ms m x ++ (withinX x).flatMap (codesX ms m d)
end Go.Proofs.YtihffcphbcepoaaGreatDoor
/-
  Places: a module's name, a function's with its number of parameters, and a clause's number; the laws' readers of them, by contract.
-/
namespace Go.Proofs.YtihffcphbcepoaaGreatDoor
open Go.ChangeShapes Go.WideShapes Go.ChangeAt Go.RowKit
set_option linter.unusedVariables false

structure Pl where
  mod : ByteArray
  name : ByteArray
  arity : Int
  clause : Int
def wtPl (q : Pl) : Nat := q.mod.size + q.name.size

theorem szPlace_any (w : World) (q : Pl) (r : Nat) (hr : r ≤ 1048576) (h0 : okS q.mod) (h1 : okS q.name) :
    Calls Tryz.prog 20 #[.agg #[.string q.mod, .string q.name, .int .i64 q.arity, .int .i64 q.clause], .int .i64 r] w fun e w' => e = .returned (.int .i64 (leftOf r (wtPl q))) ∧ Below w.heap.size w w' := by
  obtain ⟨m, s, n, c⟩ := q
  simp only [okS, maxLen] at h0 h1
  have HW : Hid (wtPl ⟨m, s, n, c⟩ = m.size + s.size) := rfl
  generalize wtPl ⟨m, s, n, c⟩ = W at *
  have BL : Hid (∀ (cs : Array Value) (t : TypeId), Below w.heap.size w (w.alloc (.cells cs t))) := fun cs t => (Below.refl _ _).alloc (Nat.le_refl _) _
  by_cases t0 : r < m.size
  · have HR : Hid (leftOf r W = -1) := leftOf_lt (by rw [HW.out]; omega)
    go_enter Tryz.func20, Tryz.ntmps20
    go_wp2_with fail
    go_ret
    exact ⟨by rw [HR.out]; rfl, BL.out _ _⟩
  · by_cases t1 : r < m.size + s.size
    · have HR : Hid (leftOf r W = -1) := leftOf_lt (by rw [HW.out]; omega)
      go_enter Tryz.func20, Tryz.ntmps20
      go_wp2_with fail
      go_ret
      exact ⟨by rw [HR.out]; rfl, BL.out _ _⟩
    · have HR : Hid (leftOf r W = r - m.size - s.size) := by
        show leftOf r W = _
        rw [leftOf_ge (by rw [HW.out]; omega), HW.out]; omega
      go_enter Tryz.func20, Tryz.ntmps20
      go_wp2_with fail
      go_ret
      exact ⟨by rw [HR.out]; rfl, BL.out _ _⟩

theorem toPlace_any (w : World) (q : Pl) :
    Calls Tryz.prog 22 #[.agg #[.string q.mod, .string q.name, .int .i64 q.arity, .int .i64 q.clause]] w fun e w' => e = .returned (.agg #[.string q.mod, .string q.name, .int .i64 q.arity, .int .i64 q.clause]) ∧ Below w.heap.size w w' := by
  obtain ⟨m, s, n, c⟩ := q
  have BL : Hid (∀ (cs cs' : Array Value) (t t' : TypeId), Below w.heap.size w ((w.alloc (.cells cs t)).alloc (.cells cs' t'))) := fun cs cs' t t' => ((Below.refl _ _).alloc (Nat.le_refl _) _).alloc (by simp) _
  have RB : Hid (∀ (cs cs' : Array Value) (t t' : TypeId), Blk (((w.alloc (.cells cs t)).alloc (.cells #[.string m, .string s, .int .i64 n, .int .i64 c] 41)).alloc (.cells cs' t')) (w.heap.size + 1) #[.string m, .string s, .int .i64 n, .int .i64 c] 41) := fun cs cs' t t' => by
    have := Blk.new (w := w.alloc (.cells cs t)) (cs := #[.string m, .string s, .int .i64 n, .int .i64 c]) (t := 41)
    rw [alloc_hs] at this
    exact this.alloc
  have BL3 : Hid (∀ (cs cs' cs'' : Array Value) (t t' t'' : TypeId), Below w.heap.size w (((w.alloc (.cells cs t)).alloc (.cells cs' t')).alloc (.cells cs'' t''))) := fun cs cs' cs'' t t' t'' => (((Below.refl _ _).alloc (Nat.le_refl _) _).alloc (by simp only [alloc_hs]; omega) _).alloc (by simp only [alloc_hs]; omega) _
  go_enter Tryz.func22, Tryz.ntmps22
  go_wp2_with fail
  have q := RB.out #[.string m, .string s, .int .i64 n, .int .i64 c] #[.string m, .string s, .int .i64 n, .int .i64 c] 38 41
  have q0 := q.cell 0 _ rfl
  have q1 := q.cell 1 _ rfl
  have q2 := q.cell 2 _ rfl
  have q3 := q.cell 3 _ rfl
  exact bodyPost_ret (v := .agg #[.string m, .string s, .int .i64 n, .int .i64 c]) (by simp [results, Tryz.results22, go_sem, q0, q1, q2, q3]) rfl ⟨rfl, BL3.out _ _ _ _ _ _⟩
end Go.Proofs.YtihffcphbcepoaaGreatDoor
/-
  How great a module is: weights.
-/
namespace Go.Proofs.YtihffcphbcepoaaGreatDoor
open Go.ChangeShapes Go.WideShapes Go.ChangeAt Go.RowKit
set_option linter.unusedVariables false

def wtCl (f : Ex → Nat) (c : Cl) : Nat := wtS f c.1 + wtS f c.2
def wtEx : Nat → Ex → Nat
  | 0, _ => 0
  | d + 1, e => e.text.size + e.mod.size + wtS (wtEx d) e.kids + wtS (wtCl (wtEx d)) e.clauses
def wtRf (r : Rf) : Nat := r.name.size
def wtFn (d : Nat) (f : Fn') : Nat := f.name.size + wtS (wtCl (wtEx d)) f.clauses
def wtMd (d : Nat) (m : Md) : Nat := m.name.size + wtS wtRf m.exports + wtS (wtFn d) m.funs
end Go.Proofs.YtihffcphbcepoaaGreatDoor
/-
  Chapter 4, plain mathematics: the variables of patterns, what is bound.
-/
namespace Go.Proofs.YtihffcphbcepoaaGreatDoor
open Go.ChangeShapes Go.WideShapes Go.ChangeAt Go.RowKit
set_option linter.unusedVariables false

/-- Names of one behind the other, each once. -/
def foldV {α : Type} (f : α → List ByteArray) (l : List ByteArray) (ks : List α) : List ByteArray := ks.foldl (fun acc y => onceS acc (f y)) l
theorem foldV_snoc {α : Type} (f : α → List ByteArray) (l : List ByteArray) (ks : List α) (k : Nat) (y : α) (h : ks[k]? = some y) : foldV f l (ks.take (k + 1)) = onceS (foldV f l (ks.take k)) (f y) := by
  unfold foldV
  rw [List.take_add_one, h]
  simp
theorem foldV_len {α : Type} (f : α → List ByteArray) (wt : α → Nat) : ∀ (ks : List α) (l : List ByteArray), (∀ y ∈ ks, (f y).length ≤ 1 + wt y) → (foldV f l ks).length ≤ l.length + wtS wt ks
  | [], l, _ => by simp [foldV]
  | y :: ys, l, h => by
    have h1 := foldV_len f wt ys (onceS l (f y)) (fun z hz => h z (by simp [hz]))
    have h2 := onceS_length l (f y)
    have h3 := h y (by simp)
    have h4 : wtS wt (y :: ys) = 1 + wt y + wtS wt ys := by simp [wtS]; omega
    have h5 : foldV f l (y :: ys) = foldV f (onceS l (f y)) ys := rfl
    rw [h5, h4]; omega
theorem foldV_mem {α : Type} (f : α → List ByteArray) : ∀ (ks : List α) (l : List ByteArray), ∀ s ∈ foldV f l ks, s ∈ l ∨ ∃ y ∈ ks, s ∈ f y
  | [], l, s, h => .inl h
  | y :: ys, l, s, h => by
    rcases foldV_mem f ys (onceS l (f y)) s h with h | ⟨z, hz, hs⟩
    · rcases onceS_mem l (f y) s h with h | h
      · exact .inl h
      · exact .inr ⟨y, by simp, h⟩
    · exact .inr ⟨z, by simp [hz], hs⟩

/-- The variables of a pattern. -/
def patV : Nat → Ex → List ByteArray
  | 0, _ => []
  | d + 1, .mk k n t m ks cs => foldV (patV d) (if k = 2 then [t] else []) ks
theorem patV_len : ∀ (d : Nat) (x : Ex), (patV d x).length ≤ 1 + wtEx d x
  | 0, _ => by simp [patV]
  | d + 1, .mk k n t m ks cs => by
    have h1 := foldV_len (patV d) (wtEx d) ks (if k = 2 then [t] else []) (fun y _ => patV_len d y)
    have h2 : (if k = 2 then [t] else ([] : List ByteArray)).length ≤ 1 := by split <;> simp
    have hw : wtEx (d + 1) (.mk k n t m ks cs) = t.size + m.size + wtS (wtEx d) ks + wtS (wtCl (wtEx d)) cs := rfl
    have h3 : patV (d + 1) (.mk k n t m ks cs) = foldV (patV d) (if k = 2 then [t] else []) ks := rfl
    rw [h3, hw]; omega
/-- What is bound behind an expression. -/
def bndV : Nat → Ex → List ByteArray
  | 0, _ => []
  | d + 1, .mk k n t m ks cs => match k, ks with
    | 9, [a, b] => onceS (bndV d b) (patV d a)
    | _, ks => foldV (bndV d) [] ks
/-- The texts of an expression are as long as any may be. -/
def exS : Nat → Ex → Prop
  | 0, _ => False
  | d + 1, .mk k n t m ks cs => okS t ∧ (∀ y ∈ ks, exS d y) ∧ ∀ c ∈ cs, (∀ y ∈ c.1, exS d y) ∧ ∀ y ∈ c.2, exS d y
theorem rows_mem' {α : Type} {w : World} {S : Nat → Prop} {c : Nat} {R : List Value → α → Prop} {v : Value} {es : List α} (h : Rows w S c R v es) : ∀ y ∈ es, ∃ cs, R cs y := by
  intro y hy
  obtain ⟨p, cap, _, _, _, hr⟩ := h
  obtain ⟨i, hi⟩ := List.mem_iff_getElem?.1 hy
  obtain ⟨g, off, _, _, _, hat⟩ := hr (by intro e; rw [e] at hi; simp at hi)
  obtain ⟨cs, _, _, hv⟩ := hat i y hi
  exact ⟨cs, hv⟩
theorem HEx.txts {w : World} {S : Nat → Prop} : ∀ {d : Nat} {cs : List Value} {x : Ex}, HEx w S d cs x → exS d x
  | 0, _, _, h => h.elim
  | d + 1, cs, .mk k n t m ks cl, h => by
    obtain ⟨kv, cv, rfl, h1, h2, h3, h4, f0, f1⟩ := h
    refine ⟨h3, fun y hy => ?_, fun c hc => ?_⟩
    · obtain ⟨_, hv⟩ := rows_mem' f0 y hy
      exact hv.txts
    · obtain ⟨_, p, b, _, g0, g1⟩ := rows_mem' f1 c hc
      exact ⟨fun y hy => by obtain ⟨_, hv⟩ := rows_mem' g0 y hy; exact hv.txts, fun y hy => by obtain ⟨_, hv⟩ := rows_mem' g1 y hy; exact hv.txts⟩
theorem patV_ok : ∀ (d : Nat) (x : Ex), exS d x → ∀ s ∈ patV d x, okS s
  | 0, _, h, _, _ => h.elim
  | d + 1, .mk k n t m ks cs, h, s, hs => by
    rcases foldV_mem (patV d) ks _ s hs with h1 | ⟨y, hy, h1⟩
    · split at h1
      · simp at h1; subst h1; exact h.1
      · simp at h1
    · exact patV_ok d y (h.2.1 y hy) s h1
end Go.Proofs.YtihffcphbcepoaaGreatDoor
/-
  Chapter 4, plain mathematics: all variables of an expression, each once; how many they can be.
-/
namespace Go.Proofs.YtihffcphbcepoaaGreatDoor
open Go.ChangeShapes Go.WideShapes Go.ChangeAt Go.RowKit
set_option linter.unusedVariables false

abbrev keyS (s : ByteArray) : List UInt8 := s.toList
def NdK (l : List ByteArray) : Prop := (l.map keyS).Nodup
def SubK (l : List ByteArray) (m : List (List UInt8)) : Prop := ∀ s ∈ l, keyS s ∈ m

theorem nodup_len {α : Type} [BEq α] [LawfulBEq α] : ∀ (l m : List α), l.Nodup → (∀ x ∈ l, x ∈ m) → l.length ≤ m.length
  | [], m, _, _ => Nat.zero_le _
  | x :: xs, m, hn, hs => by
    have hx : x ∈ m := hs x (by simp)
    rw [List.nodup_cons] at hn
    have h1 := nodup_len xs (m.erase x) hn.2 (fun y hy => (List.mem_erase_of_ne (by intro e; subst e; exact hn.1 hy)).2 (hs y (by simp [hy])))
    have h2 := List.length_erase_of_mem hx
    have h3 : 0 < m.length := List.length_pos_of_mem hx
    simp only [List.length_cons]; omega
theorem NdK.len {l : List ByteArray} {m : List (List UInt8)} (h : NdK l) (hs : SubK l m) : l.length ≤ m.length := by
  have := nodup_len (l.map keyS) m h (fun x hx => by
    obtain ⟨s, hs', rfl⟩ := List.mem_map.1 hx
    exact hs s hs')
  simpa using this

theorem hasS_mem (l : List ByteArray) (s : ByteArray) : hasS l s = true ↔ keyS s ∈ l.map keyS := by
  unfold hasS
  rw [List.any_eq_true, List.mem_map]
  constructor
  · rintro ⟨x, hx, e⟩; exact ⟨x, hx, beq_iff_eq.1 e⟩
  · rintro ⟨x, hx, e⟩; exact ⟨x, hx, beq_iff_eq.2 e⟩
theorem onceS_nd : ∀ (ys l : List ByteArray), NdK l → NdK (onceS l ys)
  | [], l, h => h
  | y :: ys, l, h => by
    refine onceS_nd ys _ ?_
    split
    · exact h
    · rename_i hy
      unfold NdK at *
      rw [List.map_append, List.nodup_append]
      refine ⟨h, by simp, fun a ha b hb => ?_⟩
      simp at hb; subst hb
      intro e; subst e
      exact hy ((hasS_mem l y).2 ha)
theorem onceS_left : ∀ (ys l : List ByteArray) (k : List UInt8), k ∈ l.map keyS → k ∈ (onceS l ys).map keyS
  | [], l, k, h => h
  | y :: ys, l, k, h => by
    refine onceS_left ys _ k ?_
    split
    · exact h
    · rw [List.map_append]; exact List.mem_append_left _ h
theorem onceS_right : ∀ (ys l : List ByteArray) (k : List UInt8), k ∈ ys.map keyS → k ∈ (onceS l ys).map keyS
  | [], l, k, h => by simp at h
  | y :: ys, l, k, h => by
    simp only [List.map_cons, List.mem_cons] at h
    rcases h with rfl | h
    · refine onceS_left ys _ _ ?_
      split
      · rename_i hy; exact (hasS_mem l y).1 hy
      · simp
    · exact onceS_right ys _ k h
theorem foldV_nd {α : Type} (f : α → List ByteArray) : ∀ (ks : List α) (l : List ByteArray), NdK l → NdK (foldV f l ks)
  | [], l, h => h
  | y :: ys, l, h => foldV_nd f ys _ (onceS_nd _ _ h)
theorem foldV_left {α : Type} (f : α → List ByteArray) : ∀ (ks : List α) (l : List ByteArray) (k : List UInt8), k ∈ l.map keyS → k ∈ (foldV f l ks).map keyS
  | [], l, k, h => h
  | y :: ys, l, k, h => foldV_left f ys _ k (onceS_left _ _ k h)
theorem foldV_right {α : Type} (f : α → List ByteArray) : ∀ (ks : List α) (l : List ByteArray) (y : α), y ∈ ks → ∀ k, k ∈ (f y).map keyS → k ∈ (foldV f l ks).map keyS
  | [], l, y, hy, k, h => by simp at hy
  | z :: ys, l, y, hy, k, h => by
    rcases List.mem_cons.1 hy with rfl | hy
    · exact foldV_left f ys _ k (onceS_right _ _ k h)
    · exact foldV_right f ys _ y hy k h

/-- The texts of all variables, as they stand. -/
def varL : Nat → Ex → List (List UInt8)
  | 0, _ => []
  | d + 1, .mk k n t m ks cs => (if k = 2 then [keyS t] else []) ++ (ks.flatMap (varL d) ++ cs.flatMap fun c => c.1.flatMap (varL d) ++ c.2.flatMap (varL d))
theorem flat_len {α : Type} (f : α → List (List UInt8)) (wt : α → Nat) : ∀ (ks : List α), (∀ y ∈ ks, (f y).length ≤ 1 + wt y) → (ks.flatMap f).length ≤ wtS wt ks
  | [], _ => by simp [wtS]
  | y :: ys, h => by
    have h1 := flat_len f wt ys (fun z hz => h z (by simp [hz]))
    have h2 := h y (by simp)
    have h4 : wtS wt (y :: ys) = 1 + wt y + wtS wt ys := by simp [wtS]; omega
    rw [List.flatMap_cons, List.length_append, h4]; omega
theorem varL_len : ∀ (d : Nat) (x : Ex), (varL d x).length ≤ 1 + wtEx d x
  | 0, _ => by simp [varL]
  | d + 1, .mk k n t m ks cs => by
    have h1 := flat_len (varL d) (wtEx d) ks (fun y _ => varL_len d y)
    have h2 : (if k = 2 then [keyS t] else ([] : List (List UInt8))).length ≤ 1 := by split <;> simp
    have h3 := flat_len (fun c : Cl => c.1.flatMap (varL d) ++ c.2.flatMap (varL d)) (wtCl (wtEx d)) cs (fun c _ => by
      have g1 := flat_len (varL d) (wtEx d) c.1 (fun y _ => varL_len d y)
      have g2 := flat_len (varL d) (wtEx d) c.2 (fun y _ => varL_len d y)
      rw [List.length_append]
      have : wtCl (wtEx d) c = wtS (wtEx d) c.1 + wtS (wtEx d) c.2 := rfl
      omega)
    have hw : wtEx (d + 1) (.mk k n t m ks cs) = t.size + m.size + wtS (wtEx d) ks + wtS (wtCl (wtEx d)) cs := rfl
    have hv : varL (d + 1) (.mk k n t m ks cs) = (if k = 2 then [keyS t] else []) ++ (ks.flatMap (varL d) ++ cs.flatMap fun c => c.1.flatMap (varL d) ++ c.2.flatMap (varL d)) := rfl
    have h5 : (cs.flatMap fun c => c.1.flatMap (varL d) ++ c.2.flatMap (varL d)).length ≤ wtS (wtCl (wtEx d)) cs := h3
    rw [hv, hw, List.length_append, List.length_append]
    exact Nat.le_trans (Nat.add_le_add h2 (Nat.add_le_add h1 h5)) (by omega)

theorem patV_nd (d : Nat) (x : Ex) : NdK (patV d x) := by
  cases d with
  | zero => simp [patV, NdK]
  | succ d =>
    obtain ⟨k, n, t, m, ks, cs⟩ := x
    refine foldV_nd _ _ _ ?_
    split <;> simp [NdK]
theorem patV_sub : ∀ (d : Nat) (x : Ex), SubK (patV d x) (varL d x)
  | 0, _ => fun s hs => by simp [patV] at hs
  | d + 1, .mk k n t m ks cs => fun s hs => by
    have hv : varL (d + 1) (.mk k n t m ks cs) = (if k = 2 then [keyS t] else []) ++ (ks.flatMap (varL d) ++ cs.flatMap fun c => c.1.flatMap (varL d) ++ c.2.flatMap (varL d)) := rfl
    rw [hv]
    rcases foldV_mem (patV d) ks _ s hs with h | ⟨y, hy, h⟩
    · split at h
      · rename_i hk
        simp at h; subst h; simp [hk]
      · simp at h
    · exact List.mem_append_right _ (List.mem_append_left _ (List.mem_flatMap.2 ⟨y, hy, patV_sub d y s h⟩))

/-- All variables, each once. -/
def allC (f : Ex → List ByteArray) (acc : List ByteArray) (c : Cl) : List ByteArray := foldV f (foldV f acc c.1) c.2
def allV : Nat → Ex → List ByteArray
  | 0, _ => []
  | d + 1, .mk k n t m ks cs => cs.foldl (allC (allV d)) (foldV (allV d) (patV (d + 1) (.mk k n t m ks cs)) ks)
theorem foldC_nd (f : Ex → List ByteArray) : ∀ (cs : List Cl) (l : List ByteArray), NdK l → NdK (cs.foldl (allC f) l)
  | [], l, h => h
  | c :: cs, l, h => foldC_nd f cs _ (foldV_nd _ _ _ (foldV_nd _ _ _ h))
theorem foldC_left (f : Ex → List ByteArray) : ∀ (cs : List Cl) (l : List ByteArray) (k : List UInt8), k ∈ l.map keyS → k ∈ (cs.foldl (allC f) l).map keyS
  | [], l, k, h => h
  | c :: cs, l, k, h => foldC_left f cs _ k (foldV_left _ _ _ k (foldV_left _ _ _ k h))
theorem foldC_right (f : Ex → List ByteArray) : ∀ (cs : List Cl) (l : List ByteArray) (c : Cl), c ∈ cs → ∀ y, (y ∈ c.1 ∨ y ∈ c.2) → ∀ k, k ∈ (f y).map keyS → k ∈ (cs.foldl (allC f) l).map keyS
  | [], l, c, hc, y, hy, k, h => by simp at hc
  | b :: cs, l, c, hc, y, hy, k, h => by
    rcases List.mem_cons.1 hc with rfl | hc
    · refine foldC_left f cs _ k ?_
      rcases hy with hy | hy
      · exact foldV_left _ _ _ k (foldV_right _ _ _ y hy k h)
      · exact foldV_right _ _ _ y hy k h
    · exact foldC_right f cs _ c hc y hy k h
theorem foldC_mem (f : Ex → List ByteArray) : ∀ (cs : List Cl) (l : List ByteArray), ∀ s ∈ cs.foldl (allC f) l, s ∈ l ∨ ∃ c ∈ cs, ∃ y, (y ∈ c.1 ∨ y ∈ c.2) ∧ s ∈ f y
  | [], l, s, h => .inl h
  | c :: cs, l, s, h => by
    rcases foldC_mem f cs (allC f l c) s h with h | ⟨b, hb, y, hy, hs⟩
    · rcases foldV_mem f c.2 _ s h with h | ⟨y, hy, hs⟩
      · rcases foldV_mem f c.1 _ s h with h | ⟨y, hy, hs⟩
        · exact .inl h
        · exact .inr ⟨c, by simp, y, .inl hy, hs⟩
      · exact .inr ⟨c, by simp, y, .inr hy, hs⟩
    · exact .inr ⟨b, by simp [hb], y, hy, hs⟩
theorem allV_nd (d : Nat) (x : Ex) : NdK (allV d x) := by
  cases d with
  | zero => simp [allV, NdK]
  | succ d =>
    obtain ⟨k, n, t, m, ks, cs⟩ := x
    exact foldC_nd _ _ _ (foldV_nd _ _ _ (patV_nd _ _))
theorem varL_kid {d : Nat} {k n : Int} {t m : ByteArray} {ks : List Ex} {cs : List Cl} {y : Ex} (hy : y ∈ ks) {z : List UInt8} (h : z ∈ varL d y) : z ∈ varL (d + 1) (.mk k n t m ks cs) := by
  show z ∈ (if k = 2 then [keyS t] else []) ++ (ks.flatMap (varL d) ++ cs.flatMap fun c => c.1.flatMap (varL d) ++ c.2.flatMap (varL d))
  exact List.mem_append_right _ (List.mem_append_left _ (List.mem_flatMap.2 ⟨y, hy, h⟩))
theorem varL_cl {d : Nat} {k n : Int} {t m : ByteArray} {ks : List Ex} {cs : List Cl} {c : Cl} (hc : c ∈ cs) {y : Ex} (hy : y ∈ c.1 ∨ y ∈ c.2) {z : List UInt8} (h : z ∈ varL d y) : z ∈ varL (d + 1) (.mk k n t m ks cs) := by
  show z ∈ (if k = 2 then [keyS t] else []) ++ (ks.flatMap (varL d) ++ cs.flatMap fun c => c.1.flatMap (varL d) ++ c.2.flatMap (varL d))
  refine List.mem_append_right _ (List.mem_append_right _ (List.mem_flatMap.2 ⟨c, hc, ?_⟩))
  rcases hy with hy | hy
  · exact List.mem_append_left _ (List.mem_flatMap.2 ⟨y, hy, h⟩)
  · exact List.mem_append_right _ (List.mem_flatMap.2 ⟨y, hy, h⟩)
/-- What has been gathered on the way. -/
structure Got (d : Nat) (x : Ex) (l : List ByteArray) : Prop where
  nd : NdK l
  sub : SubK l (varL d x)
  ok : ∀ s ∈ l, okS s
theorem Got.len {d : Nat} {x : Ex} {l : List ByteArray} (h : Got d x l) (hw : wtEx d x ≤ 1048576) : l.length ≤ 1048577 := by
  have h1 := h.nd.len h.sub
  have h2 := varL_len d x
  omega
theorem allV_sub : ∀ (d : Nat) (x : Ex), SubK (allV d x) (varL d x)
  | 0, _ => fun s hs => by simp [allV] at hs
  | d + 1, .mk k n t m ks cs => fun s hs => by
    rcases foldC_mem (allV d) cs _ s hs with h | ⟨c, hc, y, hy, h⟩
    · rcases foldV_mem (allV d) ks _ s h with h | ⟨y, hy, h⟩
      · exact patV_sub (d + 1) _ s h
      · exact varL_kid hy (allV_sub d y s h)
    · exact varL_cl hc hy (allV_sub d y s h)
theorem allV_ok : ∀ (d : Nat) (x : Ex), exS d x → ∀ s ∈ allV d x, okS s
  | 0, _, h, _, _ => h.elim
  | d + 1, .mk k n t m ks cs, h, s, hs => by
    rcases foldC_mem (allV d) cs _ s hs with h1 | ⟨c, hc, y, hy, h1⟩
    · rcases foldV_mem (allV d) ks _ s h1 with h1 | ⟨y, hy, h1⟩
      · exact patV_ok (d + 1) _ h s h1
      · exact allV_ok d y (h.2.1 y hy) s h1
    · rcases hy with hy | hy
      · exact allV_ok d y ((h.2.2 c hc).1 y hy) s h1
      · exact allV_ok d y ((h.2.2 c hc).2 y hy) s h1
theorem allV_got {d : Nat} {x : Ex} (h : exS d x) : Got d x (allV d x) := ⟨allV_nd d x, allV_sub d x, allV_ok d x h⟩
/-- No variable is left out. -/
theorem allV_all : ∀ (d : Nat) (x : Ex) (z : List UInt8), z ∈ varL d x → z ∈ (allV d x).map keyS
  | 0, _, z, h => by simp [varL] at h
  | d + 1, .mk k n t m ks cs, z, h => by
    have hv : varL (d + 1) (.mk k n t m ks cs) = (if k = 2 then [keyS t] else []) ++ (ks.flatMap (varL d) ++ cs.flatMap fun c => c.1.flatMap (varL d) ++ c.2.flatMap (varL d)) := rfl
    rw [hv] at h
    rcases List.mem_append.1 h with h | h
    · refine foldC_left _ _ _ _ (foldV_left _ _ _ _ ?_)
      split at h
      · rename_i hk
        simp at h; subst h
        refine foldV_left _ _ _ _ ?_
        simp [hk]
      · simp at h
    · rcases List.mem_append.1 h with h | h
      · obtain ⟨y, hy, h⟩ := List.mem_flatMap.1 h
        exact foldC_left _ _ _ _ (foldV_right _ _ _ y hy _ (allV_all d y z h))
      · obtain ⟨c, hc, h⟩ := List.mem_flatMap.1 h
        rcases List.mem_append.1 h with h | h
        · obtain ⟨y, hy, h⟩ := List.mem_flatMap.1 h
          exact foldC_right _ _ _ c hc y (.inl hy) _ (allV_all d y z h)
        · obtain ⟨y, hy, h⟩ := List.mem_flatMap.1 h
          exact foldC_right _ _ _ c hc y (.inr hy) _ (allV_all d y z h)
end Go.Proofs.YtihffcphbcepoaaGreatDoor
/-
  The specification's chapter 4, by contract: l01Has, l04Once, l04PatVars.
-/
namespace Go.Proofs.YtihffcphbcepoaaGreatDoor
open Go.ChangeShapes Go.WideShapes Go.ChangeAt Go.RowKit
set_option linter.unusedVariables false

theorem anyT_succ' {α : Type} (f : α → Bool) (xs : List α) (k : Nat) (x : α) (h : xs[k]? = some x) (ht : (xs.take k).any f = false) (hx : f x = false) : (xs.take (k + 1)).any f = false := by
  rw [List.take_add_one, h, List.any_append, ht]; simp [hx]
theorem anyT_at' {α : Type} (f : α → Bool) (xs : List α) (k : Nat) (x : α) (h : xs[k]? = some x) (hx : f x = true) : xs.any f = true := by
  rw [List.any_eq_true]; exact ⟨x, List.mem_of_getElem? h, hx⟩

set_option maxHeartbeats 1000000 in
theorem hasS_any (w : World) (v : Value) (xs : List ByteArray) (s : ByteArray) (h : StrR w v xs) :
    Calls Tryz.prog 68 #[v, .string s] w fun e w' => e = .returned (.bool (hasS xs s)) ∧ w' = w := by
  have hv : hasS xs s = xs.any (fun x => x.toList == s.toList) := rfl
  rw [hv]
  clear hv
  obtain ⟨p, cap, rfl, hcl, hcm, hx⟩ := h
  have hnb : xs.length ≤ 9223372036854775807 := by unfold maxLen at hcm; omega
  generalize hn : xs.length = n at *
  have HN : Hid (xs.length = n) := hn
  have HX : Hid (xs ≠ [] → ∃ g off, p = some ⟨g, off, none⟩ ∧ All g ∧ g < w.heap.size ∧ ∀ i x, xs[i]? = some x → ∃ cs, cs.length = 1 ∧ (∀ j, j < 1 → w.cell? ⟨g, off + i * 1 + j, none⟩ = cs[j]?) ∧ HStr cs x) := hx
  clear hx hn
  go_enter Tryz.func68, Tryz.ntmps68
  go_wp2
  go_loop [5] (fun iv => ∃ k : Nat, k ≤ n ∧ iv = .int .i64 k ∧ Hid ((xs.take k).any (fun x => x.toList == s.toList) = false)) (fun iv => n - (intOf iv).toNat)
  case atStart => exact ⟨0, Nat.zero_le _, rfl, by show _ = _; simp⟩
  case round =>
    obtain ⟨k, hk, rfl, hno⟩ := hrel
    by_cases hlt : k < n
    · obtain ⟨x, hxk⟩ : ∃ x, xs[k]? = some x := ⟨xs[k]'(by rw [HN.out]; exact hlt), List.getElem?_eq_getElem _⟩
      obtain ⟨g, off, rfl, -, hgl, hat⟩ := HX.out (by intro h; rw [h] at hxk; simp at hxk)
      obtain ⟨cs, hcsl, hcs, rfl, -⟩ := hat k x hxk
      have a0 := hcs 0 (by omega)
      simp at a0
      have hki : (k : Int) < (n : Int) := by omega
      have hk0 : (0 : Int) ≤ (k : Int) := by omega
      clear hcs hat hcsl
      cases hq : (x.toList == s.toList) with
      | true =>
        have HS : Hid ((xs.any fun x => x.toList == s.toList) = true) := anyT_at' _ xs k x hxk hq
        go_wp2
        go_ret
        exact ⟨by rw [HS.out]; rfl, rfl⟩
      | false =>
        have HS : Hid ((xs.take (k + 1)).any (fun x => x.toList == s.toList) = false) := anyT_succ' _ xs k x hxk hno.out hq
        go_wp2
        go_round
        case rel => exact ⟨k + 1, by omega, by go_num, HS⟩
        case measure => simp [intOf]; omega
    · have HS : Hid ((xs.any fun x => x.toList == s.toList) = false) := by
        have := hno.out
        rwa [List.take_of_length_le (by rw [HN.out]; omega)] at this
      go_wp2
      go_ret
      exact ⟨by rw [HS.out]; rfl, rfl⟩

theorem one_str (W : World) (s : ByteArray) (g : Nat) (hg : g = W.heap.size) : ∀ j u, (strs [s])[j]? = some u → (W.alloc (.cells #[.string s] 9)).cell? ((⟨g, 0, none⟩ : Addr).add j) = some u := by
  subst hg
  intro j u h
  match j, h with
  | 0, h => simp [strs] at h; subst h; rw [Addr.add]; exact cell_new W _ _ 0 _ rfl

set_option maxHeartbeats 4000000 in
set_option maxRecDepth 100000 in
/-- Names with more behind. -/
theorem once_any (w : World) (v1 v2 : Value) (xs ys : List ByteArray) (h1 : StrV w v1 xs) (h2 : StrR w v2 ys) (hl : xs.length + ys.length ≤ 8388608) :
    Calls Tryz.prog 37 #[v1, v2] w fun e w' => ∃ u, e = .returned u ∧ OwnS w' w.heap.size u (onceS xs ys) ∧ Below w.heap.size w w' := by
  obtain ⟨h1, hnil⟩ := h1
  have OX := h1.okS
  have OY := h2.okS
  obtain ⟨p, cap, rfl, hcl, hcm, hx⟩ := h1
  obtain ⟨q, cap', rfl, hcl', hcm', hy⟩ := h2
  obtain ⟨i, hi, hz0, hz1, hz2⟩ := info_parts info_str
  have hlx : xs.length ≤ 8388608 := by omega
  have hly : ys.length ≤ 8388608 := by omega
  have LQ : Hid (∀ k, (onceS xs (ys.take k)).length ≤ 8388608) := fun k => by
    have h3 := onceS_length xs (ys.take k)
    have h4 : (ys.take k).length ≤ ys.length := by rw [List.length_take]; omega
    omega
  have OQ : Hid (∀ k, ∀ x ∈ onceS xs (ys.take k), okS x) := fun k x hx => by
    rcases onceS_mem _ _ x hx with h | h
    · exact OX x h
    · exact OY x (List.mem_of_mem_take h)
  have HY : Hid (ys ≠ [] → ∃ g off, q = some ⟨g, off, none⟩ ∧ All g ∧ g < w.heap.size ∧ ∀ i x, ys[i]? = some x → ∃ cs, cs.length = 1 ∧ (∀ j, j < 1 → w.cell? ⟨g, off + i * 1 + j, none⟩ = cs[j]?) ∧ HStr cs x) := hy
  have O0 : Hid (OwnS (w.alloc (.cells #[] 9)) w.heap.size (.slice (some ⟨w.heap.size, 0, none⟩) 0 0) []) := OwnS.fresh
  have BL : Hid (Below w.heap.size w (w.alloc (.cells #[] 9))) := (Below.refl _ _).alloc (Nat.le_refl _) _
  have HC : Hid (∀ a, p = some a → ∀ j u, (strs xs)[j]? = some u → (w.alloc (.cells #[] 9)).cell? (a.add j) = some u) := fun a ha j u hj => by
    have hne : xs ≠ [] := by intro e; rw [e] at hj; simp [strs] at hj
    obtain ⟨g, off, hp, -, hgl, hat⟩ := hx hne
    have hj' := hj
    simp only [strs, List.getElem?_map, Option.map_eq_some_iff] at hj'
    obtain ⟨x, hxj, rfl⟩ := hj'
    obtain ⟨cs, _, hcs, rfl, _⟩ := hat j x hxj
    have h0 := hcs 0 (by omega)
    rw [hp] at ha
    obtain rfl := Option.some.inj ha
    have e1 : (⟨g, off, none⟩ : Addr).add j = ⟨g, off + j * 1 + 0, none⟩ := by simp [Addr.add]
    rw [e1, BL.out.cell (p := ⟨g, _, none⟩) hgl]
    exact h0
  generalize hn : ys.length = n at *
  have HN : Hid (ys.length = n) := hn
  clear hy OX OY hx hn
  cases p with
  | none =>
    have hxs : xs = [] := by
      have := hnil _ _ rfl
      simp only [Value.slice.injEq, true_and] at this
      exact List.length_eq_zero_iff.1 this.1
    have hcz : cap = 0 := by
      have := hnil _ _ rfl
      simp only [Value.slice.injEq, true_and] at this
      exact this.2
    subst hxs hcz
    simp only [List.length_nil] at *
    clear hnil
    go_enter Tryz.func37, Tryz.ntmps37
    go_wp2_with (first | (at_builtin; refine wpList_append_own_none rfl _ _ 33 rfl w.heap.size 9 i 1 Tryz.underlying33 hi _ _ _ rfl O0.out.1 rfl ?_))
    have HO1 := O0
    have HB1 := BL
    go_wp2_with fail
    go_loopw [5, 6] (fun ov iv wr => ∃ k : Nat, k ≤ n ∧ iv = .int .i64 k ∧ Hid (OwnS wr w.heap.size ov (onceS [] (ys.take k))) ∧ Below w.heap.size w wr) (fun _ iv _ => n - (intOf iv).toNat)
    case atStart => exact ⟨0, Nat.zero_le _, rfl, HO1.out, HB1.out⟩
    case round =>
      obtain ⟨k, hk, rfl, ho, hb⟩ := hrel
      have HB : Hid (Below w.heap.size w wr) := hb
      by_cases hlt : k < n
      · obtain ⟨y, hyk⟩ : ∃ y, ys[k]? = some y := ⟨ys[k]'(by rw [HN.out]; exact hlt), List.getElem?_eq_getElem _⟩
        obtain ⟨g, off, rfl, -, hgl, hat⟩ := HY.out (by intro h; rw [h] at hyk; simp at hyk)
        obtain ⟨cs, hcsl, hcs, rfl, -⟩ := hat k y hyk
        have a0 := hcs 0 (by omega)
        rw [← hb.cell (p := ⟨g, _, none⟩) hgl] at a0
        simp at a0
        have hki : (k : Int) < (n : Int) := by omega
        have hk0 : (0 : Int) ≤ (k : Int) := by omega
        have HJ : Hid (onceS [] (ys.take (k + 1)) = if hasS (onceS [] (ys.take k)) y then onceS [] (ys.take k) else onceS [] (ys.take k) ++ [y]) := by
          show _ = _
          rw [List.take_add_one, hyk]
          exact onceS_snoc [] (ys.take k) y
        have lq := LQ.out k
        have oq := OQ.out k
        have SR : Hid (StrR wr u5 (onceS [] (ys.take k))) := ho.out.strR oq
        generalize hJ0 : onceS [] (ys.take k) = J at *
        clear hb hcs hat hcsl oq hJ0
        cases hq : hasS J y with
        | true =>
          have HJ2 : Hid (onceS [] (ys.take (k + 1)) = J) := by show _ = _; rw [HJ.out, hq]; rfl
          go_wp2_with (first | (go_at_call 68; go_must (refine (hasS_any _ _ _ _ SR.out).mono ?_; rintro e w9 ⟨rfl, hw9⟩; rw [hq, hw9]; clear hw9 w9)))
          exact ⟨⟨k + 1, by omega, by go_num, by show OwnS _ _ _ _; rw [HJ2.out]; exact ho.out, HB.out⟩, by simp [intOf]; omega⟩
        | false =>
          have HJ2 : Hid (onceS [] (ys.take (k + 1)) = J ++ [y]) := by show _ = _; rw [HJ.out, hq]; rfl
          have OA : Hid (OwnS (wr.alloc (.cells #[.string y] 9)) w.heap.size u5 J) := ho.out.next ((Below.refl _ _).alloc (Nat.le_refl _) _)
          have N1 : Hid (∀ j u, (strs [y])[j]? = some u → (wr.alloc (.cells #[.string y] 9)).cell? ((⟨wr.heap.size, 0, none⟩ : Addr).add j) = some u) := one_str wr y _ rfl
          have BA : Hid (Below w.heap.size w (wr.alloc (.cells #[.string y] 9))) := HB.out.alloc HB.out.size _
          go_wp2_with (first | (go_at_call 68; go_must (refine (hasS_any _ _ _ _ SR.out).mono ?_; rintro e w9 ⟨rfl, hw9⟩; rw [hq, hw9]; clear hw9 w9)) | (at_builtin; refine wpList_append_own _ rfl _ _ 33 rfl w.heap.size 9 i (.string ⟨#[]⟩) 1 16 Tryz.underlying33 hi hz0 hz1 hz2 rfl (by decide) u5 _ _ rfl OA.out.1 _ 1 1 (strs [y]) rfl rfl N1.out (strs_oneCell _) (by unfold maxLen; omega) (by omega) OA.out.2 ?_))
          intro u2 w2 hown2 hgr2 _
          have HO2 : Hid (OwnS w2 w.heap.size u2 (J ++ [y])) := OwnS.of hown2 (by simp) rfl (Nat.le_trans OA.out.2 hgr2.size)
          have HB2 : Hid (Below w.heap.size w w2) := BA.out.trans (OA.out.below hgr2)
          clear hown2 hgr2
          go_wp2_with fail
          exact ⟨⟨k + 1, by omega, by go_num, by show OwnS _ _ _ _; rw [HJ2.out]; exact HO2.out, HB2.out⟩, by simp [intOf]; omega⟩
      · have HS : Hid (OwnS wr w.heap.size u5 (onceS [] ys)) := by
          have := ho.out
          rwa [List.take_of_length_le (by rw [HN.out]; omega)] at this
        clear hb
        go_wp2_with fail
        go_ret
        exact ⟨u5, rfl, HS.out, HB.out⟩
  | some a =>
    go_enter Tryz.func37, Tryz.ntmps37
    go_wp2_with (first | (at_builtin; refine wpList_append_own _ rfl _ _ 33 rfl w.heap.size 9 i (.string ⟨#[]⟩) 1 16 Tryz.underlying33 hi hz0 hz1 hz2 rfl (by decide) _ _ _ rfl O0.out.1 a xs.length cap (strs xs) rfl (by rw [strs_length]; omega) (HC.out a rfl) (strs_oneCell _) (by unfold maxLen; simp only [List.length_nil]; omega) (by simp only [List.length_nil]; omega) O0.out.2 ?_))
    intro u1 w1 hown1 hgr1 _
    have HO1 : Hid (OwnS w1 w.heap.size u1 xs) := by
      have := OwnS.of (l := []) (m := xs) hown1 (by simp) (by simp [strs]) (Nat.le_trans O0.out.2 hgr1.size)
      show OwnS _ _ _ _
      simpa using this
    have HB1 : Hid (Below w.heap.size w w1) := BL.out.trans (O0.out.below hgr1)
    clear hown1 hgr1
    go_wp2_with fail
    go_loopw [5, 6] (fun ov iv wr => ∃ k : Nat, k ≤ n ∧ iv = .int .i64 k ∧ Hid (OwnS wr w.heap.size ov (onceS xs (ys.take k))) ∧ Below w.heap.size w wr) (fun _ iv _ => n - (intOf iv).toNat)
    case atStart => exact ⟨0, Nat.zero_le _, rfl, HO1.out, HB1.out⟩
    case round =>
      obtain ⟨k, hk, rfl, ho, hb⟩ := hrel
      have HB : Hid (Below w.heap.size w wr) := hb
      by_cases hlt : k < n
      · obtain ⟨y, hyk⟩ : ∃ y, ys[k]? = some y := ⟨ys[k]'(by rw [HN.out]; exact hlt), List.getElem?_eq_getElem _⟩
        obtain ⟨g, off, rfl, -, hgl, hat⟩ := HY.out (by intro h; rw [h] at hyk; simp at hyk)
        obtain ⟨cs, hcsl, hcs, rfl, -⟩ := hat k y hyk
        have a0 := hcs 0 (by omega)
        rw [← hb.cell (p := ⟨g, _, none⟩) hgl] at a0
        simp at a0
        have hki : (k : Int) < (n : Int) := by omega
        have hk0 : (0 : Int) ≤ (k : Int) := by omega
        have HJ : Hid (onceS xs (ys.take (k + 1)) = if hasS (onceS xs (ys.take k)) y then onceS xs (ys.take k) else onceS xs (ys.take k) ++ [y]) := by
          show _ = _
          rw [List.take_add_one, hyk]
          exact onceS_snoc xs (ys.take k) y
        have lq := LQ.out k
        have oq := OQ.out k
        have SR : Hid (StrR wr u5 (onceS xs (ys.take k))) := ho.out.strR oq
        generalize hJ0 : onceS xs (ys.take k) = J at *
        clear hb hcs hat hcsl oq hJ0
        cases hq : hasS J y with
        | true =>
          have HJ2 : Hid (onceS xs (ys.take (k + 1)) = J) := by show _ = _; rw [HJ.out, hq]; rfl
          go_wp2_with (first | (go_at_call 68; go_must (refine (hasS_any _ _ _ _ SR.out).mono ?_; rintro e w9 ⟨rfl, hw9⟩; rw [hq, hw9]; clear hw9 w9)))
          exact ⟨⟨k + 1, by omega, by go_num, by show OwnS _ _ _ _; rw [HJ2.out]; exact ho.out, HB.out⟩, by simp [intOf]; omega⟩
        | false =>
          have HJ2 : Hid (onceS xs (ys.take (k + 1)) = J ++ [y]) := by show _ = _; rw [HJ.out, hq]; rfl
          have OA : Hid (OwnS (wr.alloc (.cells #[.string y] 9)) w.heap.size u5 J) := ho.out.next ((Below.refl _ _).alloc (Nat.le_refl _) _)
          have N1 : Hid (∀ j u, (strs [y])[j]? = some u → (wr.alloc (.cells #[.string y] 9)).cell? ((⟨wr.heap.size, 0, none⟩ : Addr).add j) = some u) := one_str wr y _ rfl
          have BA : Hid (Below w.heap.size w (wr.alloc (.cells #[.string y] 9))) := HB.out.alloc HB.out.size _
          go_wp2_with (first | (go_at_call 68; go_must (refine (hasS_any _ _ _ _ SR.out).mono ?_; rintro e w9 ⟨rfl, hw9⟩; rw [hq, hw9]; clear hw9 w9)) | (at_builtin; refine wpList_append_own _ rfl _ _ 33 rfl w.heap.size 9 i (.string ⟨#[]⟩) 1 16 Tryz.underlying33 hi hz0 hz1 hz2 rfl (by decide) u5 _ _ rfl OA.out.1 _ 1 1 (strs [y]) rfl rfl N1.out (strs_oneCell _) (by unfold maxLen; omega) (by omega) OA.out.2 ?_))
          intro u2 w2 hown2 hgr2 _
          have HO2 : Hid (OwnS w2 w.heap.size u2 (J ++ [y])) := OwnS.of hown2 (by simp) rfl (Nat.le_trans OA.out.2 hgr2.size)
          have HB2 : Hid (Below w.heap.size w w2) := BA.out.trans (OA.out.below hgr2)
          clear hown2 hgr2
          go_wp2_with fail
          exact ⟨⟨k + 1, by omega, by go_num, by show OwnS _ _ _ _; rw [HJ2.out]; exact HO2.out, HB2.out⟩, by simp [intOf]; omega⟩
      · have HS : Hid (OwnS wr w.heap.size u5 (onceS xs ys)) := by
          have := ho.out
          rwa [List.take_of_length_le (by rw [HN.out]; omega)] at this
        clear hb
        go_wp2_with fail
        go_ret
        exact ⟨u5, rfl, HS.out, HB.out⟩
end Go.Proofs.YtihffcphbcepoaaGreatDoor
/-
  The specification's chapter 4, by contract: l04PatVars.
-/
namespace Go.Proofs.YtihffcphbcepoaaGreatDoor
open Go.ChangeShapes Go.WideShapes Go.ChangeAt Go.RowKit
set_option linter.unusedVariables false

theorem OwnS.base {w : World} {B B' : Nat} {v : Value} {l : List ByteArray} (h : OwnS w B v l) (hB : B' ≤ B) : OwnS w B' v l := by
  refine ⟨⟨h.1.1, ?_⟩, Nat.le_trans hB h.2⟩
  rcases h.1.2 with hn | ⟨g, cap, cur, hv, hb, hr⟩
  · exact .inl hn
  · exact .inr ⟨g, cap, cur, hv, Nat.le_trans hB hb, hr⟩

/-- A function of an expression that answers names, in new memory. -/
def NmC (F : FuncId) (d : Nat) (f : Ex → List ByteArray) : Prop :=
  ∀ (w : World) (cs : List Value) (x : Ex), HEx w All d cs x → wtEx d x ≤ 1048576 → Calls Tryz.prog F #[.agg cs.toArray] w fun e w' => ∃ u, e = .returned u ∧ OwnS w' w.heap.size u (f x) ∧ Below w.heap.size w w'

set_option maxHeartbeats 8000000 in
set_option maxRecDepth 100000 in
theorem patVars_of {d : Nat} (hE : NmC 118 d (patV d)) : NmC 118 (d + 1) (patV (d + 1)) := by
  intro w cs x h hwt
  have hok := h.txts
  obtain ⟨kv, cv, rfl, -, -, hts, hms, f0, -⟩ := h
  obtain ⟨kx, nx, tx, mx, ks, cl⟩ := x
  simp only [Ex.kind, Ex.n, Ex.text, Ex.mod, Ex.kids] at *
  have hw : wtEx (d + 1) (.mk kx nx tx mx ks cl) = tx.size + mx.size + wtS (wtEx d) ks + wtS (wtCl (wtEx d)) cl := rfl
  have wks : wtS (wtEx d) ks ≤ 1048576 := by omega
  obtain ⟨p, cap, rfl, hcl, hcm, hx⟩ := f0
  have hnb : ks.length ≤ 9223372036854775807 := by unfold maxLen at hcm; omega
  obtain ⟨i, hi, hz0, hz1, hz2⟩ := info_parts info_str
  have hpv : patV (d + 1) (.mk kx nx tx mx ks cl) = foldV (patV d) (if kx = 2 then [tx] else []) ks := rfl
  rw [hpv]
  have hl0 : (if kx = 2 then [tx] else ([] : List ByteArray)).length ≤ 1 := by split <;> simp
  have ok0 : ∀ s ∈ (if kx = 2 then [tx] else ([] : List ByteArray)), okS s := fun s hs => by
    split at hs
    · simp at hs; subst hs; exact hts
    · simp at hs
  have LQ : Hid (∀ k, (foldV (patV d) (if kx = 2 then [tx] else []) (ks.take k)).length ≤ 1048577) := fun k => by
    have h1 := foldV_len (patV d) (wtEx d) (ks.take k) (if kx = 2 then [tx] else []) (fun y _ => patV_len d y)
    have h2 : wtS (wtEx d) (ks.take k) ≤ wtS (wtEx d) ks := by
      have h3 := sum_take_le (wtEx d) ks k
      have h4 : (ks.take k).length ≤ ks.length := by rw [List.length_take]; omega
      unfold wtS; omega
    omega
  have OQ : Hid (∀ k, ∀ s ∈ foldV (patV d) (if kx = 2 then [tx] else []) (ks.take k), okS s) := fun k s hs => by
    rcases foldV_mem _ _ _ s hs with h | ⟨y, hy, h⟩
    · exact ok0 s h
    · exact patV_ok d y (hok.2.1 y (List.mem_of_mem_take hy)) s h
  have BX : Hid (∀ k x, ks[k]? = some x → wtEx d x ≤ 1048576 ∧ exS d x ∧ (patV d x).length ≤ 1048577) := fun k x hk => by
    have h1 := sum_take_succ (wtEx d) ks k x hk
    have h2 := sum_take_le (wtEx d) ks (k + 1)
    have h3 := patV_len d x
    have h4 : wtEx d x ≤ 1048576 := by unfold wtS at wks; omega
    exact ⟨h4, hok.2.1 x (List.mem_of_getElem? hk), by omega⟩
  generalize hn : ks.length = n at *
  have HN : Hid (ks.length = n) := hn
  have HX : Hid (ks ≠ [] → ∃ g off, p = some ⟨g, off, none⟩ ∧ All g ∧ g < w.heap.size ∧ ∀ i x, ks[i]? = some x → ∃ cs, cs.length = 6 ∧ (∀ j, j < 6 → w.cell? ⟨g, off + i * 6 + j, none⟩ = cs[j]?) ∧ HEx w All d cs x) := hx
  obtain ⟨W1, hW1⟩ : ∃ W1, W1 = w.alloc (.cells #[.int .i64 kx, .int .i64 nx, .string tx, .string mx, .slice p n cap, cv] 88) := ⟨_, rfl⟩
  have bA : Hid (Blk W1 w.heap.size #[.int .i64 kx, .int .i64 nx, .string tx, .string mx, .slice p n cap, cv] 88) := by show Blk _ _ _ _; rw [hW1]; exact Blk.new
  have B1 : Hid (Below w.heap.size w W1) := by show Below _ _ _; rw [hW1]; exact (Below.refl _ _).alloc (Nat.le_refl _) _
  have hs1 : W1.heap.size = w.heap.size + 1 := by rw [hW1]; simp
  have HW1 : Hid (W1 = w.alloc (.cells #[.int .i64 kx, .int .i64 nx, .string tx, .string mx, .slice p n cap, cv] 88)) := hW1
  have O1 : Hid (OwnS (W1.alloc (.cells #[] 9)) (w.heap.size + 1) (.slice (some ⟨w.heap.size + 1, 0, none⟩) 0 0) []) := by
    have := OwnS.fresh (w := W1)
    rwa [hs1] at this
  have BB : Hid (Below w.heap.size w (W1.alloc (.cells #[] 9))) := B1.out.alloc B1.out.size _
  have bB : Hid (Blk (W1.alloc (.cells #[] 9)) w.heap.size #[.int .i64 kx, .int .i64 nx, .string tx, .string mx, .slice p n cap, cv] 88) := bA.out.alloc
  clear hx hn hok ok0 hw hwt hW1 hpv
  by_cases k2 : kx = 2
  · subst k2
    simp only [if_true] at LQ OQ ⊢
    have O2 : Hid (OwnS ((W1.alloc (.cells #[] 9)).alloc (.cells #[.string tx] 9)) (w.heap.size + 1) (.slice (some ⟨w.heap.size + 1, 0, none⟩) 0 0) []) := O1.out.next ((Below.refl _ _).alloc (Nat.le_refl _) _)
    have N1 : Hid (∀ j u, (strs [tx])[j]? = some u → ((W1.alloc (.cells #[] 9)).alloc (.cells #[.string tx] 9)).cell? ((⟨w.heap.size + 1 + 1, 0, none⟩ : Addr).add j) = some u) := one_str _ tx _ (by simp only [alloc_hs]; omega)
    have B2 : Hid (Below w.heap.size w ((W1.alloc (.cells #[] 9)).alloc (.cells #[.string tx] 9))) := BB.out.alloc BB.out.size _
    have bC : Hid (Blk ((W1.alloc (.cells #[] 9)).alloc (.cells #[.string tx] 9)) w.heap.size #[.int .i64 2, .int .i64 nx, .string tx, .string mx, .slice p n cap, cv] 88) := bB.out.alloc
    have y0 := bB.out.cell 0 _ rfl
    have y2 := bB.out.cell 2 _ rfl
    go_enter Tryz.func118, Tryz.ntmps118
    go_wp2_with (first | (at_builtin; rw [← HW1.out]; refine wpList_append_own _ rfl _ _ 33 rfl (w.heap.size + 1) 9 i (.string ⟨#[]⟩) 1 16 Tryz.underlying33 hi hz0 hz1 hz2 rfl (by decide) (.slice (some ⟨w.heap.size + 1, 0, none⟩) 0 0) _ _ rfl O2.out.1 ⟨w.heap.size + 1 + 1, 0, none⟩ 1 1 (strs [tx]) rfl rfl N1.out (strs_oneCell _) (by unfold maxLen; simp) (by simp) O2.out.2 ?_))
    intro u2 w2 hown2 hgr2 _
    have HO2 : Hid (OwnS w2 w.heap.size u2 [tx]) := by
      have := OwnS.of (l := []) (m := [tx]) hown2 (by simp) rfl (Nat.le_trans O2.out.2 hgr2.size)
      exact OwnS.base (by simpa using this) (by omega)
    have bD : Hid (Blk w2 w.heap.size #[.int .i64 2, .int .i64 nx, .string tx, .string mx, .slice p n cap, cv] 88) := O2.out.blk hgr2 bC.out (by simp [Value.ownBlock])
    have HB2 : Hid (Below w.heap.size w w2) := B2.out.trans ((O2.out.below hgr2).mono (by omega))
    clear hown2 hgr2 y0 y2
    go_wp2_with fail
    go_loopw [3, 4] (fun ov iv wr => ∃ k : Nat, k ≤ n ∧ iv = .int .i64 k ∧ Hid (OwnS wr w.heap.size ov (foldV (patV d) [tx] (ks.take k))) ∧ Hid (Blk wr w.heap.size #[.int .i64 2, .int .i64 nx, .string tx, .string mx, .slice p n cap, cv] 88) ∧ Below w.heap.size w wr) (fun _ iv _ => n - (intOf iv).toNat)
    case atStart => exact ⟨0, Nat.zero_le _, rfl, HO2.out, bD.out, HB2.out⟩
    case round =>
      obtain ⟨k, hk, rfl, ho, hbk, hb⟩ := hrel
      have HB : Hid (Below w.heap.size w wr) := hb
      have xa4 := hbk.out.cell 4 _ rfl
      by_cases hlt : k < n
      · obtain ⟨x, hxk⟩ : ∃ x, ks[k]? = some x := ⟨ks[k]'(by rw [HN.out]; exact hlt), List.getElem?_eq_getElem _⟩
        obtain ⟨g, off, rfl, -, hgl, hat⟩ := HX.out (by intro h; rw [h] at hxk; simp at hxk)
        obtain ⟨cs, hcsl, hcs, r1⟩ := hat k x hxk
        have E1 : ∀ w', Below w.heap.size w w' → HEx w' All d cs x := fun w' hw => r1.mono (SameOn.of_below hw) (fun _ h => h)
        obtain ⟨c0, c1, c2, c3, c4, c5, rfl⟩ := len6 hcsl
        have a0 := hcs 0 (by omega)
        have a1 := hcs 1 (by omega)
        have a2 := hcs 2 (by omega)
        have a3 := hcs 3 (by omega)
        have a4 := hcs 4 (by omega)
        have a5 := hcs 5 (by omega)
        rw [← hb.cell (p := ⟨g, _, none⟩) hgl] at a0 a1 a2 a3 a4 a5
        simp at a0 a1 a2 a3 a4 a5
        have hki : (k : Int) < (n : Int) := by omega
        have hk0 : (0 : Int) ≤ (k : Int) := by omega
        obtain ⟨wx, sx, lx⟩ := BX.out k x hxk
        have HJ : Hid (foldV (patV d) [tx] (ks.take (k + 1)) = onceS (foldV (patV d) [tx] (ks.take k)) (patV d x)) := foldV_snoc _ _ ks k x hxk
        have lq := LQ.out k
        have oq := OQ.out k
        generalize hJ0 : foldV (patV d) [tx] (ks.take k) = J at *
        clear hb hcs hat hcsl r1 hJ0
        go_wp2_with fail
        refine (hE _ _ x (E1 _ HB.out) wx).mono ?_
        rintro e w4 ⟨u4, rfl, ho4, hb4⟩
        have HB4 : Hid (Below w.heap.size w w4) := HB.out.trans (hb4.mono HB.out.size)
        have SV : Hid (StrV w4 u3 J) := (ho.out.next hb4).strV oq
        have SR : Hid (StrR w4 u4 (patV d x)) := ho4.strR (patV_ok d x sx)
        have bk4 : Hid (Blk w4 w.heap.size #[.int .i64 2, .int .i64 nx, .string tx, .string mx, .slice (some ⟨g, off, none⟩) n cap, cv] 88) := hbk.out.next hb4
        clear hb4 ho4 xa4 a0 a1 a2 a3 a4 a5
        go_wp2_with fail
        refine (once_any _ _ _ J (patV d x) SV.out SR.out (by omega)).mono ?_
        rintro e w5 ⟨u5, rfl, ho5, hb5⟩
        have HB5 : Hid (Below w.heap.size w w5) := HB4.out.trans (hb5.mono HB4.out.size)
        have HO5 : Hid (OwnS w5 w.heap.size u5 (onceS J (patV d x))) := ho5.base HB4.out.size
        have bk5 : Hid (Blk w5 w.heap.size #[.int .i64 2, .int .i64 nx, .string tx, .string mx, .slice (some ⟨g, off, none⟩) n cap, cv] 88) := bk4.out.next hb5
        clear hb5 ho5
        go_wp2_with fail
        exact ⟨⟨k + 1, by omega, by go_num, by show OwnS _ _ _ _; rw [HJ.out]; exact HO5.out, bk5.out, HB5.out⟩, by simp [intOf]; omega⟩
      · have HS : Hid (OwnS wr w.heap.size u3 (foldV (patV d) [tx] ks)) := by
          have := ho.out
          rwa [List.take_of_length_le (by rw [HN.out]; omega)] at this
        clear hb
        go_wp2_with fail
        go_ret
        exact ⟨u3, rfl, HS.out, HB.out⟩
  · have L2 : (if kx = 2 then [tx] else ([] : List ByteArray)) = [] := if_neg k2
    simp only [L2] at LQ OQ ⊢
    clear L2
    have k2b : (kx == 2) = false := by simpa using k2
    have O9 : Hid (OwnS (W1.alloc (.cells #[] 9)) w.heap.size (.slice (some ⟨w.heap.size + 1, 0, none⟩) 0 0) []) := O1.out.base (by omega)
    have y0 := bA.out.cell 0 _ rfl
    go_enter Tryz.func118, Tryz.ntmps118
    go_wp2_with fail
    rw [← HW1.out]
    go_loopw [3, 4] (fun ov iv wr => ∃ k : Nat, k ≤ n ∧ iv = .int .i64 k ∧ Hid (OwnS wr w.heap.size ov (foldV (patV d) [] (ks.take k))) ∧ Hid (Blk wr w.heap.size #[.int .i64 kx, .int .i64 nx, .string tx, .string mx, .slice p n cap, cv] 88) ∧ Below w.heap.size w wr) (fun _ iv _ => n - (intOf iv).toNat)
    case atStart => exact ⟨0, Nat.zero_le _, rfl, O9.out, bB.out, BB.out⟩
    case round =>
      obtain ⟨k, hk, rfl, ho, hbk, hb⟩ := hrel
      have HB : Hid (Below w.heap.size w wr) := hb
      have xa4 := hbk.out.cell 4 _ rfl
      by_cases hlt : k < n
      · obtain ⟨x, hxk⟩ : ∃ x, ks[k]? = some x := ⟨ks[k]'(by rw [HN.out]; exact hlt), List.getElem?_eq_getElem _⟩
        obtain ⟨g, off, rfl, -, hgl, hat⟩ := HX.out (by intro h; rw [h] at hxk; simp at hxk)
        obtain ⟨cs, hcsl, hcs, r1⟩ := hat k x hxk
        have E1 : ∀ w', Below w.heap.size w w' → HEx w' All d cs x := fun w' hw => r1.mono (SameOn.of_below hw) (fun _ h => h)
        obtain ⟨c0, c1, c2, c3, c4, c5, rfl⟩ := len6 hcsl
        have a0 := hcs 0 (by omega)
        have a1 := hcs 1 (by omega)
        have a2 := hcs 2 (by omega)
        have a3 := hcs 3 (by omega)
        have a4 := hcs 4 (by omega)
        have a5 := hcs 5 (by omega)
        rw [← hb.cell (p := ⟨g, _, none⟩) hgl] at a0 a1 a2 a3 a4 a5
        simp at a0 a1 a2 a3 a4 a5
        have hki : (k : Int) < (n : Int) := by omega
        have hk0 : (0 : Int) ≤ (k : Int) := by omega
        obtain ⟨wx, sx, lx⟩ := BX.out k x hxk
        have HJ : Hid (foldV (patV d) [] (ks.take (k + 1)) = onceS (foldV (patV d) [] (ks.take k)) (patV d x)) := foldV_snoc _ _ ks k x hxk
        have lq := LQ.out k
        have oq := OQ.out k
        generalize hJ0 : foldV (patV d) [] (ks.take k) = J at *
        clear hb hcs hat hcsl r1 hJ0
        go_wp2_with fail
        refine (hE _ _ x (E1 _ HB.out) wx).mono ?_
        rintro e w4 ⟨u4, rfl, ho4, hb4⟩
        have HB4 : Hid (Below w.heap.size w w4) := HB.out.trans (hb4.mono HB.out.size)
        have SV : Hid (StrV w4 u3 J) := (ho.out.next hb4).strV oq
        have SR : Hid (StrR w4 u4 (patV d x)) := ho4.strR (patV_ok d x sx)
        have bk4 : Hid (Blk w4 w.heap.size #[.int .i64 kx, .int .i64 nx, .string tx, .string mx, .slice (some ⟨g, off, none⟩) n cap, cv] 88) := hbk.out.next hb4
        clear hb4 ho4 xa4 a0 a1 a2 a3 a4 a5
        go_wp2_with fail
        refine (once_any _ _ _ J (patV d x) SV.out SR.out (by omega)).mono ?_
        rintro e w5 ⟨u5, rfl, ho5, hb5⟩
        have HB5 : Hid (Below w.heap.size w w5) := HB4.out.trans (hb5.mono HB4.out.size)
        have HO5 : Hid (OwnS w5 w.heap.size u5 (onceS J (patV d x))) := ho5.base HB4.out.size
        have bk5 : Hid (Blk w5 w.heap.size #[.int .i64 kx, .int .i64 nx, .string tx, .string mx, .slice (some ⟨g, off, none⟩) n cap, cv] 88) := bk4.out.next hb5
        clear hb5 ho5
        go_wp2_with fail
        exact ⟨⟨k + 1, by omega, by go_num, by show OwnS _ _ _ _; rw [HJ.out]; exact HO5.out, bk5.out, HB5.out⟩, by simp [intOf]; omega⟩
      · have HS : Hid (OwnS wr w.heap.size u3 (foldV (patV d) [] ks)) := by
          have := ho.out
          rwa [List.take_of_length_le (by rw [HN.out]; omega)] at this
        clear hb
        go_wp2_with fail
        go_ret
        exact ⟨u3, rfl, HS.out, HB.out⟩

theorem patVars_all : ∀ d, NmC 118 d (patV d)
  | 0 => fun w cs x h _ => h.elim
  | d + 1 => patVars_of (patVars_all d)
end Go.Proofs.YtihffcphbcepoaaGreatDoor
/-
  The specification's l04Sorted: names, ascending, each once.
-/
namespace Go.Proofs.YtihffcphbcepoaaGreatDoor
open Go.ChangeShapes Go.WideShapes Go.ChangeAt Go.RowKit
set_option linter.unusedVariables false
set_option maxRecDepth 100000

theorem step_append_own {P : Program} (w : World) {ops : Array Oper} {o : Oper} {a : Act} {K : Act → World → Prop} {Q : Exit → Act → World → Prop} {E : Prop} (hgd : o.guard = none) (s x : Operand) (t : TypeId)
    (ho : o.op = .call { callee := .builtin .append, args := #[s, x], argTypes := #[t, t] })
    (base : Nat) (e : TypeId) (i : TypeInfo) (z : Value) (size bytes : Nat) (ht : P.underlying t = some (.slice e)) (hi : P.info? e = some i) (hz : i.zero = some z)
    (hsize : i.size = size) (hby : i.bytes = bytes) (hzs : z.cells.size = size) (hsz : 0 < size)
    (v : Value) (n : Nat) (xs : List Value) (hs : a.eval s = v) (hown : w.ownsRow base e size v n xs)
    (ad : Addr) (m c : Nat) (news : List Value) (hx : a.eval x = .slice (some ad) m c) (hl : news.length = m * size) (hnews : ∀ j u, news[j]? = some u → w.cell? (ad.add j) = some u) (h1 : ∀ u ∈ news, u.oneCell' = true)
    (h63 : n + m ≤ maxLen) (hbytes : (n + m) * bytes ≤ 140737488355328) (hbase : base ≤ w.heap.size)
    (h : ∀ v' w', w'.ownsRow base e size v' (n + m) (xs ++ news) → w.grownBy w' v.ownBlock → (v' = .slice none 0 0 ↔ v = .slice none 0 0 ∧ m = 0) → K (a.put o.dst v') w') :
    if Region.wanted o (yielded ops a.tmps) = true then Oper.wp P o a w K Q else E := by
  have hw : Region.wanted o (yielded ops a.tmps) = true := by simp [Region.wanted, hgd]
  rw [if_pos hw]
  exact wp_append_own w s x t ho base e i z size bytes ht hi hz hsize hby hzs hsz v n xs hs hown ad m c news hx hl hnews h1 h63 hbytes hbase h

def ltS (a b : ByteArray) : Bool := Op.bytesLess a.toList b.toList
/-- One more name among ascending ones. -/
def insS : List ByteArray → ByteArray → List ByteArray
  | [], s => [s]
  | x :: xs, s => if ltS x s then x :: insS xs s else if x.toList = s.toList then x :: xs else s :: x :: xs
def sortS (l : List ByteArray) : List ByteArray := l.foldl insS []
theorem insS_at : ∀ (l : List ByteArray) (s : ByteArray) (k : Nat), k ≤ l.length → (∀ j x, j < k → l[j]? = some x → ltS x s = true) → (∀ x, l[k]? = some x → ltS x s = false) →
    insS l s = (match l[k]? with | some x => if x.toList = s.toList then l else l.take k ++ s :: l.drop k | none => l.take k ++ s :: l.drop k)
  | [], s, k, hk, h1, h2 => by
    obtain rfl : k = 0 := by simpa using hk
    rfl
  | x :: xs, s, 0, hk, h1, h2 => by
    have h := h2 x rfl
    simp only [insS, h, Bool.false_eq_true, if_false, List.getElem?_cons_zero]
    split <;> rfl
  | x :: xs, s, k + 1, hk, h1, h2 => by
    have h := h1 0 x (by omega) rfl
    have ih := insS_at xs s k (by simpa using hk) (fun j y hj hy => h1 (j + 1) y (by omega) (by simpa using hy)) (fun y hy => h2 y (by simpa using hy))
    simp only [insS, h, if_true, List.getElem?_cons_succ]
    rw [ih]
    cases hk : xs[k]? with
    | none => rfl
    | some y =>
      simp only
      split <;> rfl
theorem insS_length (l : List ByteArray) (s : ByteArray) : (insS l s).length ≤ l.length + 1 := by
  induction l with
  | nil => simp [insS]
  | cons x xs ih =>
    unfold insS
    split
    · simp only [List.length_cons]; omega
    · split <;> simp
theorem insS_mem (l : List ByteArray) (s : ByteArray) : ∀ y ∈ insS l s, y = s ∨ y ∈ l := by
  induction l with
  | nil => intro y hy; simp [insS] at hy; exact .inl hy
  | cons x xs ih =>
    intro y hy
    unfold insS at hy
    split at hy
    · rcases List.mem_cons.1 hy with rfl | hy
      · exact .inr (by simp)
      · rcases ih y hy with h | h
        · exact .inl h
        · exact .inr (by simp [h])
    · split at hy
      · exact .inr hy
      · rcases List.mem_cons.1 hy with rfl | hy
        · exact .inl rfl
        · exact .inr hy
theorem sortS_snoc (l : List ByteArray) (k : Nat) (s : ByteArray) (h : l[k]? = some s) : sortS (l.take (k + 1)) = insS (sortS (l.take k)) s := by
  unfold sortS; rw [List.take_add_one, h]; simp
theorem sortS_len (l : List ByteArray) : ∀ k, (sortS (l.take k)).length ≤ k := by
  intro k
  induction k with
  | zero => simp [sortS]
  | succ k ih =>
    cases h : l[k]? with
    | none =>
      rw [List.take_of_length_le (by have := List.getElem?_eq_none_iff.1 h; omega)] at *
      omega
    | some s => rw [sortS_snoc l k s h]; have := insS_length (sortS (l.take k)) s; omega
theorem sortS_mem (l : List ByteArray) : ∀ k, ∀ y ∈ sortS (l.take k), y ∈ l := by
  intro k
  induction k with
  | zero => intro y hy; simp [sortS] at hy
  | succ k ih =>
    intro y hy
    cases h : l[k]? with
    | none =>
      refine ih y ?_
      rwa [List.take_of_length_le (by have := List.getElem?_eq_none_iff.1 h; omega), ← List.take_of_length_le (l := l) (i := k) (by have := List.getElem?_eq_none_iff.1 h; omega)] at hy
    | some s =>
      rw [sortS_snoc l k s h] at hy
      rcases insS_mem _ _ y hy with rfl | hy
      · exact List.mem_of_getElem? h
      · exact ih y hy
end Go.Proofs.YtihffcphbcepoaaGreatDoor
/-
  The function and the clause at a place, and a clause's variables: plain mathematics.
-/
namespace Go.Proofs.YtihffcphbcepoaaGreatDoor
open Go.ChangeShapes Go.WideShapes Go.ChangeAt Go.RowKit
set_option linter.unusedVariables false

/-- The function at a place. -/
def fnOf (ms : List Md) (q : Pl) : Option Fn' := (ms.find? (named q.mod)).bind fun m => m.funs.find? (sameR ⟨q.name, q.arity⟩)
/-- The clause at a place. -/
def clauseOf (ms : List Md) (q : Pl) : Option Cl := (fnOf ms q).bind fun f => if inB q.clause 0 (f.clauses.length - 1) then f.clauses[q.clause.toNat]? else none
/-- The variables of a clause, in the order in which the specification meets them. -/
def clauseVars (d : Nat) (c : Cl) : List ByteArray := foldV (allV d) (foldV (allV d) [] c.1) c.2
def varsAt (d : Nat) (ms : List Md) (q : Pl) : List ByteArray := if pgOk d ms then (match clauseOf ms q with
  | none => []
  | some c => sortS (clauseVars d c)) else []

theorem wtS_part {α : Type} (f : α → Nat) (es : List α) (k : Nat) (x : α) (h : es[k]? = some x) : 1 + f x ≤ wtS f es := by
  have hm := List.mem_of_getElem? h
  obtain ⟨a, b, rfl⟩ := List.append_of_mem hm
  simp [wtS]; omega
theorem wtS_find {α : Type} (f : α → Nat) (es : List α) (p : α → Bool) (x : α) (h : es.find? p = some x) : 1 + f x ≤ wtS f es := by
  obtain ⟨k, hk⟩ := List.mem_iff_getElem?.1 (List.mem_of_find?_eq_some h)
  exact wtS_part f es k x hk
theorem fnOf_wt {d : Nat} {ms : List Md} {q : Pl} {f : Fn'} (h : fnOf ms q = some f) : wtFn d f ≤ wtS (wtMd d) ms := by
  unfold fnOf at h
  obtain ⟨m, hm, hf⟩ := Option.bind_eq_some_iff.1 h
  have h1 := wtS_find (wtMd d) ms _ m hm
  have h2 := wtS_find (wtFn d) m.funs _ f hf
  have h3 : wtMd d m = m.name.size + wtS wtRf m.exports + wtS (wtFn d) m.funs := rfl
  omega
theorem clauseOf_wt {d : Nat} {ms : List Md} {q : Pl} {c : Cl} (h : clauseOf ms q = some c) : wtCl (wtEx d) c ≤ wtS (wtMd d) ms := by
  unfold clauseOf at h
  obtain ⟨f, hf, hc⟩ := Option.bind_eq_some_iff.1 h
  split at hc
  · have h1 := fnOf_wt (d := d) hf
    have h2 := wtS_part (wtCl (wtEx d)) f.clauses _ c hc
    have h3 : wtFn d f = f.name.size + wtS (wtCl (wtEx d)) f.clauses := rfl
    omega
  · cases hc

theorem clauseVars_len (d : Nat) (c : Cl) (h : wtCl (wtEx d) c ≤ 1048576) (ht : ∀ y ∈ c.1 ++ c.2, (allV d y).length ≤ 1 + wtEx d y) : (clauseVars d c).length ≤ 1048577 := by
  have h1 := foldV_len (allV d) (wtEx d) c.1 [] (fun y hy => ht y (by simp [hy]))
  have h2 := foldV_len (allV d) (wtEx d) c.2 (foldV (allV d) [] c.1) (fun y hy => ht y (by simp [hy]))
  have h3 : wtCl (wtEx d) c = wtS (wtEx d) c.1 + wtS (wtEx d) c.2 := rfl
  simp only [List.length_nil] at h1
  unfold clauseVars
  omega
end Go.Proofs.YtihffcphbcepoaaGreatDoor
/-
  The program's funAt and clauseAt, by contract: pointers into the program that is handed in.
-/
namespace Go.Proofs.YtihffcphbcepoaaGreatDoor
open Go.ChangeShapes Go.WideShapes Go.ChangeAt Go.RowKit
set_option linter.unusedVariables false
set_option maxRecDepth 100000

theorem refAt_any (q : Pl) (w : World) : Calls Tryz.prog 124 #[.agg #[.string q.mod, .string q.name, .int .i64 q.arity, .int .i64 q.clause]] w fun e w' => e = .returned (.agg #[.string q.name, .int .i64 q.arity]) ∧ Below w.heap.size w w' := by
  obtain ⟨m, s, n, c⟩ := q
  have BL : Hid (∀ (cs cs' : Array Value) (t t' : TypeId), Below w.heap.size w ((w.alloc (.cells cs t)).alloc (.cells cs' t'))) := fun cs cs' t t' => ((Below.refl _ _).alloc (Nat.le_refl _) _).alloc (by simp) _
  have RB : Hid (∀ (cs : Array Value) (t : TypeId), Blk ((w.alloc (.cells cs t)).alloc (.cells #[.string s, .int .i64 n] 73)) (w.heap.size + 1) #[.string s, .int .i64 n] 73) := fun cs t => by
    have := Blk.new (w := w.alloc (.cells cs t)) (cs := #[.string s, .int .i64 n]) (t := 73)
    rwa [alloc_hs] at this
  go_enter Tryz.func124, Tryz.ntmps124
  go_wp2_with fail
  have q0 := (RB.out #[.string m, .string s, .int .i64 n, .int .i64 c] 41).cell 0 _ rfl
  have q1 := (RB.out #[.string m, .string s, .int .i64 n, .int .i64 c] 41).cell 1 _ rfl
  exact bodyPost_ret (v := .agg #[.string s, .int .i64 n]) (by simp [results, Tryz.results124, go_sem, q0, q1]) rfl ⟨rfl, BL.out _ _ _ _⟩

/-- A module that is named so and has such a function. -/
def hasAt (q : Pl) (m : Md) : Bool := named q.mod m && m.funs.any (sameR ⟨q.name, q.arity⟩)
/-- A pointer to a function of the program v. -/
structure FunP (d : Nat) (ms : List Md) (q : Pl) (v : Value) (w : World) (gf o : Nat) (k j : Nat) (m : Md) (f : Fn') : Prop where
  at_k : ms[k]? = some m
  nm : named q.mod m = true
  at_j : m.funs[j]? = some f
  first : m.funs.find? (sameR ⟨q.name, q.arity⟩) = some f
  lt : gf < w.heap.size
  lies : ∃ g off cap of cf, v = .slice (some ⟨g, off, none⟩) ms.length cap ∧ w.cell? ⟨g, off + k * 3 + 2, none⟩ = some (.slice (some ⟨gf, of, none⟩) m.funs.length cf) ∧ o = of + j * 3
  is : ∃ cs, cs.length = 3 ∧ (∀ i, i < 3 → w.cell? ⟨gf, o + i, none⟩ = cs[i]?) ∧ HFn w All d cs f
def FunE (d : Nat) (ms : List Md) (q : Pl) (v : Value) (w : World) (e : Ending) : Prop :=
  (e = .returned (.pointer none) ∧ ms.any (hasAt q) = false) ∨ ∃ gf o k j m f, e = .returned (.pointer (some ⟨gf, o, none⟩)) ∧ FunP d ms q v w gf o k j m f

theorem FunP.next {d : Nat} {ms : List Md} {q : Pl} {v : Value} {w w' : World} {gf o k j : Nat} {m : Md} {f : Fn'} (h : FunP d ms q v w gf o k j m f) (hb : Below w.heap.size w w') : FunP d ms q v w' gf o k j m f := by
  obtain ⟨g, off, cap, of, cf, h1, h2, h3⟩ := h.lies
  obtain ⟨cs, c1, c2, c3⟩ := h.is
  refine ⟨h.at_k, h.nm, h.at_j, h.first, Nat.lt_of_lt_of_le h.lt hb.size, ⟨g, off, cap, of, cf, h1, cell_next hb h2, h3⟩, ⟨cs, c1, fun i hi => (hb.cell (p := ⟨gf, o + i, none⟩) h.lt).trans (c2 i hi), c3.mono (SameOn.of_below hb) (fun _ h => h)⟩⟩

theorem find_first {α : Type} {f : α → Bool} {xs : List α} {k : Nat} {x : α} (h : (xs.take k).any f = false) (hx : xs[k]? = some x) (hf : f x = true) : xs.find? f = some x := by
  obtain ⟨hk, he⟩ := List.getElem?_eq_some_iff.1 hx
  rw [List.find?_eq_some_iff_getElem]
  refine ⟨hf, k, hk, he, fun j hj => ?_⟩
  have := List.any_eq_false.1 h (xs[j]) (List.mem_of_getElem? (i := j) (by rw [List.getElem?_take, if_pos hj]; exact List.getElem?_eq_getElem _))
  simpa using this

set_option maxHeartbeats 16000000 in
theorem funAt_any (d : Nat) (w : World) (v : Value) (ms : List Md) (q : Pl) (h : Rows w All 3 (HMd w All d) v ms) :
    Calls Tryz.prog 80 #[v, .agg #[.string q.mod, .string q.name, .int .i64 q.arity, .int .i64 q.clause]] w fun e w' => FunE d ms q v w' e ∧ Below w.heap.size w w' := by
  obtain ⟨qm, qn, qa, qc⟩ := q
  simp only
  obtain ⟨p, cap, rfl, hcl, hcm, hx⟩ := h
  have hnb : ms.length ≤ 9223372036854775807 := by unfold maxLen at hcm; omega
  generalize hn : ms.length = n at *
  have HN : Hid (ms.length = n) := hn
  have HX : Hid (ms ≠ [] → ∃ g off, p = some ⟨g, off, none⟩ ∧ All g ∧ g < w.heap.size ∧ ∀ i x, ms[i]? = some x → ∃ cs, cs.length = 3 ∧ (∀ j, j < 3 → w.cell? ⟨g, off + i * 3 + j, none⟩ = cs[j]?) ∧ HMd w All d cs x) := hx
  obtain ⟨W1, hW1⟩ : ∃ W1, W1 = w.alloc (.cells #[.string qm, .string qn, .int .i64 qa, .int .i64 qc] 41) := ⟨_, rfl⟩
  have bA : Hid (Blk W1 w.heap.size #[.string qm, .string qn, .int .i64 qa, .int .i64 qc] 41) := by show Blk _ _ _ _; rw [hW1]; exact Blk.new
  have B1 : Hid (Below w.heap.size w W1) := by show Below _ _ _; rw [hW1]; exact (Below.refl _ _).alloc (Nat.le_refl _) _
  have HW1 : Hid (W1 = w.alloc (.cells #[.string qm, .string qn, .int .i64 qa, .int .i64 qc] 41)) := hW1
  clear hx hn hW1
  go_enter Tryz.func80, Tryz.ntmps80
  go_wp2_with fail
  rw [← HW1.out]
  go_loopw [11] (fun iv wr => ∃ k : Nat, k ≤ n ∧ iv = .int .i64 k ∧ Hid ((ms.take k).any (hasAt ⟨qm, qn, qa, qc⟩) = false) ∧ Hid (SameOn All W1 wr) ∧ Below w.heap.size w wr) (fun iv _ => n - (intOf iv).toNat)
  case atStart => exact ⟨0, Nat.zero_le _, rfl, by show _ = _; simp, ⟨Nat.le_refl _, fun _ _ _ => rfl⟩, B1.out⟩
  case round =>
    obtain ⟨k, hk, rfl, hall, hso, hb⟩ := hrel
    have HB : Hid (Below w.heap.size w wr) := hb
    by_cases hlt : k < n
    · obtain ⟨x, hxk⟩ : ∃ x, ms[k]? = some x := ⟨ms[k]'(by rw [HN.out]; exact hlt), List.getElem?_eq_getElem _⟩
      obtain ⟨g, off, rfl, -, hgl, hat⟩ := HX.out (by intro h; rw [h] at hxk; simp at hxk)
      obtain ⟨cs, hcsl, hcs, ev, fv, rfl, -, f0, f1⟩ := hat k x hxk
      obtain ⟨pe, ce, rfl, -⟩ := f0
      obtain ⟨pf, cf, rfl, hclf, hcmf, hxf⟩ := f1
      have a0 := hcs 0 (by omega)
      have a1 := hcs 1 (by omega)
      have a2 := hcs 2 (by omega)
      rw [← hb.cell (p := ⟨g, _, none⟩) hgl] at a0 a1 a2
      simp at a0 a1 a2
      have HXF : Hid (x.funs ≠ [] → ∃ g off, pf = some ⟨g, off, none⟩ ∧ All g ∧ g < w.heap.size ∧ ∀ i y, x.funs[i]? = some y → ∃ cs, cs.length = 3 ∧ (∀ j, j < 3 → w.cell? ⟨g, off + i * 3 + j, none⟩ = cs[j]?) ∧ HFn w All d cs y) := hxf
      have HA2 : Hid (w.cell? ⟨g, off + k * 3 + 2, none⟩ = some (.slice pf x.funs.length cf)) := by have := hcs 2 (by omega); simp at this; exact this
      have hki : (k : Int) < (n : Int) := by omega
      have hk0 : (0 : Int) ≤ (k : Int) := by omega
      have hnf : x.funs.length ≤ 9223372036854775807 := by unfold maxLen at hcmf; omega
      obtain ⟨W5, hW5⟩ : ∃ W5, W5 = wr.alloc (.cells #[.string x.name, .slice pe x.exports.length ce, .slice pf x.funs.length cf] 54) := ⟨_, rfl⟩
      have bM : Hid (Blk W5 wr.heap.size #[.string x.name, .slice pe x.exports.length ce, .slice pf x.funs.length cf] 54) := by show Blk _ _ _ _; rw [hW5]; exact Blk.new
      have K5 : Below wr.heap.size wr W5 := by rw [hW5]; exact (Below.refl _ _).alloc (Nat.le_refl _) _
      have B5 : Hid (Below w.heap.size w W5) := hb.trans (K5.mono hb.size)
      have S5 : Hid (SameOn All W1 W5) := hso.out.trans (SameOn.of_below K5)
      have HW5 : Hid (W5 = wr.alloc (.cells #[.string x.name, .slice pe x.exports.length ce, .slice pf x.funs.length cf] 54)) := hW5
      have z2 := bM.out.cell 2 _ rfl
      generalize hnfl : x.funs.length = nf at *
      have HNF : Hid (x.funs.length = nf) := hnfl
      generalize x.exports.length = ne at *
      have HXK : Hid (ms[k]? = some x) := hxk
      clear hb hcs hat hcsl hW5 K5 hnfl hxf hxk
      go_wp2_with fail
      rw [← HW5.out]
      generalize hmb : wr.heap.size = mb at bM z2 ⊢
      clear hmb
      go_loopw [18] (fun iv wr' => ∃ j : Nat, j ≤ nf ∧ iv = .int .i64 j ∧ Hid (named qm x = true → (x.funs.take j).any (sameR ⟨qn, qa⟩) = false) ∧ Hid (SameOn All W5 wr') ∧ Below w.heap.size w wr') (fun iv _ => nf - (intOf iv).toNat)
      case atStart => exact ⟨0, Nat.zero_le _, rfl, (fun _ => by simp), ⟨Nat.le_refl _, fun _ _ _ => rfl⟩, B5.out⟩
      case round =>
        obtain ⟨j, hj, rfl, halj, hsj, hbj⟩ := hrel
        by_cases hjt : j < nf
        · obtain ⟨y, hyj⟩ : ∃ y, x.funs[j]? = some y := ⟨x.funs[j]'(by rw [HNF.out]; exact hjt), List.getElem?_eq_getElem _⟩
          obtain ⟨gf, of, rfl, -, hgf, hatf⟩ := HXF.out (by intro h; rw [h] at hyj; simp at hyj)
          obtain ⟨fcs, hfl, hfcs, r1⟩ := hatf j y hyj
          have HFC : Hid (fcs.length = 3 ∧ (∀ i, i < 3 → w.cell? ⟨gf, of + j * 3 + i, none⟩ = fcs[i]?) ∧ HFn w All d fcs y) := ⟨hfl, hfcs, r1⟩
          obtain ⟨p1, n1, q1, rfl⟩ := fnShape r1
          have c0 := hfcs 0 (by omega)
          have c1 := hfcs 1 (by omega)
          have c2 := hfcs 2 (by omega)
          rw [← hbj.cell (p := ⟨gf, _, none⟩) hgf] at c0 c1 c2
          simp at c0 c1 c2
          have hji : (j : Int) < (nf : Int) := by omega
          have hj0 : (0 : Int) ≤ (j : Int) := by omega
          obtain ⟨W7, hW7⟩ : ∃ W7, W7 = wr.alloc (.cells #[.string y.name, .int .i64 y.arity, .slice p1 n1 q1] 57) := ⟨_, rfl⟩
          have bF : Hid (Blk W7 wr.heap.size #[.string y.name, .int .i64 y.arity, .slice p1 n1 q1] 57) := by show Blk _ _ _ _; rw [hW7]; exact Blk.new
          have K7 : Below wr.heap.size wr W7 := by rw [hW7]; exact (Below.refl _ _).alloc (Nat.le_refl _) _
          have B7 : Hid (Below w.heap.size w W7) := hbj.trans (K7.mono hbj.size)
          have S7 : Hid (SameOn All W5 W7) := hsj.out.trans (SameOn.of_below K7)
          have HW7 : Hid (W7 = wr.alloc (.cells #[.string y.name, .int .i64 y.arity, .slice p1 n1 q1] 57)) := hW7
          have bA7 := bA.out.same_on (S5.out.trans S7.out)
          have bM7 := bM.out.same_on S7.out
          have y0 := bA7.cell 0 _ rfl
          have y1 := bA7.cell 1 _ rfl
          have y2 := bA7.cell 2 _ rfl
          have y3 := bA7.cell 3 _ rfl
          have m0 := bM7.cell 0 _ rfl
          have z0 := bF.out.cell 0 _ rfl
          have z1 := bF.out.cell 1 _ rfl
          have z2 := bF.out.cell 2 _ rfl
          have l1 := bA7.lt
          have l2 := bM7.lt
          have l3 := bF.out.lt
          have qy0 : ∀ m : Wd (fun w' => SameOn All W7 w' ∧ Below w.heap.size w w'), m.val.cell? ⟨w.heap.size, 0, none⟩ = some (.string qm) := fun m => (World.cell?_of_block (m.ok.1.2 _ trivial l1)).trans y0
          have qy1 : ∀ m : Wd (fun w' => SameOn All W7 w' ∧ Below w.heap.size w w'), m.val.cell? ⟨w.heap.size, 1, none⟩ = some (.string qn) := fun m => (World.cell?_of_block (m.ok.1.2 _ trivial l1)).trans y1
          have qy2 : ∀ m : Wd (fun w' => SameOn All W7 w' ∧ Below w.heap.size w w'), m.val.cell? ⟨w.heap.size, 2, none⟩ = some (.int .i64 qa) := fun m => (World.cell?_of_block (m.ok.1.2 _ trivial l1)).trans y2
          have qy3 : ∀ m : Wd (fun w' => SameOn All W7 w' ∧ Below w.heap.size w w'), m.val.cell? ⟨w.heap.size, 3, none⟩ = some (.int .i64 qc) := fun m => (World.cell?_of_block (m.ok.1.2 _ trivial l1)).trans y3
          have qm0 : ∀ m : Wd (fun w' => SameOn All W7 w' ∧ Below w.heap.size w w'), m.val.cell? ⟨mb, 0, none⟩ = some (.string x.name) := fun m => (World.cell?_of_block (m.ok.1.2 _ trivial l2)).trans m0
          have qz0 : ∀ m : Wd (fun w' => SameOn All W7 w' ∧ Below w.heap.size w w'), m.val.cell? ⟨wr.heap.size, 0, none⟩ = some (.string y.name) := fun m => (World.cell?_of_block (m.ok.1.2 _ trivial l3)).trans z0
          have qz1 : ∀ m : Wd (fun w' => SameOn All W7 w' ∧ Below w.heap.size w w'), m.val.cell? ⟨wr.heap.size, 1, none⟩ = some (.int .i64 y.arity) := fun m => (World.cell?_of_block (m.ok.1.2 _ trivial l3)).trans z1
          have qz2 : ∀ m : Wd (fun w' => SameOn All W7 w' ∧ Below w.heap.size w w'), m.val.cell? ⟨wr.heap.size, 2, none⟩ = some (.slice p1 n1 q1) := fun m => (World.cell?_of_block (m.ok.1.2 _ trivial l3)).trans z2
          clear hfcs hfl r1 hatf hW7 K7 y0 y1 y2 y3 m0 z0 z1 z2 l1 l2 l3 bA7 bM7
          cases hnm : (x.name.toList == qm.toList) with
          | false =>
            have HJ : Hid (named qm x = true → (x.funs.take (j + 1)).any (sameR ⟨qn, qa⟩) = false) := fun h => by rw [named, hnm] at h; cases h
            clear hbj
            go_wp2_with fail
            rw [← HW7.out]
            have hCne : Nonempty (Wd (fun w' => SameOn All W7 w' ∧ Below w.heap.size w w')) := ⟨⟨W7.drew, ⟨⟨Nat.le_refl _, fun _ _ _ => rfl⟩, B7.out.drew⟩⟩⟩
            refine wp_region_class (fun w' => SameOn All W7 w' ∧ Below w.heap.size w w') (by kernel_rfl) (by kernel_rfl) ⟨⟨Nat.le_refl _, fun _ _ _ => rfl⟩, B7.out.drew⟩ ?_
            repeat (go_big_quiet_step (fail))
            refine wpQuiet_nil ?_
            rintro _ ⟨mq, rfl⟩
            have HB8 : Hid (Below w.heap.size w mq.val) := mq.ok.2
            have HS8 : Hid (SameOn All W5 mq.val) := S7.out.trans mq.ok.1
            generalize mq.val = w8 at HB8 HS8 ⊢
            clear qy0 qy1 qy2 qy3 qm0 qz0 qz1 qz2
            go_wp2_with fail
            exact ⟨⟨j + 1, by omega, by go_num, HJ.out, HS8.out, HB8.out⟩, by simp [intOf]; omega⟩
          | true =>
            have HNM : Hid (named qm x = true) := hnm
            have e1 := refG
            have e2 := refE
            clear hbj
            go_wp2_with fail
            rw [← HW7.out]
            have hCne : Nonempty (Wd (fun w' => SameOn All W7 w' ∧ Below w.heap.size w w')) := ⟨⟨W7.drew, ⟨⟨Nat.le_refl _, fun _ _ _ => rfl⟩, B7.out.drew⟩⟩⟩
            refine wp_region_class (fun w' => SameOn All W7 w' ∧ Below w.heap.size w w') (by kernel_rfl) (by kernel_rfl) ⟨⟨Nat.le_refl _, fun _ _ _ => rfl⟩, B7.out.drew⟩ ?_
            repeat (go_big_quiet_step (first | (rename_i mm; go_at_call 58; refine (refOf_any _ _ _ _ _ _).mono ?_; rintro e w1 ⟨rfl, hb1⟩; exact ⟨rfl, ⟨⟨w1, ⟨(SameOn.trans mm.ok.1 (SameOn.of_below hb1)), mm.ok.2.trans (hb1.mono mm.ok.2.size)⟩⟩, rfl⟩⟩) | (rename_i mm; go_at_call 124; refine (refAt_any ⟨qm, qn, qa, qc⟩ _).mono ?_; rintro e w1 ⟨rfl, hb1⟩; exact ⟨rfl, ⟨⟨w1, ⟨(SameOn.trans mm.ok.1 (SameOn.of_below hb1)), mm.ok.2.trans (hb1.mono mm.ok.2.size)⟩⟩, rfl⟩⟩)))
            refine wpQuiet_nil ?_
            rintro _ ⟨mq, rfl⟩
            have HB8 : Hid (Below w.heap.size w mq.val) := mq.ok.2
            have HS8 : Hid (SameOn All W5 mq.val) := S7.out.trans mq.ok.1
            generalize mq.val = w8 at HB8 HS8 ⊢
            clear qy0 qy1 qy2 qy3 qm0 qz0 qz1 qz2 e1 e2
            generalize hcv : (y.name.toList == qn.toList && y.arity == qa) = cv
            have HC2 : Hid (cv = false → (x.funs.take (j + 1)).any (sameR ⟨qn, qa⟩) = false) := fun h => anyT_succ _ x.funs j _ hyj (halj.out HNM.out) (show (y.name.toList == qn.toList && y.arity == qa) = false from hcv.trans h)
            have HC3 : Hid (cv = true → x.funs.find? (sameR ⟨qn, qa⟩) = some y) := fun h => find_first (halj.out HNM.out) hyj (show (y.name.toList == qn.toList && y.arity == qa) = true from hcv.trans h)
            clear hcv
            cases cv with
            | false =>
              have HT' : Hid ((x.funs.take (j + 1)).any (sameR ⟨qn, qa⟩) = false) := HC2.out rfl
              clear HC2 HC3
              go_wp2_with fail
              exact ⟨⟨j + 1, by omega, by go_num, fun _ => HT'.out, HS8.out, HB8.out⟩, by simp [intOf]; omega⟩
            | true =>
              have HF : Hid (x.funs.find? (sameR ⟨qn, qa⟩) = some y) := HC3.out rfl
              have m2 := (bM.out.same_on HS8.out).cell 2 _ rfl
              have HYJ : Hid (x.funs[j]? = some y) := hyj
              clear HC2 HC3 hyj
              go_wp2_with fail
              go_ret
              refine ⟨.inr ⟨gf, of + j * 3, k, j, x, y, rfl, HXK.out, HNM.out, HYJ.out, HF.out, Nat.lt_of_lt_of_le hgf HB8.out.size, ⟨g, off, cap, of, cf, by rw [HN.out], by rw [HNF.out]; exact (HB8.out.cell (p := ⟨g, _, none⟩) hgl).trans HA2.out, rfl⟩, ⟨_, HFC.out.1, fun i hi => (HB8.out.cell (p := ⟨gf, _, none⟩) hgf).trans (HFC.out.2.1 i hi), HFC.out.2.2.mono (SameOn.of_below HB8.out) (fun _ h => h)⟩⟩, HB8.out⟩
        · have HT' : Hid ((ms.take (k + 1)).any (hasAt ⟨qm, qn, qa, qc⟩) = false) := anyT_succ _ ms k _ HXK.out hall.out (by
            have := halj.out
            rw [List.take_of_length_le (by rw [HNF.out]; omega)] at this
            show (named qm x && x.funs.any (sameR ⟨qn, qa⟩)) = false
            cases hn : named qm x with
            | false => rfl
            | true => rw [this hn]; rfl)
          have HS9 : Hid (SameOn All W1 wr) := S5.out.trans hsj.out
          have HB9 : Hid (Below w.heap.size w wr) := hbj
          clear hbj
          go_wp2_with fail
          exact ⟨⟨k + 1, by omega, by go_num, HT'.out, HS9.out, HB9.out⟩, by simp [intOf]; omega⟩
    · have HD : Hid (ms.any (hasAt ⟨qm, qn, qa, qc⟩) = false) := by
        have := hall.out
        rwa [List.take_of_length_le (by rw [HN.out]; omega)] at this
      clear hb
      go_wp2_with fail
      go_ret
      exact ⟨.inl ⟨rfl, HD.out⟩, HB.out⟩
end Go.Proofs.YtihffcphbcepoaaGreatDoor
/-
  The specification's l04All: all variables of an expression, each once.
-/
namespace Go.Proofs.YtihffcphbcepoaaGreatDoor
open Go.ChangeShapes Go.WideShapes Go.ChangeAt Go.RowKit
set_option linter.unusedVariables false
set_option maxRecDepth 100000

theorem Got.once {d : Nat} {x : Ex} {l m : List ByteArray} (h : Got d x l) (hs : ∀ s ∈ m, keyS s ∈ varL d x ∧ okS s) : Got d x (onceS l m) :=
  ⟨onceS_nd _ _ h.nd, fun s hs' => by rcases onceS_mem _ _ s hs' with h1 | h1; exact h.sub s h1; exact (hs s h1).1, fun s hs' => by rcases onceS_mem _ _ s hs' with h1 | h1; exact h.ok s h1; exact (hs s h1).2⟩
/-- One cell of an expression's row, and what lies there. -/
def ExAt (w : World) (d : Nat) (p : Option Addr) (ks : List Ex) : Prop := ks ≠ [] → ∃ g off, p = some ⟨g, off, none⟩ ∧ All g ∧ g < w.heap.size ∧ ∀ i x, ks[i]? = some x → ∃ cs, cs.length = 6 ∧ (∀ j, j < 6 → w.cell? ⟨g, off + i * 6 + j, none⟩ = cs[j]?) ∧ HEx w All d cs x
theorem foldC_snoc (f : Ex → List ByteArray) (l : List ByteArray) (cs : List Cl) (k : Nat) (c : Cl) (h : cs[k]? = some c) : (cs.take (k + 1)).foldl (allC f) l = foldV f (foldV f ((cs.take k).foldl (allC f) l) c.1) c.2 := by
  rw [List.take_add_one, h]; simp [allC]

set_option maxHeartbeats 16000000 in
theorem all_of {d : Nat} (hE : NmC 77 d (allV d)) : NmC 77 (d + 1) (allV (d + 1)) := by
  intro w cs x h hwt
  have hok := h.txts
  have HEX : Hid (HEx w All (d + 1) cs x) := h
  obtain ⟨kv, cv, rfl, -, -, hts, hms, f0, f1⟩ := h
  obtain ⟨kx, nx, tx, mx, ks, cl⟩ := x
  simp only [Ex.kind, Ex.n, Ex.text, Ex.mod, Ex.kids, Ex.clauses] at *
  have hw : wtEx (d + 1) (.mk kx nx tx mx ks cl) = tx.size + mx.size + wtS (wtEx d) ks + wtS (wtCl (wtEx d)) cl := rfl
  have wks : wtS (wtEx d) ks ≤ 1048576 := by omega
  have wcl : wtS (wtCl (wtEx d)) cl ≤ 1048576 := by omega
  obtain ⟨p, cap, rfl, hcl, hcm, hx⟩ := f0
  obtain ⟨pc, capc, rfl, hcl', hcm', hxc⟩ := f1
  have hnb : ks.length ≤ 9223372036854775807 := by unfold maxLen at hcm; omega
  have hnc : cl.length ≤ 9223372036854775807 := by unfold maxLen at hcm'; omega
  have HX : Hid (ExAt w d p ks) := hx
  have HXC : Hid (cl ≠ [] → ∃ g off, pc = some ⟨g, off, none⟩ ∧ All g ∧ g < w.heap.size ∧ ∀ i x, cl[i]? = some x → ∃ cs, cs.length = 2 ∧ (∀ j, j < 2 → w.cell? ⟨g, off + i * 2 + j, none⟩ = cs[j]?) ∧ HCl w All (HEx w All d) cs x) := hxc
  have HW : Hid (wtEx (d + 1) (.mk kx nx tx mx ks cl) ≤ 1048576) := hwt
  have HOK : Hid (exS (d + 1) (.mk kx nx tx mx ks cl)) := hok
  -- how the kids and the clauses' expressions are bounded
  have BK : Hid (∀ (j : Nat) y, ks[j]? = some y → wtEx d y ≤ 1048576 ∧ (∀ s ∈ allV d y, keyS s ∈ varL (d + 1) (.mk kx nx tx mx ks cl) ∧ okS s) ∧ exS d y) := fun j y hj => by
    have h1 := sum_take_succ (wtEx d) ks j y hj
    have h2 := sum_take_le (wtEx d) ks (j + 1)
    have hm := List.mem_of_getElem? hj
    exact ⟨by unfold wtS at wks; omega, fun s hs => ⟨varL_kid hm (allV_sub d y s hs), allV_ok d y (hok.2.1 y hm) s hs⟩, hok.2.1 y hm⟩
  have BC : Hid (∀ (i : Nat) c, cl[i]? = some c → ∀ y, (y ∈ c.1 ∨ y ∈ c.2) → wtEx d y ≤ 1048576 ∧ (∀ s ∈ allV d y, keyS s ∈ varL (d + 1) (.mk kx nx tx mx ks cl) ∧ okS s) ∧ exS d y) := fun i c hi y hy => by
    have h1 := sum_take_succ (wtCl (wtEx d)) cl i c hi
    have h2 := sum_take_le (wtCl (wtEx d)) cl (i + 1)
    have hm := List.mem_of_getElem? hi
    have hc : wtCl (wtEx d) c = wtS (wtEx d) c.1 + wtS (wtEx d) c.2 := rfl
    have hy' : wtEx d y ≤ wtCl (wtEx d) c := by
      rcases hy with hy | hy
      · obtain ⟨q, hq⟩ := List.mem_iff_getElem?.1 hy
        have g1 := sum_take_succ (wtEx d) c.1 q y hq
        have g2 := sum_take_le (wtEx d) c.1 (q + 1)
        unfold wtS at hc; omega
      · obtain ⟨q, hq⟩ := List.mem_iff_getElem?.1 hy
        have g1 := sum_take_succ (wtEx d) c.2 q y hq
        have g2 := sum_take_le (wtEx d) c.2 (q + 1)
        unfold wtS at hc; omega
    have he : exS d y := by
      rcases hy with hy | hy
      · exact (hok.2.2 c hm).1 y hy
      · exact (hok.2.2 c hm).2 y hy
    exact ⟨by unfold wtS at wcl; omega, fun s hs => ⟨varL_cl hm hy (allV_sub d y s hs), allV_ok d y he s hs⟩, he⟩
  have G0 : Hid (Got (d + 1) (.mk kx nx tx mx ks cl) (patV (d + 1) (.mk kx nx tx mx ks cl))) := ⟨patV_nd _ _, patV_sub _ _, patV_ok _ _ hok⟩
  have hall : allV (d + 1) (.mk kx nx tx mx ks cl) = cl.foldl (allC (allV d)) (foldV (allV d) (patV (d + 1) (.mk kx nx tx mx ks cl)) ks) := rfl
  rw [hall]
  generalize hP0 : patV (d + 1) (.mk kx nx tx mx ks cl) = P0 at *
  have HP0 : Hid (patV (d + 1) (.mk kx nx tx mx ks cl) = P0) := hP0
  clear hx hxc hwt hok hall hP0 hw
  generalize hn : ks.length = n at *
  have HN : Hid (ks.length = n) := hn
  generalize hm : cl.length = nc at *
  have HNC : Hid (cl.length = nc) := hm
  clear hn hm
  have bA : Hid (Blk (w.alloc (.cells #[.int .i64 kx, .int .i64 nx, .string tx, .string mx, .slice p n cap, .slice pc nc capc] 88)) w.heap.size #[.int .i64 kx, .int .i64 nx, .string tx, .string mx, .slice p n cap, .slice pc nc capc] 88) := Blk.new
  have BA : Hid (Below w.heap.size w (w.alloc (.cells #[.int .i64 kx, .int .i64 nx, .string tx, .string mx, .slice p n cap, .slice pc nc capc] 88))) := (Below.refl _ _).alloc (Nat.le_refl _) _
  have EA : Hid (HEx (w.alloc (.cells #[.int .i64 kx, .int .i64 nx, .string tx, .string mx, .slice p n cap, .slice pc nc capc] 88)) All (d + 1) [.int .i64 kx, .int .i64 nx, .string tx, .string mx, .slice p n cap, .slice pc nc capc] (.mk kx nx tx mx ks cl)) := HEX.out.mono (SameOn.of_below BA.out) (fun _ h => h)
  go_enter Tryz.func77, Tryz.ntmps77
  go_wp2_with fail
  have q0 := patVars_all (d + 1) _ _ _ EA.out HW.out
  rw [HP0.out] at q0
  refine q0.mono ?_
  rintro e w1 ⟨u1, rfl, ho1, hb1⟩
  have O1 : Hid (OwnS w1 w.heap.size u1 P0) := ho1.base BA.out.size
  have B1 : Hid (Below w.heap.size w w1) := BA.out.trans (hb1.mono BA.out.size)
  have b1 : Hid (Blk w1 w.heap.size #[.int .i64 kx, .int .i64 nx, .string tx, .string mx, .slice p n cap, .slice pc nc capc] 88) := bA.out.next hb1
  clear q0 ho1 hb1 EA bA BA HEX
  go_wp2_with fail
  go_loopw [3, 4] (fun ov iv wr => ∃ k : Nat, k ≤ n ∧ iv = .int .i64 k ∧ Hid (OwnS wr w.heap.size ov (foldV (allV d) P0 (ks.take k))) ∧ Hid (Got (d + 1) (.mk kx nx tx mx ks cl) (foldV (allV d) P0 (ks.take k))) ∧ Hid (Blk wr w.heap.size #[.int .i64 kx, .int .i64 nx, .string tx, .string mx, .slice p n cap, .slice pc nc capc] 88) ∧ Hid (Below w.heap.size w wr)) (fun _ iv _ => n - (intOf iv).toNat)
  case atStart => exact ⟨0, Nat.zero_le _, rfl, O1.out, G0.out, b1.out, B1.out⟩
  case round =>
    obtain ⟨k, hk, rfl, ho, hg, hbk, HB⟩ := hrel
    clear O1 b1 B1
    have xa4 := hbk.out.cell 4 _ rfl
    have xa5 := hbk.out.cell 5 _ rfl
    by_cases hlt : k < n
    · obtain ⟨x, hxk⟩ : ∃ x, ks[k]? = some x := ⟨ks[k]'(by rw [HN.out]; exact hlt), List.getElem?_eq_getElem _⟩
      obtain ⟨g, off, rfl, -, hgl, hat⟩ := HX.out (by intro h; rw [h] at hxk; simp at hxk)
      obtain ⟨cs, hcsl, hcs, r1⟩ := hat k x hxk
      have E1 : ∀ w', Below w.heap.size w w' → HEx w' All d cs x := fun w' hw => r1.mono (SameOn.of_below hw) (fun _ h => h)
      obtain ⟨c0, c1, c2, c3, c4, c5, rfl⟩ := len6 hcsl
      have a0 := hcs 0 (by omega)
      have a1 := hcs 1 (by omega)
      have a2 := hcs 2 (by omega)
      have a3 := hcs 3 (by omega)
      have a4 := hcs 4 (by omega)
      have a5 := hcs 5 (by omega)
      rw [← HB.out.cell (p := ⟨g, _, none⟩) hgl] at a0 a1 a2 a3 a4 a5
      simp at a0 a1 a2 a3 a4 a5
      have hki : (k : Int) < (n : Int) := by omega
      have hk0 : (0 : Int) ≤ (k : Int) := by omega
      obtain ⟨wx, sx, ex⟩ := BK.out k x hxk
      have GX : Hid (Got (d + 1) (.mk kx nx tx mx ks cl) (onceS (foldV (allV d) P0 (ks.take k)) (allV d x))) := hg.out.once sx
      have HJ : Hid (foldV (allV d) P0 (ks.take (k + 1)) = onceS (foldV (allV d) P0 (ks.take k)) (allV d x)) := foldV_snoc _ _ ks k x hxk
      have lq := hg.out.len HW.out
      have lx := (allV_got ex).len wx
      have OX : Hid (∀ s ∈ allV d x, okS s) := fun s hs => (sx s hs).2
      have OJ : Hid (∀ s ∈ foldV (allV d) P0 (ks.take k), okS s) := hg.out.ok
      generalize hJ0 : foldV (allV d) P0 (ks.take k) = J at *
      clear hcs hat hcsl r1 hJ0 hg sx
      go_wp2_with fail
      refine (hE _ _ x (E1 _ HB.out) wx).mono ?_
      rintro e w4 ⟨u4, rfl, ho4, hb4⟩
      have HB4 : Hid (Below w.heap.size w w4) := HB.out.trans (hb4.mono HB.out.size)
      have SV : Hid (StrV w4 u3 J) := (ho.out.next hb4).strV OJ.out
      have SR : Hid (StrR w4 u4 (allV d x)) := ho4.strR OX.out
      have bk4 : Hid (Blk w4 w.heap.size #[.int .i64 kx, .int .i64 nx, .string tx, .string mx, .slice (some ⟨g, off, none⟩) n cap, .slice pc nc capc] 88) := hbk.out.next hb4
      clear hb4 ho4 xa4 xa5 a0 a1 a2 a3 a4 a5
      go_wp2_with fail
      refine (once_any _ _ _ J (allV d x) SV.out SR.out (by omega)).mono ?_
      rintro e w5 ⟨u5, rfl, ho5, hb5⟩
      have HB5 : Hid (Below w.heap.size w w5) := HB4.out.trans (hb5.mono HB4.out.size)
      have HO5 : Hid (OwnS w5 w.heap.size u5 (onceS J (allV d x))) := ho5.base HB4.out.size
      have bk5 : Hid (Blk w5 w.heap.size #[.int .i64 kx, .int .i64 nx, .string tx, .string mx, .slice (some ⟨g, off, none⟩) n cap, .slice pc nc capc] 88) := bk4.out.next hb5
      clear hb5 ho5
      go_wp2_with fail
      exact ⟨⟨k + 1, by omega, by go_num, by show OwnS _ _ _ _; rw [HJ.out]; exact HO5.out, by show Got _ _ _; rw [HJ.out]; exact GX.out, bk5.out, HB5.out⟩, by simp [intOf]; omega⟩
    · have HS : Hid (OwnS wr w.heap.size u3 (foldV (allV d) P0 ks)) := by
        have := ho.out
        rwa [List.take_of_length_le (by rw [HN.out]; omega)] at this
      have GS : Hid (Got (d + 1) (.mk kx nx tx mx ks cl) (foldV (allV d) P0 ks)) := by
        have := hg.out
        rwa [List.take_of_length_le (by rw [HN.out]; omega)] at this
      generalize hP1 : foldV (allV d) P0 ks = P1 at HS GS
      have HP1 : Hid (foldV (allV d) P0 ks = P1) := hP1
      clear hP1
      clear ho hg
      go_wp2_with fail
      go_loopw [3, 5] (fun ov iv wr => ∃ i : Nat, i ≤ nc ∧ iv = .int .i64 i ∧ Hid (OwnS wr w.heap.size ov ((cl.take i).foldl (allC (allV d)) P1)) ∧ Hid (Got (d + 1) (.mk kx nx tx mx ks cl) ((cl.take i).foldl (allC (allV d)) P1)) ∧ Hid (Blk wr w.heap.size #[.int .i64 kx, .int .i64 nx, .string tx, .string mx, .slice p n cap, .slice pc nc capc] 88) ∧ Hid (Below w.heap.size w wr)) (fun _ iv _ => nc - (intOf iv).toNat)
      case atStart => exact ⟨0, Nat.zero_le _, rfl, HS.out, GS.out, hbk.out, HB.out⟩
      case round =>
        clear HS GS hbk HB xa4 xa5
        obtain ⟨i, hi, rfl, hoI, hgI, hbI, HBI⟩ := hrel
        have xa5 := hbI.out.cell 5 _ rfl
        by_cases hlt : i < nc
        · obtain ⟨c, hci⟩ : ∃ c, cl[i]? = some c := ⟨cl[i]'(by rw [HNC.out]; exact hlt), List.getElem?_eq_getElem _⟩
          obtain ⟨gc, oc, rfl, -, hgcl, hat⟩ := HXC.out (by intro h; rw [h] at hci; simp at hci)
          obtain ⟨cs, hcsl, hcs, pv, bv, rfl, rp, rb⟩ := hat i c hci
          obtain ⟨pp, capp, rfl, hp1, hp2, hxp⟩ := rp
          obtain ⟨pb, capb, rfl, hb1, hb2, hxb⟩ := rb
          have y0 := hcs 0 (by omega)
          have y1 := hcs 1 (by omega)
          simp at y0 y1
          have hnp : c.1.length ≤ 9223372036854775807 := by unfold maxLen at hp2; omega
          have hnb' : c.2.length ≤ 9223372036854775807 := by unfold maxLen at hb2; omega
          generalize hnp0 : c.1.length = np at *
          generalize hnb0 : c.2.length = nb at *
          have HN0 : Hid (c.1.length = np) := hnp0
          have HN1 : Hid (c.2.length = nb) := hnb0
          have HXP0 : Hid (ExAt w d pp c.1) := hxp
          have HXP1 : Hid (ExAt w d pb c.2) := hxb
          have HP0c : Hid (w.cell? ⟨gc, oc + i * 2, none⟩ = some (.slice pp np capp)) := y0
          have HP1c : Hid (w.cell? ⟨gc, oc + i * 2 + 1, none⟩ = some (.slice pb nb capb)) := y1
          have HJC : Hid ((cl.take (i + 1)).foldl (allC (allV d)) P1 = foldV (allV d) (foldV (allV d) ((cl.take i).foldl (allC (allV d)) P1) c.1) c.2) := foldC_snoc _ _ cl i c hci
          have hii : (i : Int) < (nc : Int) := by omega
          have hi0 : (0 : Int) ≤ (i : Int) := by omega
          generalize (cl.take i).foldl (allC (allV d)) P1 = J at *
          clear hat hcs hcsl hxp hxb y0 y1 hnp0 hnb0
          go_wp2_with fail
          go_loopw [3, 6] (fun ov iv wr => ∃ k : Nat, k ≤ np ∧ iv = .int .i64 k ∧ Hid (OwnS wr w.heap.size ov (foldV (allV d) J (c.1.take k))) ∧ Hid (Got (d + 1) (.mk kx nx tx mx ks cl) (foldV (allV d) J (c.1.take k))) ∧ Hid (Blk wr w.heap.size #[.int .i64 kx, .int .i64 nx, .string tx, .string mx, .slice p n cap, .slice (some ⟨gc, oc, none⟩) nc capc] 88) ∧ Hid (Below w.heap.size w wr)) (fun _ iv _ => np - (intOf iv).toNat)
          case atStart => exact ⟨0, Nat.zero_le _, rfl, hoI.out, hgI.out, hbI.out, HBI.out⟩
          case round =>
            obtain ⟨k, hk, rfl, ho, hg, hbk, HB⟩ := hrel
            have xa5 := hbk.out.cell 5 _ rfl
            have xp0 := (HB.out.cell (p := ⟨gc, oc + i * 2, none⟩) hgcl).trans HP0c.out
            have xp1 := (HB.out.cell (p := ⟨gc, oc + i * 2 + 1, none⟩) hgcl).trans HP1c.out
            by_cases hlk : k < np
            · obtain ⟨x, hxk⟩ : ∃ x, c.1[k]? = some x := ⟨c.1[k]'(by rw [HN0.out]; exact hlk), List.getElem?_eq_getElem _⟩
              obtain ⟨g, off, rfl, -, hgl, hat⟩ := HXP0.out (by intro h; rw [h] at hxk; simp at hxk)
              obtain ⟨cs, hcsl, hcs, r1⟩ := hat k x hxk
              have E1 : ∀ w', Below w.heap.size w w' → HEx w' All d cs x := fun w' hw => r1.mono (SameOn.of_below hw) (fun _ h => h)
              obtain ⟨c0, c1, c2, c3, c4, c5, rfl⟩ := len6 hcsl
              have a0 := hcs 0 (by omega)
              have a1 := hcs 1 (by omega)
              have a2 := hcs 2 (by omega)
              have a3 := hcs 3 (by omega)
              have a4 := hcs 4 (by omega)
              have a5 := hcs 5 (by omega)
              rw [← HB.out.cell (p := ⟨g, _, none⟩) hgl] at a0 a1 a2 a3 a4 a5
              simp at a0 a1 a2 a3 a4 a5
              have hki : (k : Int) < (np : Int) := by omega
              have hk0 : (0 : Int) ≤ (k : Int) := by omega
              obtain ⟨wx, sx, ex⟩ := BC.out i c hci x (.inl (List.mem_of_getElem? hxk))
              have GX : Hid (Got (d + 1) (.mk kx nx tx mx ks cl) (onceS (foldV (allV d) J (c.1.take k)) (allV d x))) := hg.out.once sx
              have HJ : Hid (foldV (allV d) J (c.1.take (k + 1)) = onceS (foldV (allV d) J (c.1.take k)) (allV d x)) := foldV_snoc _ _ c.1 k x hxk
              have lq := hg.out.len HW.out
              have lx := (allV_got ex).len wx
              have OX : Hid (∀ s ∈ allV d x, okS s) := fun s hs => (sx s hs).2
              have OJ : Hid (∀ s ∈ foldV (allV d) J (c.1.take k), okS s) := hg.out.ok
              generalize hJ0 : foldV (allV d) J (c.1.take k) = J at *
              clear hcs hat hcsl r1 hJ0 hg sx
              go_wp2_with fail
              refine (hE _ _ x (E1 _ HB.out) wx).mono ?_
              rintro e w4 ⟨u4, rfl, ho4, hb4⟩
              have HB4 : Hid (Below w.heap.size w w4) := HB.out.trans (hb4.mono HB.out.size)
              have SV : Hid (StrV w4 u3 J) := (ho.out.next hb4).strV OJ.out
              have SR : Hid (StrR w4 u4 (allV d x)) := ho4.strR OX.out
              have bk4 : Hid (Blk w4 w.heap.size #[.int .i64 kx, .int .i64 nx, .string tx, .string mx, .slice p n cap, .slice (some ⟨gc, oc, none⟩) nc capc] 88) := hbk.out.next hb4
              clear hb4 ho4 xa5 xp0 xp1 a0 a1 a2 a3 a4 a5
              go_wp2_with fail
              refine (once_any _ _ _ J (allV d x) SV.out SR.out (by omega)).mono ?_
              rintro e w5 ⟨u5, rfl, ho5, hb5⟩
              have HB5 : Hid (Below w.heap.size w w5) := HB4.out.trans (hb5.mono HB4.out.size)
              have HO5 : Hid (OwnS w5 w.heap.size u5 (onceS J (allV d x))) := ho5.base HB4.out.size
              have bk5 : Hid (Blk w5 w.heap.size #[.int .i64 kx, .int .i64 nx, .string tx, .string mx, .slice p n cap, .slice (some ⟨gc, oc, none⟩) nc capc] 88) := bk4.out.next hb5
              clear hb5 ho5
              go_wp2_with fail
              exact ⟨⟨k + 1, by omega, by go_num, by show OwnS _ _ _ _; rw [HJ.out]; exact HO5.out, by show Got _ _ _; rw [HJ.out]; exact GX.out, bk5.out, HB5.out⟩, by simp [intOf]; omega⟩
            · have HS0 : Hid (OwnS wr w.heap.size u3 (foldV (allV d) J c.1)) := by
                have := ho.out
                rwa [List.take_of_length_le (by rw [HN0.out]; omega)] at this
              have GS0 : Hid (Got (d + 1) (.mk kx nx tx mx ks cl) (foldV (allV d) J c.1)) := by
                have := hg.out
                rwa [List.take_of_length_le (by rw [HN0.out]; omega)] at this
              clear ho hg
              have HBq : Hid (Below w.heap.size w wr) := HB.out
              have hbq : Hid (Blk wr w.heap.size #[.int .i64 kx, .int .i64 nx, .string tx, .string mx, .slice p n cap, .slice (some ⟨gc, oc, none⟩) nc capc] 88) := hbk.out
              clear HB hbk
              go_wp2_with fail
              go_loopw [3, 7] (fun ov iv wr => ∃ k : Nat, k ≤ nb ∧ iv = .int .i64 k ∧ Hid (OwnS wr w.heap.size ov (foldV (allV d) (foldV (allV d) J c.1) (c.2.take k))) ∧ Hid (Got (d + 1) (.mk kx nx tx mx ks cl) (foldV (allV d) (foldV (allV d) J c.1) (c.2.take k))) ∧ Hid (Blk wr w.heap.size #[.int .i64 kx, .int .i64 nx, .string tx, .string mx, .slice p n cap, .slice (some ⟨gc, oc, none⟩) nc capc] 88) ∧ Hid (Below w.heap.size w wr)) (fun _ iv _ => nb - (intOf iv).toNat)
              case atStart => exact ⟨0, Nat.zero_le _, rfl, HS0.out, GS0.out, hbq.out, HBq.out⟩
              case round =>
                obtain ⟨k, hk, rfl, ho, hg, hbk, HB⟩ := hrel
                have xa5 := hbk.out.cell 5 _ rfl
                have xp0 := (HB.out.cell (p := ⟨gc, oc + i * 2, none⟩) hgcl).trans HP0c.out
                have xp1 := (HB.out.cell (p := ⟨gc, oc + i * 2 + 1, none⟩) hgcl).trans HP1c.out
                by_cases hlk : k < nb
                · obtain ⟨x, hxk⟩ : ∃ x, c.2[k]? = some x := ⟨c.2[k]'(by rw [HN1.out]; exact hlk), List.getElem?_eq_getElem _⟩
                  obtain ⟨g, off, rfl, -, hgl, hat⟩ := HXP1.out (by intro h; rw [h] at hxk; simp at hxk)
                  obtain ⟨cs, hcsl, hcs, r1⟩ := hat k x hxk
                  have E1 : ∀ w', Below w.heap.size w w' → HEx w' All d cs x := fun w' hw => r1.mono (SameOn.of_below hw) (fun _ h => h)
                  obtain ⟨c0, c1, c2, c3, c4, c5, rfl⟩ := len6 hcsl
                  have a0 := hcs 0 (by omega)
                  have a1 := hcs 1 (by omega)
                  have a2 := hcs 2 (by omega)
                  have a3 := hcs 3 (by omega)
                  have a4 := hcs 4 (by omega)
                  have a5 := hcs 5 (by omega)
                  rw [← HB.out.cell (p := ⟨g, _, none⟩) hgl] at a0 a1 a2 a3 a4 a5
                  simp at a0 a1 a2 a3 a4 a5
                  have hki : (k : Int) < (nb : Int) := by omega
                  have hk0 : (0 : Int) ≤ (k : Int) := by omega
                  obtain ⟨wx, sx, ex⟩ := BC.out i c hci x (.inr (List.mem_of_getElem? hxk))
                  have GX : Hid (Got (d + 1) (.mk kx nx tx mx ks cl) (onceS (foldV (allV d) (foldV (allV d) J c.1) (c.2.take k)) (allV d x))) := hg.out.once sx
                  have HJ : Hid (foldV (allV d) (foldV (allV d) J c.1) (c.2.take (k + 1)) = onceS (foldV (allV d) (foldV (allV d) J c.1) (c.2.take k)) (allV d x)) := foldV_snoc _ _ c.2 k x hxk
                  have lq := hg.out.len HW.out
                  have lx := (allV_got ex).len wx
                  have OX : Hid (∀ s ∈ allV d x, okS s) := fun s hs => (sx s hs).2
                  have OJ : Hid (∀ s ∈ foldV (allV d) (foldV (allV d) J c.1) (c.2.take k), okS s) := hg.out.ok
                  generalize hJ0 : foldV (allV d) (foldV (allV d) J c.1) (c.2.take k) = J at *
                  clear hcs hat hcsl r1 hJ0 hg sx
                  go_wp2_with fail
                  refine (hE _ _ x (E1 _ HB.out) wx).mono ?_
                  rintro e w4 ⟨u4, rfl, ho4, hb4⟩
                  have HB4 : Hid (Below w.heap.size w w4) := HB.out.trans (hb4.mono HB.out.size)
                  have SV : Hid (StrV w4 u3 J) := (ho.out.next hb4).strV OJ.out
                  have SR : Hid (StrR w4 u4 (allV d x)) := ho4.strR OX.out
                  have bk4 : Hid (Blk w4 w.heap.size #[.int .i64 kx, .int .i64 nx, .string tx, .string mx, .slice p n cap, .slice (some ⟨gc, oc, none⟩) nc capc] 88) := hbk.out.next hb4
                  clear hb4 ho4 xa5 xp0 xp1 a0 a1 a2 a3 a4 a5
                  go_wp2_with fail
                  refine (once_any _ _ _ J (allV d x) SV.out SR.out (by omega)).mono ?_
                  rintro e w5 ⟨u5, rfl, ho5, hb5⟩
                  have HB5 : Hid (Below w.heap.size w w5) := HB4.out.trans (hb5.mono HB4.out.size)
                  have HO5 : Hid (OwnS w5 w.heap.size u5 (onceS J (allV d x))) := ho5.base HB4.out.size
                  have bk5 : Hid (Blk w5 w.heap.size #[.int .i64 kx, .int .i64 nx, .string tx, .string mx, .slice p n cap, .slice (some ⟨gc, oc, none⟩) nc capc] 88) := bk4.out.next hb5
                  clear hb5 ho5
                  go_wp2_with fail
                  exact ⟨⟨k + 1, by omega, by go_num, by show OwnS _ _ _ _; rw [HJ.out]; exact HO5.out, by show Got _ _ _; rw [HJ.out]; exact GX.out, bk5.out, HB5.out⟩, by simp [intOf]; omega⟩
                · have HS1 : Hid (OwnS wr w.heap.size u3 (foldV (allV d) (foldV (allV d) J c.1) c.2)) := by
                    have := ho.out
                    rwa [List.take_of_length_le (by rw [HN1.out]; omega)] at this
                  have GS1 : Hid (Got (d + 1) (.mk kx nx tx mx ks cl) (foldV (allV d) (foldV (allV d) J c.1) c.2)) := by
                    have := hg.out
                    rwa [List.take_of_length_le (by rw [HN1.out]; omega)] at this
                  clear ho hg
                  go_wp2_with fail
                  exact ⟨⟨i + 1, by omega, by go_num, by show OwnS _ _ _ _; rw [HJC.out]; exact HS1.out, by show Got _ _ _; rw [HJC.out]; exact GS1.out, hbk.out, HB.out⟩, by simp [intOf]; omega⟩
        · have HS2 : Hid (OwnS wr w.heap.size u3 (cl.foldl (allC (allV d)) P1)) := by
            have := hoI.out
            rwa [List.take_of_length_le (by rw [HNC.out]; omega)] at this
          clear hoI hgI
          go_wp2_with fail
          go_ret
          exact ⟨u3, rfl, by show OwnS _ _ _ _; rw [HP1.out]; exact HS2.out, HBI.out⟩

theorem all_all : ∀ d, NmC 77 d (allV d)
  | 0 => fun w cs x h _ => h.elim
  | d + 1 => all_of (all_all d)
end Go.Proofs.YtihffcphbcepoaaGreatDoor
/-
  The specification's l04Sorted, walked.
-/
namespace Go.Proofs.YtihffcphbcepoaaGreatDoor
open Go.ChangeShapes Go.WideShapes Go.ChangeAt Go.RowKit
set_option linter.unusedVariables false
set_option maxRecDepth 100000

theorem OwnS.form {w : World} {B : Nat} {v : Value} {l : List ByteArray} (h : OwnS w B v l) (hn : v ≠ .slice none 0 0) : ∃ g cap, v = .slice (some ⟨g, 0, none⟩) l.length cap ∧ l.length ≤ cap ∧ cap ≤ maxLen ∧ B ≤ g ∧ g < w.heap.size := by
  rcases h.1.2 with ⟨hv, _⟩ | ⟨g, cap, cur, hv, hB, hg, h1, h2, _⟩
  · exact absurd hv hn
  · exact ⟨g, cap, hv, h1, h2, hB, (Array.getElem?_eq_some_iff.1 hg).1⟩
theorem OwnS.cellS {w : World} {B g n cap : Nat} {l : List ByteArray} (h : OwnS w B (.slice (some ⟨g, 0, none⟩) n cap) l) (hn : l.length = n) (k : Nat) (x : ByteArray) (hk : l[k]? = some x) : w.cell? ⟨g, k, none⟩ = some (.string x) := by
  subst hn
  exact (h.1.cellAt k (by have := (List.getElem?_eq_some_iff.1 hk).1; omega)).trans (by simp [strs, hk])
theorem lit0_owns {W : World} {B b : Nat} (h : W.heap[b]? = some (.cells #[] 9)) (hB : B ≤ b) : W.ownsRow B 9 1 (.slice (some ⟨b, 0, none⟩) 0 0) 0 [] :=
  ⟨rfl, .inr ⟨b, 0, #[], rfl, hB, h, Nat.le_refl _, Nat.zero_le _, rfl, rfl⟩⟩
theorem lit_at1 (W : World) (o o' : Obj) : ((W.alloc o).alloc o').drew.heap[W.heap.size + 1]? = some o' := by
  show ((W.heap.push o).push o')[W.heap.size + 1]? = some o'
  have : (W.heap.push o).size = W.heap.size + 1 := by simp
  rw [← this, Array.getElem?_push_size]
theorem lit1_at (W : World) (s : ByteArray) (o : Obj) (b : Nat) (hb : b = W.heap.size + 1) : ((W.alloc o).alloc (.cells #[.string s] 9)).drew.cell? ⟨b, 0, none⟩ = some (.string s) := by
  subst hb
  exact Blk.cell (cs := #[.string s]) (t := 9) (lit_at1 W o _) 0 _ rfl
theorem lit1_old (W : World) (s : ByteArray) (o : Obj) : ((W.alloc (.cells #[.string s] 9)).alloc o).drew.cell? ⟨W.heap.size, 0, none⟩ = some (.string s) :=
  Blk.cell (cs := #[.string s]) (t := 9) ((Blk.new (w := W)).alloc (o := o)) 0 _ rfl
theorem one_at {W : World} {b : Nat} {s : ByteArray} (h : W.cell? ⟨b, 0, none⟩ = some (.string s)) : ∀ j u, (strs [s])[j]? = some u → W.cell? ((⟨b, 0, none⟩ : Addr).add j) = some u := by
  intro j u hj
  match j, hj with
  | 0, hj => simp [strs] at hj; subst hj; exact h
theorem news_of {W W0 : World} {B g n cap : Nat} {J : List ByteArray} (h : OwnS W0 B (.slice (some ⟨g, 0, none⟩) n cap) J) (hn : J.length = n) (he : W.heap[g]? = W0.heap[g]?) (a : Nat) : ∀ j u, (strs (J.take a))[j]? = some u → W.cell? ((⟨g, 0, none⟩ : Addr).add j) = some u := by
  intro j u hj
  have ea : (⟨g, 0, none⟩ : Addr).add j = ⟨g, j, none⟩ := by cases j <;> simp [Addr.add]
  rw [ea, World.cell?_of_block he]
  simp only [strs, List.map_take, List.getElem?_take] at hj
  split at hj
  · rw [List.getElem?_map, Option.map_eq_some_iff] at hj
    obtain ⟨x, hx, rfl⟩ := hj
    exact h.cellS hn j x hx
  · cases hj
theorem news_from {W W0 : World} {B g n cap : Nat} {J : List ByteArray} (h : OwnS W0 B (.slice (some ⟨g, 0, none⟩) n cap) J) (hn : J.length = n) (he : W.heap[g]? = W0.heap[g]?) (a oa : Nat) (ho : a < J.length → oa = a) : ∀ j u, (strs (J.drop a))[j]? = some u → W.cell? ((⟨g, oa, none⟩ : Addr).add j) = some u := by
  intro j u hj
  simp only [strs, List.map_drop, List.getElem?_drop, List.getElem?_map, Option.map_eq_some_iff] at hj
  obtain ⟨x, hx, rfl⟩ := hj
  have hlt := (List.getElem?_eq_some_iff.1 hx).1
  obtain rfl := ho (by omega)
  have ea : (⟨g, oa, none⟩ : Addr).add j = ⟨g, oa + j, none⟩ := by cases j <;> simp [Addr.add]
  rw [ea, World.cell?_of_block he]
  exact h.cellS hn (oa + j) x hx
theorem own_nextS {w w' : World} {B c n : Nat} {e : TypeId} {v : Value} {xs : List Value} (h : w.ownsRow B e c v n xs) (hb : Below w.heap.size w w') : w'.ownsRow B e c v n xs := by
  refine ⟨h.1, ?_⟩
  rcases h.2 with hn | ⟨g, cap, cur, hv, hB, hg, hr⟩
  · exact .inl hn
  · exact .inr ⟨g, cap, cur, hv, hB, (hb.block g (Array.getElem?_eq_some_iff.1 hg).1).trans hg, hr⟩
theorem below_own {N : Nat} {a b c : World} {v : Value} {e : TypeId} {k n : Nat} {xs : List Value} (h : Below N a b) (hN : N ≤ a.heap.size) (ho : b.ownsRow N e k v n xs) (hg : b.grownBy c v.ownBlock) : Below N a c := by
  refine ⟨hg.os.trans h.os, hg.tape.trans h.tape, hg.output.trans h.output, Nat.le_trans h.size hg.size, fun j hj => ?_⟩
  refine (hg.block j (Nat.lt_of_lt_of_le hj (Nat.le_trans hN h.size)) (fun e => ?_)).trans (h.block j hj)
  rcases ho.2 with hn | ⟨g', cap', cur, hv', hB, hg', _⟩
  · rw [hn.1] at e; cases e
  · rw [hv'] at e
    simp [Value.ownBlock] at e
    omega

set_option maxHeartbeats 16000000 in
theorem sorted_any (w : World) (v : Value) (xs : List ByteArray) (h : StrR w v xs) (hl : xs.length ≤ 2097152) :
    Calls Tryz.prog 28 #[v] w fun e w' => ∃ u, e = .returned u ∧ OwnS w' w.heap.size u (sortS xs) ∧ Below w.heap.size w w' := by
  obtain ⟨i0, hi, hz0, hz1, hz2⟩ := info_parts info_str
  obtain ⟨p, cap, rfl, hcl, hcm, hx⟩ := h
  have HX : Hid (∀ k x, xs[k]? = some x → ∃ g off, p = some ⟨g, off, none⟩ ∧ g < w.heap.size ∧ w.cell? ⟨g, off + k, none⟩ = some (.string x)) := fun k x hk => by
    obtain ⟨g, off, e, _, hg, hat⟩ := hx (by intro e; rw [e] at hk; simp at hk)
    obtain ⟨cs, _, hcs, rfl, _⟩ := hat k x hk
    have := hcs 0 (by decide)
    simp only [Nat.mul_one, Nat.add_zero, List.getElem?_cons_zero] at this
    exact ⟨g, off, e, hg, this⟩
  clear hx
  have O0 : Hid (OwnS (w.alloc (.cells #[] 9)) w.heap.size (.slice (some ⟨w.heap.size, 0, none⟩) 0 0) []) := OwnS.fresh
  have B0 : Hid (Below w.heap.size w (w.alloc (.cells #[] 9))) := (Below.refl _ _).alloc (Nat.le_refl _) _
  generalize hn : xs.length = n at *
  have HN : Hid (xs.length = n) := hn
  clear hn
  go_enter Tryz.func28, Tryz.ntmps28
  go_wp2_with fail
  go_loopw [3, 4] (fun ov iv wr => ∃ k : Nat, k ≤ n ∧ iv = .int .i64 k ∧ Hid (OwnS wr w.heap.size ov (sortS (xs.take k)) ∧ ov ≠ .slice none 0 0) ∧ Hid (Below w.heap.size w wr)) (fun _ iv _ => n - (intOf iv).toNat)
  case atStart => exact ⟨0, Nat.zero_le _, rfl, ⟨O0.out, by simp⟩, B0.out⟩
  case round =>
    clear O0 B0
    obtain ⟨k, hk, rfl, ho, HB⟩ := hrel
    obtain ⟨g3, c3, hu3, hc3, hc3', hB3, hg3⟩ := OwnS.form ho.out.1 ho.out.2
    subst hu3
    by_cases hlt : k < n
    · obtain ⟨s, hsk⟩ : ∃ s, xs[k]? = some s := ⟨xs[k]'(by rw [HN.out]; exact hlt), List.getElem?_eq_getElem _⟩
      obtain ⟨gx, ox, rfl, hgx, cx⟩ := HX.out k s hsk
      have hjl := sortS_len xs k
      have HJ : Hid (sortS (xs.take (k + 1)) = insS (sortS (xs.take k)) s) := sortS_snoc xs k s hsk
      generalize hJ : sortS (xs.take k) = J at *
      have HO : Hid (OwnS wr w.heap.size (.slice (some ⟨g3, 0, none⟩) J.length c3) J) := ho.out.1
      have HCX : Hid (w.cell? ⟨gx, ox + k, none⟩ = some (.string s)) := cx
      generalize hm : J.length = m at *
      have HM : Hid (J.length = m) := hm
      clear ho cx hJ hm
      go_wp2_with fail
      go_loopw [5] (fun av wq => ∃ (a q : Nat), a ≤ m ∧ av = .int .i64 a ∧ wq = wr.drewN q ∧ Hid (∀ j x, j < a → J[j]? = some x → ltS x s = true)) (fun av _ => m - (intOf av).toNat)
      case atStart => exact ⟨0, 0, Nat.zero_le _, rfl, rfl, fun j x hj => by omega⟩
      case round =>
        obtain ⟨a, q, ha, rfl, rfl, HA⟩ := hrel
        have cx : wr.cell? ⟨gx, ox + k, none⟩ = some (.string s) := (HB.out.cell (p := ⟨gx, _, none⟩) hgx).trans HCX.out
        by_cases hlm : a < m
        · obtain ⟨y, hya⟩ : ∃ y, J[a]? = some y := ⟨J[a]'(by rw [HM.out]; exact hlm), List.getElem?_eq_getElem _⟩
          have cy : wr.cell? ⟨g3, a, none⟩ = some (.string y) := HO.out.cellS HM.out a y hya
          cases hys : Op.bytesLess y.toList s.toList with
          | true =>
            go_wp2_with fail
            go_quiet (fail)
            go_wp2_with fail
            refine ⟨⟨a + 1, q + nq, by omega, by go_num, rfl, fun j x hj hx => ?_⟩, by simp [intOf]; omega⟩
            by_cases hja : j < a
            · exact HA.out j x hja hx
            · obtain rfl : j = a := by omega
              obtain rfl : y = x := Option.some.inj (hya.symm.trans hx)
              exact hys
          | false =>
            go_wp2_with fail
            go_quiet (fail)
            go_wp2_with fail
            have cxA : ((wr.drewN q).drewN nq).cell? ⟨gx, ox + k, none⟩ = some (.string s) := cx
            have cyA : ((wr.drewN q).drewN nq).cell? ⟨g3, a, none⟩ = some (.string y) := cy
            have HOA : Hid (OwnS ((wr.drewN q).drewN nq) w.heap.size (.slice (some ⟨g3, 0, none⟩) m c3) J) := HO.out
            have HBA : Hid (Below w.heap.size w ((wr.drewN q).drewN nq)) := below_drewN (below_drewN HB.out q) nq
            clear cx cy HO HB hg3
            generalize (wr.drewN q).drewN nq = wA at cxA cyA HOA HBA ⊢
            have hne : ((a : Int) == (m : Int)) = false := by simp; omega
            have hne2 : (a == m) = false := by simp; omega
            have HIN : Hid (insS J s = if y.toList = s.toList then J else J.take a ++ s :: J.drop a) := by
              have := insS_at J s a (by rw [HM.out]; exact ha) HA.out (fun x hx => by obtain rfl : y = x := Option.some.inj (hya.symm.trans hx); exact hys)
              rw [hya] at this
              exact this
            cases hyq : (y.toList == s.toList) with
            | true =>
              have HIJ : Hid (sortS (xs.take (k + 1)) = J) := by
                show _ = _
                rw [HJ.out, HIN.out, if_pos (beq_iff_eq.1 hyq)]
              go_quiet (fail)
              go_wp2_with fail
              exact ⟨⟨k + 1, by omega, by go_num, ⟨by rw [HIJ.out]; exact HOA.out, by simp⟩, below_drewN HBA.out nq⟩, by simp [intOf]; omega⟩
            | false =>
              go_quiet (fail)
              go_wp2_with fail
              have hac : a ≤ c3 := by omega
              have LT : Hid ((strs (J.take a)).length = a * 1) := by show _ = _; rw [strs_length, List.length_take, HM.out]; omega
              have LD : Hid ((strs (J.drop a)).length = (m - a) * 1) := by show _ = _; rw [strs_length, List.length_drop, HM.out]; omega
              have HOW : Hid (OwnS (wA.drewN nq) w.heap.size (.slice (some ⟨g3, 0, none⟩) m c3) J) := HOA.out
              have HBW : Hid (Below w.heap.size w (wA.drewN nq)) := below_drewN HBA.out nq
              have cxW : (wA.drewN nq).cell? ⟨gx, ox + k, none⟩ = some (.string s) := cxA
              clear cxA cyA HOA HBA
              generalize wA.drewN nq = W0 at HOW HBW cxW ⊢
              have hg3W : g3 < W0.heap.size := (HOW.out.off rfl).2
              have hgxW : gx < W0.heap.size := Nat.lt_of_lt_of_le hgx HBW.out.size
              obtain ⟨oa, hoe, hoa⟩ : ∃ oa, oa = a ∧ (a < J.length → oa = a) := ⟨_, rfl, (fun _ => rfl)⟩
              go_region_held_law (fun w' => w'.cell? ⟨gx, ox + k, none⟩ = some (.string s))
                (first | assumption | go_keep | (go_split_ands; exact cell_next ((Below.refl _ _).alloc (Nat.le_refl _) _) (by assumption)))
                (first
                  | (refine step_append_own (W0.alloc (.cells #[] 9)).drew (by rfl) _ _ _ (by rfl) W0.heap.size 9 i0 (.string ⟨#[]⟩) 1 16 Tryz.underlying33 hi hz0 hz1 hz2 rfl (by decide) (.slice (some ⟨W0.heap.size, 0, none⟩) 0 0) 0 [] (by rfl) (lit0_owns (W := (W0.alloc (.cells #[] 9)).drew) (b := W0.heap.size) (Blk.new (w := W0)) (by simp)) ⟨g3, 0, none⟩ a c3 (strs (J.take a)) (by rfl) LT.out (news_of HOW.out HM.out (((Below.refl W0.heap.size W0).alloc (Nat.le_refl _) (.cells #[] 9)).drew.block g3 hg3W) a) (strs_oneCell _) (by unfold maxLen; omega) (by omega) ((Below.refl W0.heap.size W0).alloc (Nat.le_refl _) (.cells #[] 9)).drew.size ?_; intro v1 w1 hown1 hgr1 hv1; have O1 : Hid (w1.ownsRow W0.heap.size 9 1 v1 (0 + a) ([] ++ strs (J.take a))) := hown1; have K1 : Hid (Below W0.heap.size W0 w1) := below_own ((Below.refl W0.heap.size W0).alloc (Nat.le_refl _) (.cells #[] 9)).drew (Nat.le_refl _) (lit0_owns (W := (W0.alloc (.cells #[] 9)).drew) (b := W0.heap.size) (Blk.new (w := W0)) (by simp)) hgr1; have cx1 := cell_next K1.out cxW)
                  | (refine step_append_own ((W0.alloc (.cells #[] 9)).alloc (.cells #[.string s] 9)).drew (by rfl) _ _ _ (by rfl) W0.heap.size 9 i0 (.string ⟨#[]⟩) 1 16 Tryz.underlying33 hi hz0 hz1 hz2 rfl (by decide) (.slice (some ⟨W0.heap.size, 0, none⟩) 0 0) 0 [] (by rfl) (lit0_owns (W := ((W0.alloc (.cells #[] 9)).alloc (.cells #[.string s] 9)).drew) (b := W0.heap.size) ((Blk.new (w := W0)).alloc) (by simp)) ⟨g3, 0, none⟩ a c3 (strs (J.take a)) (by rfl) LT.out (news_of HOW.out HM.out ((((Below.refl W0.heap.size W0).alloc (Nat.le_refl _) (.cells #[] 9)).alloc (by simp) (.cells #[.string s] 9)).drew.block g3 hg3W) a) (strs_oneCell _) (by unfold maxLen; omega) (by omega) (((Below.refl W0.heap.size W0).alloc (Nat.le_refl _) (.cells #[] 9)).alloc (by simp) (.cells #[.string s] 9)).drew.size ?_; intro v1 w1 hown1 hgr1 hv1; have O1 : Hid (w1.ownsRow W0.heap.size 9 1 v1 (0 + a) ([] ++ strs (J.take a))) := hown1; have K1 : Hid (Below W0.heap.size W0 w1) := below_own (((Below.refl W0.heap.size W0).alloc (Nat.le_refl _) (.cells #[] 9)).alloc (by simp) (.cells #[.string s] 9)).drew (Nat.le_refl _) (lit0_owns (W := ((W0.alloc (.cells #[] 9)).alloc (.cells #[.string s] 9)).drew) (b := W0.heap.size) ((Blk.new (w := W0)).alloc) (by simp)) hgr1; have cx1 := cell_next K1.out cxW; have N1 : Hid (w1.cell? ⟨W0.heap.size + 1, 0, none⟩ = some (.string s)) := (World.cell?_of_block (hgr1.block (W0.heap.size + 1) (by simp) (by simp [Value.ownBlock]))).trans (lit1_at W0 s _ _ rfl))
                  | (refine step_append_own ((W0.alloc (.cells #[.string s] 9)).alloc (.cells #[] 9)).drew (by rfl) _ _ _ (by rfl) W0.heap.size 9 i0 (.string ⟨#[]⟩) 1 16 Tryz.underlying33 hi hz0 hz1 hz2 rfl (by decide) (.slice (some ⟨(W0.heap.size + 1), 0, none⟩) 0 0) 0 [] (by rfl) (lit0_owns (W := ((W0.alloc (.cells #[.string s] 9)).alloc (.cells #[] 9)).drew) (b := (W0.heap.size + 1)) (lit_at1 W0 _ _) (by simp)) ⟨g3, 0, none⟩ a c3 (strs (J.take a)) (by rfl) LT.out (news_of HOW.out HM.out ((((Below.refl W0.heap.size W0).alloc (Nat.le_refl _) (.cells #[.string s] 9)).alloc (by simp) (.cells #[] 9)).drew.block g3 hg3W) a) (strs_oneCell _) (by unfold maxLen; omega) (by omega) (((Below.refl W0.heap.size W0).alloc (Nat.le_refl _) (.cells #[.string s] 9)).alloc (by simp) (.cells #[] 9)).drew.size ?_; intro v1 w1 hown1 hgr1 hv1; have O1 : Hid (w1.ownsRow W0.heap.size 9 1 v1 (0 + a) ([] ++ strs (J.take a))) := hown1; have K1 : Hid (Below W0.heap.size W0 w1) := below_own (((Below.refl W0.heap.size W0).alloc (Nat.le_refl _) (.cells #[.string s] 9)).alloc (by simp) (.cells #[] 9)).drew (Nat.le_refl _) (lit0_owns (W := ((W0.alloc (.cells #[.string s] 9)).alloc (.cells #[] 9)).drew) (b := (W0.heap.size + 1)) (lit_at1 W0 _ _) (by simp)) hgr1; have cx1 := cell_next K1.out cxW; have N1 : Hid (w1.cell? ⟨W0.heap.size, 0, none⟩ = some (.string s)) := (World.cell?_of_block (hgr1.block W0.heap.size (by simp; omega) (by simp [Value.ownBlock]))).trans (lit1_old W0 s _))
                  | (refine step_append_own (w1.alloc (.cells #[.string s] 9)) (by rfl) _ _ _ (by rfl) W0.heap.size 9 i0 (.string ⟨#[]⟩) 1 16 Tryz.underlying33 hi hz0 hz1 hz2 rfl (by decide) v1 (0 + a) ([] ++ strs (J.take a)) (by rfl) (own_nextS O1.out ((Below.refl _ _).alloc (Nat.le_refl _) (.cells #[.string s] 9))) ⟨w1.heap.size, 0, none⟩ 1 1 (strs [s]) (by rfl) (by rfl) (one_str w1 s _ rfl) (strs_oneCell _) (by unfold maxLen; omega) (by omega) (K1.out.alloc K1.out.size (.cells #[.string s] 9)).size ?_; intro v2 w2 hown2 hgr2 hv2; have K2 : Hid (Below W0.heap.size W0 w2) := below_own (K1.out.alloc K1.out.size (.cells #[.string s] 9)) (Nat.le_refl _) (own_nextS O1.out ((Below.refl _ _).alloc (Nat.le_refl _) (.cells #[.string s] 9))) hgr2; have O2 : Hid (w2.ownsRow W0.heap.size 9 1 v2 (0 + a + 1) ([] ++ strs (J.take a) ++ strs [s])) := hown2; have cx2 := cell_next K2.out cxW)
                  | (refine step_append_own w1 (by rfl) _ _ _ (by rfl) W0.heap.size 9 i0 (.string ⟨#[]⟩) 1 16 Tryz.underlying33 hi hz0 hz1 hz2 rfl (by decide) v1 (0 + a) ([] ++ strs (J.take a)) (by rfl) O1.out ⟨(W0.heap.size + 1), 0, none⟩ 1 1 (strs [s]) (by rfl) (by rfl) (one_at N1.out) (strs_oneCell _) (by unfold maxLen; omega) (by omega) K1.out.size ?_; intro v2 w2 hown2 hgr2 hv2; have K2 : Hid (Below W0.heap.size W0 w2) := below_own K1.out (Nat.le_refl _) O1.out hgr2; have O2 : Hid (w2.ownsRow W0.heap.size 9 1 v2 (0 + a + 1) ([] ++ strs (J.take a) ++ strs [s])) := hown2; have cx2 := cell_next K2.out cxW)
                  | (refine step_append_own w1 (by rfl) _ _ _ (by rfl) W0.heap.size 9 i0 (.string ⟨#[]⟩) 1 16 Tryz.underlying33 hi hz0 hz1 hz2 rfl (by decide) v1 (0 + a) ([] ++ strs (J.take a)) (by rfl) O1.out ⟨W0.heap.size, 0, none⟩ 1 1 (strs [s]) (by rfl) (by rfl) (one_at N1.out) (strs_oneCell _) (by unfold maxLen; omega) (by omega) K1.out.size ?_; intro v2 w2 hown2 hgr2 hv2; have K2 : Hid (Below W0.heap.size W0 w2) := below_own K1.out (Nat.le_refl _) O1.out hgr2; have O2 : Hid (w2.ownsRow W0.heap.size 9 1 v2 (0 + a + 1) ([] ++ strs (J.take a) ++ strs [s])) := hown2; have cx2 := cell_next K2.out cxW)
                  | (refine step_append_own w2 (by rfl) _ _ _ (by rfl) W0.heap.size 9 i0 (.string ⟨#[]⟩) 1 16 Tryz.underlying33 hi hz0 hz1 hz2 rfl (by decide) v2 (0 + a + 1) ([] ++ strs (J.take a) ++ strs [s]) (by rfl) O2.out ⟨g3, oa, none⟩ (m - a) (c3 - a) (strs (J.drop a)) (by first | rfl | (simp [Act.eval, Act.put, hoe]; omega) | (simp [Act.eval, Act.put, hoe]; split <;> rfl)) LD.out (news_from HOW.out HM.out (K2.out.block g3 hg3W) a oa hoa) (strs_oneCell _) (by unfold maxLen; omega) (by omega) K2.out.size ?_; intro v3 w3 hown3 hgr3 hv3; have K3 : Hid (Below W0.heap.size W0 w3) := below_own K2.out (Nat.le_refl _) O2.out hgr3; have O3 : Hid (w3.ownsRow W0.heap.size 9 1 v3 (0 + a + 1 + (m - a)) ([] ++ strs (J.take a) ++ strs [s] ++ strs (J.drop a))) := hown3; have cx3 := cell_next K3.out cxW))
              all_goals
                go_split_ands
                have HO9 : Hid (OwnS w3 w.heap.size v3 (sortS (xs.take (k + 1))) ∧ v3 ≠ .slice none 0 0) := by
                  have h1 : sortS (xs.take (k + 1)) = J.take a ++ s :: J.drop a := by rw [HJ.out]; exact (HIN.out.trans (if_neg (by intro e; rw [e] at hyq; simp at hyq)))
                  have h2 := O3.out
                  have h3 : ([] ++ strs (J.take a) ++ strs [s] ++ strs (J.drop a)) = strs (J.take a ++ s :: J.drop a) := by simp [strs]
                  have h4 : 0 + a + 1 + (m - a) = (J.take a ++ s :: J.drop a).length := by
                    rw [List.length_append, List.length_cons, List.length_take, List.length_drop, HM.out]; omega
                  rw [h3, h4] at h2
                  refine ⟨?_, fun e => ?_⟩
                  · rw [h1]; exact OwnS.base ⟨h2, K3.out.size⟩ HBW.out.size
                  · have h5 := h2.2
                    rw [e] at h5
                    rcases h5 with ⟨_, h6⟩ | ⟨g', cap', cur, h6, _⟩
                    · simp at h6
                    · simp at h6
                have HB9 : Hid (Below w.heap.size w w3) := HBW.out.trans (K3.out.mono HBW.out.size)
                clear O1 O2 O3 K1 K2 K3 hown1 hown2 hown3 hgr1 hgr2 hgr3 hv1 hv2 hv3 cx1 cx2 cx3
                go_wp2_with fail
                exact ⟨⟨k + 1, by omega, by go_num, HO9.out, HB9.out⟩, by simp [intOf]; omega⟩
        · obtain rfl : m = a := by omega
          have heq : ((m : Int) == (m : Int)) = true := by simp
          have HIN : Hid (insS J s = J.take m ++ s :: J.drop m) := by
            have hnone : J[m]? = none := List.getElem?_eq_none (by rw [HM.out]; exact Nat.le_refl _)
            have := insS_at J s m (by rw [HM.out]; exact Nat.le_refl _) HA.out (fun x hx => by rw [hnone] at hx; cases hx)
            rw [hnone] at this
            exact this
          clear heq ha hlm
          go_wp2_with fail
          go_quiet (fail)
          go_wp2_with fail
          have cxA : ((wr.drewN q).drewN nq).cell? ⟨gx, ox + k, none⟩ = some (.string s) := cx
          have HOA : Hid (OwnS ((wr.drewN q).drewN nq) w.heap.size (.slice (some ⟨g3, 0, none⟩) m c3) J) := HO.out
          have HBA : Hid (Below w.heap.size w ((wr.drewN q).drewN nq)) := below_drewN (below_drewN HB.out q) nq
          clear cx HO HB hg3
          generalize (wr.drewN q).drewN nq = wA at cxA HOA HBA ⊢
          go_quiet (fail)
          go_wp2_with fail
          have hac : m ≤ c3 := by omega
          have LT : Hid ((strs (J.take m)).length = m * 1) := by show _ = _; rw [strs_length, List.length_take, HM.out]; omega
          have LD : Hid ((strs (J.drop m)).length = (m - m) * 1) := by show _ = _; rw [strs_length, List.length_drop, HM.out]; omega
          have HOW : Hid (OwnS (wA.drewN nq) w.heap.size (.slice (some ⟨g3, 0, none⟩) m c3) J) := HOA.out
          have HBW : Hid (Below w.heap.size w (wA.drewN nq)) := below_drewN HBA.out nq
          have cxW : (wA.drewN nq).cell? ⟨gx, ox + k, none⟩ = some (.string s) := cxA
          clear cxA HOA HBA
          generalize wA.drewN nq = W0 at HOW HBW cxW ⊢
          have hg3W : g3 < W0.heap.size := (HOW.out.off rfl).2
          have hgxW : gx < W0.heap.size := Nat.lt_of_lt_of_le hgx HBW.out.size
          obtain ⟨oa, hoe, hoa⟩ : ∃ oa, oa = (if c3 = m then 0 else m) ∧ (m < J.length → oa = m) := ⟨_, rfl, (fun h => absurd h (by rw [HM.out]; omega))⟩
          go_region_held_law (fun w' => w'.cell? ⟨gx, ox + k, none⟩ = some (.string s))
            (first | assumption | go_keep | (go_split_ands; exact cell_next ((Below.refl _ _).alloc (Nat.le_refl _) _) (by assumption)))
            (first
              | (refine step_append_own (W0.alloc (.cells #[] 9)).drew (by rfl) _ _ _ (by rfl) W0.heap.size 9 i0 (.string ⟨#[]⟩) 1 16 Tryz.underlying33 hi hz0 hz1 hz2 rfl (by decide) (.slice (some ⟨W0.heap.size, 0, none⟩) 0 0) 0 [] (by rfl) (lit0_owns (W := (W0.alloc (.cells #[] 9)).drew) (b := W0.heap.size) (Blk.new (w := W0)) (by simp)) ⟨g3, 0, none⟩ m c3 (strs (J.take m)) (by rfl) LT.out (news_of HOW.out HM.out (((Below.refl W0.heap.size W0).alloc (Nat.le_refl _) (.cells #[] 9)).drew.block g3 hg3W) m) (strs_oneCell _) (by unfold maxLen; omega) (by omega) ((Below.refl W0.heap.size W0).alloc (Nat.le_refl _) (.cells #[] 9)).drew.size ?_; intro v1 w1 hown1 hgr1 hv1; have O1 : Hid (w1.ownsRow W0.heap.size 9 1 v1 (0 + m) ([] ++ strs (J.take m))) := hown1; have K1 : Hid (Below W0.heap.size W0 w1) := below_own ((Below.refl W0.heap.size W0).alloc (Nat.le_refl _) (.cells #[] 9)).drew (Nat.le_refl _) (lit0_owns (W := (W0.alloc (.cells #[] 9)).drew) (b := W0.heap.size) (Blk.new (w := W0)) (by simp)) hgr1; have cx1 := cell_next K1.out cxW)
              | (refine step_append_own ((W0.alloc (.cells #[] 9)).alloc (.cells #[.string s] 9)).drew (by rfl) _ _ _ (by rfl) W0.heap.size 9 i0 (.string ⟨#[]⟩) 1 16 Tryz.underlying33 hi hz0 hz1 hz2 rfl (by decide) (.slice (some ⟨W0.heap.size, 0, none⟩) 0 0) 0 [] (by rfl) (lit0_owns (W := ((W0.alloc (.cells #[] 9)).alloc (.cells #[.string s] 9)).drew) (b := W0.heap.size) ((Blk.new (w := W0)).alloc) (by simp)) ⟨g3, 0, none⟩ m c3 (strs (J.take m)) (by rfl) LT.out (news_of HOW.out HM.out ((((Below.refl W0.heap.size W0).alloc (Nat.le_refl _) (.cells #[] 9)).alloc (by simp) (.cells #[.string s] 9)).drew.block g3 hg3W) m) (strs_oneCell _) (by unfold maxLen; omega) (by omega) (((Below.refl W0.heap.size W0).alloc (Nat.le_refl _) (.cells #[] 9)).alloc (by simp) (.cells #[.string s] 9)).drew.size ?_; intro v1 w1 hown1 hgr1 hv1; have O1 : Hid (w1.ownsRow W0.heap.size 9 1 v1 (0 + m) ([] ++ strs (J.take m))) := hown1; have K1 : Hid (Below W0.heap.size W0 w1) := below_own (((Below.refl W0.heap.size W0).alloc (Nat.le_refl _) (.cells #[] 9)).alloc (by simp) (.cells #[.string s] 9)).drew (Nat.le_refl _) (lit0_owns (W := ((W0.alloc (.cells #[] 9)).alloc (.cells #[.string s] 9)).drew) (b := W0.heap.size) ((Blk.new (w := W0)).alloc) (by simp)) hgr1; have cx1 := cell_next K1.out cxW; have N1 : Hid (w1.cell? ⟨W0.heap.size + 1, 0, none⟩ = some (.string s)) := (World.cell?_of_block (hgr1.block (W0.heap.size + 1) (by simp) (by simp [Value.ownBlock]))).trans (lit1_at W0 s _ _ rfl))
              | (refine step_append_own ((W0.alloc (.cells #[.string s] 9)).alloc (.cells #[] 9)).drew (by rfl) _ _ _ (by rfl) W0.heap.size 9 i0 (.string ⟨#[]⟩) 1 16 Tryz.underlying33 hi hz0 hz1 hz2 rfl (by decide) (.slice (some ⟨(W0.heap.size + 1), 0, none⟩) 0 0) 0 [] (by rfl) (lit0_owns (W := ((W0.alloc (.cells #[.string s] 9)).alloc (.cells #[] 9)).drew) (b := (W0.heap.size + 1)) (lit_at1 W0 _ _) (by simp)) ⟨g3, 0, none⟩ m c3 (strs (J.take m)) (by rfl) LT.out (news_of HOW.out HM.out ((((Below.refl W0.heap.size W0).alloc (Nat.le_refl _) (.cells #[.string s] 9)).alloc (by simp) (.cells #[] 9)).drew.block g3 hg3W) m) (strs_oneCell _) (by unfold maxLen; omega) (by omega) (((Below.refl W0.heap.size W0).alloc (Nat.le_refl _) (.cells #[.string s] 9)).alloc (by simp) (.cells #[] 9)).drew.size ?_; intro v1 w1 hown1 hgr1 hv1; have O1 : Hid (w1.ownsRow W0.heap.size 9 1 v1 (0 + m) ([] ++ strs (J.take m))) := hown1; have K1 : Hid (Below W0.heap.size W0 w1) := below_own (((Below.refl W0.heap.size W0).alloc (Nat.le_refl _) (.cells #[.string s] 9)).alloc (by simp) (.cells #[] 9)).drew (Nat.le_refl _) (lit0_owns (W := ((W0.alloc (.cells #[.string s] 9)).alloc (.cells #[] 9)).drew) (b := (W0.heap.size + 1)) (lit_at1 W0 _ _) (by simp)) hgr1; have cx1 := cell_next K1.out cxW; have N1 : Hid (w1.cell? ⟨W0.heap.size, 0, none⟩ = some (.string s)) := (World.cell?_of_block (hgr1.block W0.heap.size (by simp; omega) (by simp [Value.ownBlock]))).trans (lit1_old W0 s _))
              | (refine step_append_own (w1.alloc (.cells #[.string s] 9)) (by rfl) _ _ _ (by rfl) W0.heap.size 9 i0 (.string ⟨#[]⟩) 1 16 Tryz.underlying33 hi hz0 hz1 hz2 rfl (by decide) v1 (0 + m) ([] ++ strs (J.take m)) (by rfl) (own_nextS O1.out ((Below.refl _ _).alloc (Nat.le_refl _) (.cells #[.string s] 9))) ⟨w1.heap.size, 0, none⟩ 1 1 (strs [s]) (by rfl) (by rfl) (one_str w1 s _ rfl) (strs_oneCell _) (by unfold maxLen; omega) (by omega) (K1.out.alloc K1.out.size (.cells #[.string s] 9)).size ?_; intro v2 w2 hown2 hgr2 hv2; have K2 : Hid (Below W0.heap.size W0 w2) := below_own (K1.out.alloc K1.out.size (.cells #[.string s] 9)) (Nat.le_refl _) (own_nextS O1.out ((Below.refl _ _).alloc (Nat.le_refl _) (.cells #[.string s] 9))) hgr2; have O2 : Hid (w2.ownsRow W0.heap.size 9 1 v2 (0 + m + 1) ([] ++ strs (J.take m) ++ strs [s])) := hown2; have cx2 := cell_next K2.out cxW)
              | (refine step_append_own w1 (by rfl) _ _ _ (by rfl) W0.heap.size 9 i0 (.string ⟨#[]⟩) 1 16 Tryz.underlying33 hi hz0 hz1 hz2 rfl (by decide) v1 (0 + m) ([] ++ strs (J.take m)) (by rfl) O1.out ⟨(W0.heap.size + 1), 0, none⟩ 1 1 (strs [s]) (by rfl) (by rfl) (one_at N1.out) (strs_oneCell _) (by unfold maxLen; omega) (by omega) K1.out.size ?_; intro v2 w2 hown2 hgr2 hv2; have K2 : Hid (Below W0.heap.size W0 w2) := below_own K1.out (Nat.le_refl _) O1.out hgr2; have O2 : Hid (w2.ownsRow W0.heap.size 9 1 v2 (0 + m + 1) ([] ++ strs (J.take m) ++ strs [s])) := hown2; have cx2 := cell_next K2.out cxW)
              | (refine step_append_own w1 (by rfl) _ _ _ (by rfl) W0.heap.size 9 i0 (.string ⟨#[]⟩) 1 16 Tryz.underlying33 hi hz0 hz1 hz2 rfl (by decide) v1 (0 + m) ([] ++ strs (J.take m)) (by rfl) O1.out ⟨W0.heap.size, 0, none⟩ 1 1 (strs [s]) (by rfl) (by rfl) (one_at N1.out) (strs_oneCell _) (by unfold maxLen; omega) (by omega) K1.out.size ?_; intro v2 w2 hown2 hgr2 hv2; have K2 : Hid (Below W0.heap.size W0 w2) := below_own K1.out (Nat.le_refl _) O1.out hgr2; have O2 : Hid (w2.ownsRow W0.heap.size 9 1 v2 (0 + m + 1) ([] ++ strs (J.take m) ++ strs [s])) := hown2; have cx2 := cell_next K2.out cxW)
              | (refine step_append_own w2 (by rfl) _ _ _ (by rfl) W0.heap.size 9 i0 (.string ⟨#[]⟩) 1 16 Tryz.underlying33 hi hz0 hz1 hz2 rfl (by decide) v2 (0 + m + 1) ([] ++ strs (J.take m) ++ strs [s]) (by rfl) O2.out ⟨g3, oa, none⟩ (m - m) (c3 - m) (strs (J.drop m)) (by first | rfl | (simp [Act.eval, Act.put, hoe]; omega) | (simp [Act.eval, Act.put, hoe]; split <;> rfl)) LD.out (news_from HOW.out HM.out (K2.out.block g3 hg3W) m oa hoa) (strs_oneCell _) (by unfold maxLen; omega) (by omega) K2.out.size ?_; intro v3 w3 hown3 hgr3 hv3; have K3 : Hid (Below W0.heap.size W0 w3) := below_own K2.out (Nat.le_refl _) O2.out hgr3; have O3 : Hid (w3.ownsRow W0.heap.size 9 1 v3 (0 + m + 1 + (m - m)) ([] ++ strs (J.take m) ++ strs [s] ++ strs (J.drop m))) := hown3; have cx3 := cell_next K3.out cxW))
          all_goals
            go_split_ands
            have HO9 : Hid (OwnS w3 w.heap.size v3 (sortS (xs.take (k + 1))) ∧ v3 ≠ .slice none 0 0) := by
              have h1 : sortS (xs.take (k + 1)) = J.take m ++ s :: J.drop m := by rw [HJ.out]; exact HIN.out
              have h2 := O3.out
              have h3 : ([] ++ strs (J.take m) ++ strs [s] ++ strs (J.drop m)) = strs (J.take m ++ s :: J.drop m) := by simp [strs]
              have h4 : 0 + m + 1 + (m - m) = (J.take m ++ s :: J.drop m).length := by
                rw [List.length_append, List.length_cons, List.length_take, List.length_drop, HM.out]; omega
              rw [h3, h4] at h2
              refine ⟨?_, fun e => ?_⟩
              · rw [h1]; exact OwnS.base ⟨h2, K3.out.size⟩ HBW.out.size
              · have h5 := h2.2
                rw [e] at h5
                rcases h5 with ⟨_, h6⟩ | ⟨g', cap', cur, h6, _⟩
                · simp at h6
                · simp at h6
            have HB9 : Hid (Below w.heap.size w w3) := HBW.out.trans (K3.out.mono HBW.out.size)
            clear O1 O2 O3 K1 K2 K3 hown1 hown2 hown3 hgr1 hgr2 hgr3 hv1 hv2 hv3 cx1 cx2 cx3
            go_wp2_with fail
            exact ⟨⟨k + 1, by omega, by go_num, HO9.out, HB9.out⟩, by simp [intOf]; omega⟩
    · have HS : Hid (OwnS wr w.heap.size (.slice (some ⟨g3, 0, none⟩) (sortS (xs.take k)).length c3) (sortS xs)) := by
        have := ho.out.1
        rw [List.take_of_length_le (by rw [HN.out]; omega)] at this ⊢
        exact this
      clear ho
      go_wp2_with fail
      go_ret
      exact ⟨_, rfl, HS.out, HB.out⟩
end Go.Proofs.YtihffcphbcepoaaGreatDoor
/-
  The variables of a clause, by the specification: l07Vars, by contract.
-/
namespace Go.Proofs.YtihffcphbcepoaaGreatDoor
open Go.ChangeShapes Go.WideShapes Go.ChangeAt Go.RowKit
set_option linter.unusedVariables false
set_option maxRecDepth 100000

theorem clauseVars_ex (d : Nat) (c : Cl) : clauseVars d c = allV (d + 1) (.mk 10 0 ByteArray.empty ByteArray.empty [] [c]) := rfl
theorem clauseWt_ex (d : Nat) (c : Cl) : wtEx (d + 1) (.mk 10 0 ByteArray.empty ByteArray.empty [] [c]) = 1 + wtCl (wtEx d) c := by
  show 0 + 0 + wtS (wtEx d) [] + wtS (wtCl (wtEx d)) [c] = _
  simp [wtS]
theorem clause_txts {w : World} {d : Nat} {cs : List Value} {c : Cl} (h : HCl w All (HEx w All d) cs c) : exS (d + 1) (.mk 10 0 ByteArray.empty ByteArray.empty [] [c]) := by
  obtain ⟨p, b, rfl, hp, hb⟩ := h
  have hh : ∀ (v : Value) (l : List Ex), Rows w All 6 (HEx w All d) v l → ∀ y ∈ l, exS d y := by
    intro v l hr y hy
    obtain ⟨_, _, _, _, _, hx⟩ := hr
    obtain ⟨i, hi⟩ := List.mem_iff_getElem?.1 hy
    obtain ⟨g, off, _, _, _, hat⟩ := hx (by intro e; rw [e] at hy; simp at hy)
    obtain ⟨cs, _, _, hr⟩ := hat i y hi
    exact hr.txts
  refine ⟨by show (0 : Nat) ≤ maxLen; exact Nat.zero_le _, by simp, fun c' hc' => ?_⟩
  simp only [List.mem_singleton] at hc'
  subst hc'
  exact ⟨hh p c'.1 hp, hh b c'.2 hb⟩

set_option maxHeartbeats 16000000 in
theorem l07Vars_any (d : Nat) (w : World) (cs : List Value) (c : Cl) (h : HCl w All (HEx w All d) cs c) (hwt : 1 + wtCl (wtEx d) c ≤ 1048576) :
    Calls Tryz.prog 41 #[.agg cs.toArray] w fun e w' => ∃ u, e = .returned u ∧ OwnS w' w.heap.size u (sortS (clauseVars d c)) ∧ Below w.heap.size w w' := by
  have hok := clause_txts h
  have hE := all_all d
  rw [← clauseWt_ex] at hwt
  have HW : Hid (wtEx (d + 1) (.mk 10 0 ByteArray.empty ByteArray.empty [] [c]) ≤ 1048576) := hwt
  have BC : Hid (∀ y, (y ∈ c.1 ∨ y ∈ c.2) → wtEx d y ≤ 1048576 ∧ (∀ s ∈ allV d y, keyS s ∈ varL (d + 1) (.mk 10 0 ByteArray.empty ByteArray.empty [] [c]) ∧ okS s) ∧ exS d y) := fun y hy => by
    have hy' : wtEx d y ≤ wtCl (wtEx d) c := by
      have hc : wtCl (wtEx d) c = wtS (wtEx d) c.1 + wtS (wtEx d) c.2 := rfl
      rcases hy with hy | hy
      · obtain ⟨q, hq⟩ := List.mem_iff_getElem?.1 hy
        have := wtS_part (wtEx d) c.1 q y hq
        omega
      · obtain ⟨q, hq⟩ := List.mem_iff_getElem?.1 hy
        have := wtS_part (wtEx d) c.2 q y hq
        omega
    have hm : c ∈ [c] := by simp
    have he : exS d y := by
      rcases hy with hy | hy
      · exact (hok.2.2 c hm).1 y hy
      · exact (hok.2.2 c hm).2 y hy
    rw [clauseWt_ex] at hwt
    exact ⟨by omega, fun s hs => ⟨varL_cl hm hy (allV_sub d y s hs), allV_ok d y he s hs⟩, he⟩
  have G0 : Hid (Got (d + 1) (.mk 10 0 ByteArray.empty ByteArray.empty [] [c]) []) := ⟨by simp [NdK], fun s hs => by simp at hs, fun s hs => by simp at hs⟩
  have HC : Hid (clauseVars d c = foldV (allV d) (foldV (allV d) [] c.1) c.2) := rfl
  rw [HC.out]
  clear hok HC
  obtain ⟨pv, bv, rfl, hp, hb⟩ := h
  obtain ⟨P, B⟩ := c
  simp only at *
  obtain ⟨p, cap, rfl, hcl, hcm, hx⟩ := hp
  obtain ⟨pb, capb, rfl, hclb, hcmb, hxb⟩ := hb
  have hnp : P.length ≤ 9223372036854775807 := by unfold maxLen at hcm; omega
  have hnb : B.length ≤ 9223372036854775807 := by unfold maxLen at hcmb; omega
  have HXP : Hid (ExAt w d p P) := hx
  have HXB : Hid (ExAt w d pb B) := hxb
  generalize hn : P.length = np at *
  have HNP : Hid (P.length = np) := hn
  generalize hn' : B.length = nb at *
  have HNB : Hid (B.length = nb) := hn'
  clear hn hn' hx hxb hwt
  obtain ⟨W1, hW1⟩ : ∃ W1, W1 = (w.alloc (.cells #[.slice p np cap, .slice pb nb capb] 78)).alloc (.cells #[] 9) := ⟨_, rfl⟩
  have bA : Hid (Blk W1 w.heap.size #[.slice p np cap, .slice pb nb capb] 78) := by show Blk _ _ _ _; rw [hW1]; exact Blk.new.alloc
  have B1 : Hid (Below w.heap.size w W1) := by show Below _ _ _; rw [hW1]; exact ((Below.refl _ _).alloc (Nat.le_refl _) _).alloc (by simp) _
  have O0 : Hid (OwnS W1 w.heap.size (.slice (some ⟨w.heap.size + 1, 0, none⟩) 0 0) []) := by
    have := OwnS.fresh (w := w.alloc (.cells #[.slice p np cap, .slice pb nb capb] 78))
    rw [alloc_hs] at this
    show OwnS _ _ _ _; rw [hW1]; exact this.base (by omega)
  have HW1 : Hid (W1 = (w.alloc (.cells #[.slice p np cap, .slice pb nb capb] 78)).alloc (.cells #[] 9)) := hW1
  clear hW1
  go_enter Tryz.func41, Tryz.ntmps41
  go_wp2_with fail
  rw [← HW1.out]
  go_loopw [3, 4] (fun ov iv wr => ∃ k : Nat, k ≤ np ∧ iv = .int .i64 k ∧ Hid (OwnS wr w.heap.size ov (foldV (allV d) [] (P.take k))) ∧ Hid (Got (d + 1) (.mk 10 0 ByteArray.empty ByteArray.empty [] [(P, B)]) (foldV (allV d) [] (P.take k))) ∧ Hid (Blk wr w.heap.size #[.slice p np cap, .slice pb nb capb] 78) ∧ Hid (Below w.heap.size w wr)) (fun _ iv _ => np - (intOf iv).toNat)
  case atStart => exact ⟨0, Nat.zero_le _, rfl, O0.out, G0.out, bA.out, B1.out⟩
  case round =>
    obtain ⟨k, hk, rfl, ho, hg, hbk, HB⟩ := hrel
    have xa0 := hbk.out.cell 0 _ rfl
    have xa1 := hbk.out.cell 1 _ rfl
    by_cases hlt : k < np
    · obtain ⟨x, hxk⟩ : ∃ x, P[k]? = some x := ⟨P[k]'(by rw [HNP.out]; exact hlt), List.getElem?_eq_getElem _⟩
      obtain ⟨g, off, rfl, -, hgl, hat⟩ := HXP.out (by intro h; rw [h] at hxk; simp at hxk)
      obtain ⟨cs, hcsl, hcs, r1⟩ := hat k x hxk
      have E1 : ∀ w', Below w.heap.size w w' → HEx w' All d cs x := fun w' hw => r1.mono (SameOn.of_below hw) (fun _ h => h)
      obtain ⟨c0, c1, c2, c3, c4, c5, rfl⟩ := len6 hcsl
      have a0 := hcs 0 (by omega)
      have a1 := hcs 1 (by omega)
      have a2 := hcs 2 (by omega)
      have a3 := hcs 3 (by omega)
      have a4 := hcs 4 (by omega)
      have a5 := hcs 5 (by omega)
      rw [← HB.out.cell (p := ⟨g, _, none⟩) hgl] at a0 a1 a2 a3 a4 a5
      simp at a0 a1 a2 a3 a4 a5
      have hki : (k : Int) < (np : Int) := by omega
      have hk0 : (0 : Int) ≤ (k : Int) := by omega
      obtain ⟨wx, sx, ex⟩ := BC.out x (.inl (List.mem_of_getElem? hxk))
      have GX : Hid (Got (d + 1) (.mk 10 0 ByteArray.empty ByteArray.empty [] [(P, B)]) (onceS (foldV (allV d) [] (P.take k)) (allV d x))) := hg.out.once sx
      have HJ : Hid (foldV (allV d) [] (P.take (k + 1)) = onceS (foldV (allV d) [] (P.take k)) (allV d x)) := foldV_snoc _ _ P k x hxk
      have lq := hg.out.len HW.out
      have lx := (allV_got ex).len wx
      have OX : Hid (∀ s ∈ allV d x, okS s) := fun s hs => (sx s hs).2
      have OJ : Hid (∀ s ∈ foldV (allV d) [] (P.take k), okS s) := hg.out.ok
      generalize hJ0 : foldV (allV d) [] (P.take k) = J at *
      clear hcs hat hcsl r1 hJ0 hg sx
      go_wp2_with fail
      refine (hE _ _ x (E1 _ HB.out) wx).mono ?_
      rintro e w4 ⟨u4, rfl, ho4, hb4⟩
      have HB4 : Hid (Below w.heap.size w w4) := HB.out.trans (hb4.mono HB.out.size)
      have SV : Hid (StrV w4 u3 J) := (ho.out.next hb4).strV OJ.out
      have SR : Hid (StrR w4 u4 (allV d x)) := ho4.strR OX.out
      have bk4 : Hid (Blk w4 w.heap.size #[.slice (some ⟨g, off, none⟩) np cap, .slice pb nb capb] 78) := hbk.out.next hb4
      clear hb4 ho4 xa0 xa1 a0 a1 a2 a3 a4 a5
      go_wp2_with fail
      refine (once_any _ _ _ J (allV d x) SV.out SR.out (by omega)).mono ?_
      rintro e w5 ⟨u5, rfl, ho5, hb5⟩
      have HB5 : Hid (Below w.heap.size w w5) := HB4.out.trans (hb5.mono HB4.out.size)
      have HO5 : Hid (OwnS w5 w.heap.size u5 (onceS J (allV d x))) := ho5.base HB4.out.size
      have bk5 : Hid (Blk w5 w.heap.size #[.slice (some ⟨g, off, none⟩) np cap, .slice pb nb capb] 78) := bk4.out.next hb5
      clear hb5 ho5
      go_wp2_with fail
      exact ⟨⟨k + 1, by omega, by go_num, by show OwnS _ _ _ _; rw [HJ.out]; exact HO5.out, by show Got _ _ _; rw [HJ.out]; exact GX.out, bk5.out, HB5.out⟩, by simp [intOf]; omega⟩
    · have HS : Hid (OwnS wr w.heap.size u3 (foldV (allV d) [] P)) := by
        have := ho.out
        rwa [List.take_of_length_le (by rw [HNP.out]; omega)] at this
      have GS : Hid (Got (d + 1) (.mk 10 0 ByteArray.empty ByteArray.empty [] [(P, B)]) (foldV (allV d) [] P)) := by
        have := hg.out
        rwa [List.take_of_length_le (by rw [HNP.out]; omega)] at this
      clear ho hg
      generalize hP1 : foldV (allV d) [] P = P1 at HS GS
      have HP1 : Hid (foldV (allV d) [] P = P1) := hP1
      clear hP1
      go_wp2_with fail
      go_loopw [3, 5] (fun ov iv wr => ∃ k : Nat, k ≤ nb ∧ iv = .int .i64 k ∧ Hid (OwnS wr w.heap.size ov (foldV (allV d) P1 (B.take k))) ∧ Hid (Got (d + 1) (.mk 10 0 ByteArray.empty ByteArray.empty [] [(P, B)]) (foldV (allV d) P1 (B.take k))) ∧ Hid (Blk wr w.heap.size #[.slice p np cap, .slice pb nb capb] 78) ∧ Hid (Below w.heap.size w wr)) (fun _ iv _ => nb - (intOf iv).toNat)
      case atStart => exact ⟨0, Nat.zero_le _, rfl, HS.out, GS.out, hbk.out, HB.out⟩
      case round =>
        obtain ⟨k, hk, rfl, ho, hg, hbk, HB⟩ := hrel
        have xa0 := hbk.out.cell 0 _ rfl
        have xa1 := hbk.out.cell 1 _ rfl
        by_cases hlt : k < nb
        · obtain ⟨x, hxk⟩ : ∃ x, B[k]? = some x := ⟨B[k]'(by rw [HNB.out]; exact hlt), List.getElem?_eq_getElem _⟩
          obtain ⟨g, off, rfl, -, hgl, hat⟩ := HXB.out (by intro h; rw [h] at hxk; simp at hxk)
          obtain ⟨cs, hcsl, hcs, r1⟩ := hat k x hxk
          have E1 : ∀ w', Below w.heap.size w w' → HEx w' All d cs x := fun w' hw => r1.mono (SameOn.of_below hw) (fun _ h => h)
          obtain ⟨c0, c1, c2, c3, c4, c5, rfl⟩ := len6 hcsl
          have a0 := hcs 0 (by omega)
          have a1 := hcs 1 (by omega)
          have a2 := hcs 2 (by omega)
          have a3 := hcs 3 (by omega)
          have a4 := hcs 4 (by omega)
          have a5 := hcs 5 (by omega)
          rw [← HB.out.cell (p := ⟨g, _, none⟩) hgl] at a0 a1 a2 a3 a4 a5
          simp at a0 a1 a2 a3 a4 a5
          have hki : (k : Int) < (nb : Int) := by omega
          have hk0 : (0 : Int) ≤ (k : Int) := by omega
          obtain ⟨wx, sx, ex⟩ := BC.out x (.inr (List.mem_of_getElem? hxk))
          have GX : Hid (Got (d + 1) (.mk 10 0 ByteArray.empty ByteArray.empty [] [(P, B)]) (onceS (foldV (allV d) P1 (B.take k)) (allV d x))) := hg.out.once sx
          have HJ : Hid (foldV (allV d) P1 (B.take (k + 1)) = onceS (foldV (allV d) P1 (B.take k)) (allV d x)) := foldV_snoc _ _ B k x hxk
          have lq := hg.out.len HW.out
          have lx := (allV_got ex).len wx
          have OX : Hid (∀ s ∈ allV d x, okS s) := fun s hs => (sx s hs).2
          have OJ : Hid (∀ s ∈ foldV (allV d) P1 (B.take k), okS s) := hg.out.ok
          generalize hJ0 : foldV (allV d) P1 (B.take k) = J at *
          clear hcs hat hcsl r1 hJ0 hg sx
          go_wp2_with fail
          refine (hE _ _ x (E1 _ HB.out) wx).mono ?_
          rintro e w4 ⟨u4, rfl, ho4, hb4⟩
          have HB4 : Hid (Below w.heap.size w w4) := HB.out.trans (hb4.mono HB.out.size)
          have SV : Hid (StrV w4 u3 J) := (ho.out.next hb4).strV OJ.out
          have SR : Hid (StrR w4 u4 (allV d x)) := ho4.strR OX.out
          have bk4 : Hid (Blk w4 w.heap.size #[.slice p np cap, .slice (some ⟨g, off, none⟩) nb capb] 78) := hbk.out.next hb4
          clear hb4 ho4 xa0 xa1 a0 a1 a2 a3 a4 a5
          go_wp2_with fail
          refine (once_any _ _ _ J (allV d x) SV.out SR.out (by omega)).mono ?_
          rintro e w5 ⟨u5, rfl, ho5, hb5⟩
          have HB5 : Hid (Below w.heap.size w w5) := HB4.out.trans (hb5.mono HB4.out.size)
          have HO5 : Hid (OwnS w5 w.heap.size u5 (onceS J (allV d x))) := ho5.base HB4.out.size
          have bk5 : Hid (Blk w5 w.heap.size #[.slice p np cap, .slice (some ⟨g, off, none⟩) nb capb] 78) := bk4.out.next hb5
          clear hb5 ho5
          go_wp2_with fail
          exact ⟨⟨k + 1, by omega, by go_num, by show OwnS _ _ _ _; rw [HJ.out]; exact HO5.out, by show Got _ _ _; rw [HJ.out]; exact GX.out, bk5.out, HB5.out⟩, by simp [intOf]; omega⟩
        · have HS : Hid (OwnS wr w.heap.size u3 (foldV (allV d) P1 B)) := by
            have := ho.out
            rwa [List.take_of_length_le (by rw [HNB.out]; omega)] at this
          have GS : Hid (Got (d + 1) (.mk 10 0 ByteArray.empty ByteArray.empty [] [(P, B)]) (foldV (allV d) P1 B)) := by
            have := hg.out
            rwa [List.take_of_length_le (by rw [HNB.out]; omega)] at this
          clear ho hg
          have lz := GS.out.len HW.out
          generalize hP2 : foldV (allV d) P1 B = P2 at HS GS lz
          have HP2 : Hid (foldV (allV d) P1 B = P2) := hP2
          clear hP2
          go_wp2_with fail
          refine (sorted_any wr u3 _ (HS.out.strR GS.out.ok) (by omega)).mono ?_
          rintro e w6 ⟨u6, rfl, ho6, hb6⟩
          go_wp2_with fail
          go_ret
          exact ⟨u6, rfl, by rw [HP1.out, HP2.out]; exact ho6.base HB.out.size, HB.out.trans (hb6.mono HB.out.size)⟩
end Go.Proofs.YtihffcphbcepoaaGreatDoor
/-
  The specification's readers of programs, by contract: a module by its name, a function, an export.
-/
namespace Go.Proofs.YtihffcphbcepoaaGreatDoor
open Go.ChangeShapes Go.WideShapes Go.ChangeAt Go.RowKit
set_option linter.unusedVariables false

set_option maxHeartbeats 4000000 in
theorem l05Mod_any (d : Nat) (w : World) (v : Value) (ms : List Md) (s : ByteArray) (h : Rows w All 3 (HMd w All d) v ms) :
    Calls Tryz.prog 114 #[v, .string s] w fun e w' => e = .returned (.int .i64 (findI (named s) ms)) ∧ w' = w := by
  obtain ⟨p, cap, rfl, hcl, hcm, hx⟩ := h
  have hnb : ms.length ≤ 9223372036854775807 := by unfold maxLen at hcm; omega
  generalize hn : ms.length = n at *
  have HN : Hid (ms.length = n) := hn
  have HX : Hid (ms ≠ [] → ∃ g off, p = some ⟨g, off, none⟩ ∧ All g ∧ g < w.heap.size ∧ ∀ i x, ms[i]? = some x → ∃ cs, cs.length = 3 ∧ (∀ j, j < 3 → w.cell? ⟨g, off + i * 3 + j, none⟩ = cs[j]?) ∧ HMd w All d cs x) := hx
  clear hx hn
  go_enter Tryz.func114, Tryz.ntmps114
  go_wp2
  go_loop [5] (fun iv => ∃ k : Nat, k ≤ n ∧ iv = .int .i64 k ∧ Hid ((ms.take k).any (named s) = false)) (fun iv => n - (intOf iv).toNat)
  case atStart => exact ⟨0, Nat.zero_le _, rfl, by show _ = _; simp⟩
  case round =>
    obtain ⟨k, hk, rfl, hno⟩ := hrel
    by_cases hlt : k < n
    · obtain ⟨x, hxk⟩ : ∃ x, ms[k]? = some x := ⟨ms[k]'(by rw [HN.out]; exact hlt), List.getElem?_eq_getElem _⟩
      obtain ⟨g, off, rfl, -, hgl, hat⟩ := HX.out (by intro h; rw [h] at hxk; simp at hxk)
      obtain ⟨cs, hcsl, hcs, ev, fv, rfl, -⟩ := hat k x hxk
      have a0 := hcs 0 (by omega)
      simp at a0
      have hki : (k : Int) < (n : Int) := by omega
      have hk0 : (0 : Int) ≤ (k : Int) := by omega
      clear hcs hat hcsl
      cases hq : (x.name.toList == s.toList) with
      | true =>
        have HS : Hid (findI (named s) ms = k) := findI_at hno.out hxk hq
        go_wp2
        go_ret
        exact ⟨by rw [HS.out]; rfl, rfl⟩
      | false =>
        have HS : Hid ((ms.take (k + 1)).any (named s) = false) := anyT_succ' _ ms k x hxk hno.out hq
        go_wp2
        go_round
        case rel => exact ⟨k + 1, by omega, by go_num, HS⟩
        case measure => simp [intOf]; omega
    · have HS : Hid (findI (named s) ms = -1) := findI_none (by
        have := hno.out
        rwa [List.take_of_length_le (by rw [HN.out]; omega)] at this)
      go_wp2
      go_ret
      exact ⟨by rw [HS.out]; rfl, rfl⟩

set_option maxHeartbeats 8000000 in
set_option maxRecDepth 100000 in
theorem l02FindI_any (d : Nat) (w : World) (cs : List Value) (m : Md) (rs : ByteArray) (rn : Int) (h : HMd w All d cs m) :
    Calls Tryz.prog 87 #[.agg cs.toArray, .string rs, .int .i64 rn] w fun e w' => e = .returned (.int .i64 (findI (sameR ⟨rs, rn⟩) m.funs)) ∧ Below w.heap.size w w' := by
  obtain ⟨ev, fv, rfl, hs, ⟨pe, ce, rfl, -⟩, h⟩ := h
  obtain ⟨ms, es, fs⟩ := m
  simp only at *
  obtain ⟨pf, cf, rfl, hcl, hcm, hx⟩ := h
  have hnb : fs.length ≤ 9223372036854775807 := by unfold maxLen at hcm; omega
  generalize hn : fs.length = nf at *
  generalize es.length = ne at *
  have HN : Hid (fs.length = nf) := hn
  have HX : Hid (fs ≠ [] → ∃ g off, pf = some ⟨g, off, none⟩ ∧ All g ∧ g < w.heap.size ∧ ∀ i x, fs[i]? = some x → ∃ cs, cs.length = 3 ∧ (∀ j, j < 3 → w.cell? ⟨g, off + i * 3 + j, none⟩ = cs[j]?) ∧ HFn w All d cs x) := hx
  obtain ⟨W1, hW1⟩ : ∃ W1, W1 = w.alloc (.cells #[.string ms, .slice pe ne ce, .slice pf nf cf] 54) := ⟨_, rfl⟩
  have bA : Hid (Blk W1 w.heap.size #[.string ms, .slice pe ne ce, .slice pf nf cf] 54) := by show Blk _ _ _ _; rw [hW1]; exact Blk.new
  have B1 : Hid (Below w.heap.size w W1) := by show Below _ _ _; rw [hW1]; exact (Below.refl _ _).alloc (Nat.le_refl _) _
  have xa2 := bA.out.cell 2 _ rfl
  have HW1 : Hid (W1 = w.alloc (.cells #[.string ms, .slice pe ne ce, .slice pf nf cf] 54)) := hW1
  clear hx hn hW1
  go_enter Tryz.func87, Tryz.ntmps87
  go_wp2_with fail
  rw [← HW1.out]
  go_loop [7] (fun iv => ∃ k : Nat, k ≤ nf ∧ iv = .int .i64 k ∧ Hid ((fs.take k).any (sameR ⟨rs, rn⟩) = false)) (fun iv => nf - (intOf iv).toNat)
  case atStart => exact ⟨0, Nat.zero_le _, rfl, by show _ = _; simp⟩
  case round =>
    obtain ⟨k, hk, rfl, hall⟩ := hrel
    by_cases hlt : k < nf
    · obtain ⟨x, hxk⟩ : ∃ x, fs[k]? = some x := ⟨fs[k]'(by rw [HN.out]; exact hlt), List.getElem?_eq_getElem _⟩
      obtain ⟨g, off, rfl, -, hgl, hat⟩ := HX.out (by intro h; rw [h] at hxk; simp at hxk)
      obtain ⟨cs, hcsl, hcs, r1⟩ := hat k x hxk
      obtain ⟨p1, n1, q1, rfl⟩ := fnShape r1
      have HC2 : Hid (sameR ⟨rs, rn⟩ x = false → (fs.take (k + 1)).any (sameR ⟨rs, rn⟩) = false) := fun h => anyT_succ _ fs k _ hxk hall.out h
      have HC3 : Hid (sameR ⟨rs, rn⟩ x = true → findI (sameR ⟨rs, rn⟩) fs = k) := fun h => findI_at hall.out hxk h
      obtain ⟨xs, xn, xc⟩ := x
      simp only at *
      have hsm : sameR ⟨rs, rn⟩ ⟨xs, xn, xc⟩ = (xs.toList == rs.toList && xn == rn) := rfl
      rw [hsm] at HC2 HC3
      have a0 := hcs 0 (by omega)
      have a1 := hcs 1 (by omega)
      have a2 := hcs 2 (by omega)
      rw [← B1.out.cell (p := ⟨g, _, none⟩) hgl] at a0 a1 a2
      simp at a0 a1 a2
      have hki : (k : Int) < (nf : Int) := by omega
      have hk0 : (0 : Int) ≤ (k : Int) := by omega
      clear hcs hat hcsl r1 hsm
      cases c1 : (xs.toList == rs.toList) with
      | false =>
        have HT' : Hid ((fs.take (k + 1)).any (sameR ⟨rs, rn⟩) = false) := HC2.out (by rw [c1]; rfl)
        clear HC2 HC3
        go_wp2
        go_round
        case rel => exact ⟨k + 1, by omega, by go_num, HT'⟩
        case measure => simp [intOf]; omega
      | true =>
        cases c2 : (xn == rn) with
        | false =>
          have HT' : Hid ((fs.take (k + 1)).any (sameR ⟨rs, rn⟩) = false) := HC2.out (by rw [c2, Bool.and_false])
          clear HC2 HC3
          go_wp2
          go_round
          case rel => exact ⟨k + 1, by omega, by go_num, HT'⟩
          case measure => simp [intOf]; omega
        | true =>
          have HF : Hid (findI (sameR ⟨rs, rn⟩) fs = k) := HC3.out (by rw [c1, c2]; rfl)
          clear HC2 HC3
          go_wp2
          go_ret
          exact ⟨by rw [HF.out]; rfl, B1.out⟩
    · have HS : Hid (findI (sameR ⟨rs, rn⟩) fs = -1) := findI_none (by
        have := hall.out
        rwa [List.take_of_length_le (by rw [HN.out]; omega)] at this)
      go_wp2
      go_ret
      exact ⟨by rw [HS.out]; rfl, B1.out⟩

set_option maxHeartbeats 8000000 in
set_option maxRecDepth 100000 in
theorem l05Exported_any (d : Nat) (w : World) (cs : List Value) (m : Md) (rs : ByteArray) (rn : Int) (h : HMd w All d cs m) :
    Calls Tryz.prog 201 #[.agg cs.toArray, .agg #[.string rs, .int .i64 rn]] w fun e w' => e = .returned (.bool (hasX m rs rn)) ∧ Below w.heap.size w w' := by
  obtain ⟨ev, fv, rfl, hs, h, ⟨pf, cf, rfl, -⟩⟩ := h
  obtain ⟨ms, es, fs⟩ := m
  have hv : hasX ⟨ms, es, fs⟩ rs rn = es.any (sameRf rs rn) := rfl
  rw [hv]
  clear hv
  simp only at *
  obtain ⟨pe, ce, rfl, hcl, hcm, hx⟩ := h
  have hnb : es.length ≤ 9223372036854775807 := by unfold maxLen at hcm; omega
  generalize hn : es.length = ne at *
  generalize fs.length = nf at *
  have HN : Hid (es.length = ne) := hn
  have HX : Hid (es ≠ [] → ∃ g off, pe = some ⟨g, off, none⟩ ∧ All g ∧ g < w.heap.size ∧ ∀ i x, es[i]? = some x → ∃ cs, cs.length = 2 ∧ (∀ j, j < 2 → w.cell? ⟨g, off + i * 2 + j, none⟩ = cs[j]?) ∧ HRf cs x) := hx
  obtain ⟨W1, hW1⟩ : ∃ W1, W1 = (w.alloc (.cells #[.string ms, .slice pe ne ce, .slice pf nf cf] 54)).alloc (.cells #[.string rs, .int .i64 rn] 73) := ⟨_, rfl⟩
  have bA : Hid (Blk W1 w.heap.size #[.string ms, .slice pe ne ce, .slice pf nf cf] 54) := by show Blk _ _ _ _; rw [hW1]; exact Blk.new.alloc
  have bB : Hid (Blk W1 (w.heap.size + 1) #[.string rs, .int .i64 rn] 73) := by
    show Blk _ _ _ _
    rw [hW1]
    have := Blk.new (w := w.alloc (.cells #[.string ms, .slice pe ne ce, .slice pf nf cf] 54)) (cs := #[.string rs, .int .i64 rn]) (t := 73)
    rwa [alloc_hs] at this
  have B1 : Hid (Below w.heap.size w W1) := by show Below _ _ _; rw [hW1]; exact ((Below.refl _ _).alloc (Nat.le_refl _) _).alloc (by simp only [alloc_hs]; omega) _
  have xa1 := bA.out.cell 1 _ rfl
  have xb0 := bB.out.cell 0 _ rfl
  have xb1 := bB.out.cell 1 _ rfl
  have HW1 : Hid (W1 = (w.alloc (.cells #[.string ms, .slice pe ne ce, .slice pf nf cf] 54)).alloc (.cells #[.string rs, .int .i64 rn] 73)) := hW1
  clear hx hn hW1
  go_enter Tryz.func201, Tryz.ntmps201
  go_wp2_with fail
  rw [← HW1.out]
  go_loopw [5] (fun iv wr => ∃ k : Nat, k ≤ ne ∧ iv = .int .i64 k ∧ Hid ((es.take k).any (sameRf rs rn) = false) ∧ Hid (SameOn All W1 wr) ∧ Below w.heap.size w wr) (fun iv _ => ne - (intOf iv).toNat)
  case atStart => exact ⟨0, Nat.zero_le _, rfl, by show _ = _; simp, ⟨Nat.le_refl _, fun _ _ _ => rfl⟩, B1.out⟩
  case round =>
    obtain ⟨k, hk, rfl, hall, hso, hb⟩ := hrel
    clear xa1 xb0 xb1
    have HB : Hid (Below w.heap.size w wr) := hb
    have bM := bA.out.same_on hso.out
    have bR := bB.out.same_on hso.out
    have xa1 := bM.cell 1 _ rfl
    by_cases hlt : k < ne
    · obtain ⟨x, hxk⟩ : ∃ x, es[k]? = some x := ⟨es[k]'(by rw [HN.out]; exact hlt), List.getElem?_eq_getElem _⟩
      obtain ⟨g, off, rfl, -, hgl, hat⟩ := HX.out (by intro h; rw [h] at hxk; simp at hxk)
      obtain ⟨cs, hcsl, hcs, rfl, -, -⟩ := hat k x hxk
      obtain ⟨xs, xn⟩ := x
      simp only at *
      have a0 := hcs 0 (by omega)
      have a1 := hcs 1 (by omega)
      rw [← hb.cell (p := ⟨g, _, none⟩) hgl] at a0 a1
      simp at a0 a1
      have hki : (k : Int) < (ne : Int) := by omega
      have hk0 : (0 : Int) ≤ (k : Int) := by omega
      have hgw : g < wr.heap.size := Nat.lt_of_lt_of_le hgl hb.size
      have y0 := bR.cell 0 _ rfl
      have y1 := bR.cell 1 _ rfl
      have l0 := bM.lt
      have l1 := bR.lt
      have qx1 : ∀ m : Wd (fun w' => SameOn All wr w' ∧ Below w.heap.size w w'), m.val.cell? ⟨w.heap.size, 1, none⟩ = some (.slice (some ⟨g, off, none⟩) ne ce) := fun m => (World.cell?_of_block (m.ok.1.2 w.heap.size trivial l0)).trans xa1
      have qy0 : ∀ m : Wd (fun w' => SameOn All wr w' ∧ Below w.heap.size w w'), m.val.cell? ⟨w.heap.size + 1, 0, none⟩ = some (.string rs) := fun m => (World.cell?_of_block (m.ok.1.2 (w.heap.size + 1) trivial l1)).trans y0
      have qy1 : ∀ m : Wd (fun w' => SameOn All wr w' ∧ Below w.heap.size w w'), m.val.cell? ⟨w.heap.size + 1, 1, none⟩ = some (.int .i64 rn) := fun m => (World.cell?_of_block (m.ok.1.2 (w.heap.size + 1) trivial l1)).trans y1
      have qz0 : ∀ m : Wd (fun w' => SameOn All wr w' ∧ Below w.heap.size w w'), m.val.cell? ⟨g, off + k * 2, none⟩ = some (.string xs) := fun m => (World.cell?_of_block (m.ok.1.2 g trivial hgw)).trans a0
      have qz1 : ∀ m : Wd (fun w' => SameOn All wr w' ∧ Below w.heap.size w w'), m.val.cell? ⟨g, off + k * 2 + 1, none⟩ = some (.int .i64 xn) := fun m => (World.cell?_of_block (m.ok.1.2 g trivial hgw)).trans a1
      clear hb hcs hat hcsl y0 y1 l0 l1 bR bM a0 a1
      go_wp2_with fail
      have e1 := refG
      have e2 := refE
      have hCne : Nonempty (Wd (fun w' => SameOn All wr w' ∧ Below w.heap.size w w')) := ⟨⟨wr.drew, ⟨⟨Nat.le_refl _, fun _ _ _ => rfl⟩, HB.out.drew⟩⟩⟩
      refine wp_region_class (fun w' => SameOn All wr w' ∧ Below w.heap.size w w') (by kernel_rfl) (by kernel_rfl) ⟨⟨Nat.le_refl _, fun _ _ _ => rfl⟩, HB.out.drew⟩ ?_
      repeat (go_big_quiet_step (fail))
      refine wpQuiet_nil ?_
      rintro _ ⟨mq, rfl⟩
      have HB4 : Hid (Below w.heap.size w mq.val) := mq.ok.2
      have HS4 : Hid (SameOn All W1 mq.val) := hso.out.trans mq.ok.1
      generalize mq.val = w4 at HB4 HS4 ⊢
      generalize hcv : (xs.toList == rs.toList && xn == rn) = cv
      have HC2 : Hid (cv = false → (es.take (k + 1)).any (sameRf rs rn) = false) := fun h => anyT_succ _ es k _ hxk hall.out (show (xs.toList == rs.toList && xn == rn) = false from hcv.trans h)
      have HC3 : Hid (cv = true → es.any (sameRf rs rn) = true) := fun h => anyT_at _ es k _ hxk (show (xs.toList == rs.toList && xn == rn) = true from hcv.trans h)
      clear hcv
      cases cv with
      | false =>
        have HT' : Hid _ := HC2.out rfl
        clear HC2 HC3
        go_wp2_with fail
        exact ⟨⟨k + 1, by omega, by go_num, HT'.out, HS4.out, HB4.out⟩, by simp [intOf]; omega⟩
      | true =>
        have HF : Hid _ := HC3.out rfl
        clear HC2 HC3
        go_wp2_with fail
        go_ret
        exact ⟨by rw [HF.out]; rfl, HB4.out⟩
    · have HS : Hid (es.any (sameRf rs rn) = false) := by
        have := hall.out
        rwa [List.take_of_length_le (by rw [HN.out]; omega)] at this
      clear bM bR
      go_wp2
      go_ret
      exact ⟨by rw [HS.out]; rfl, HB.out⟩
end Go.Proofs.YtihffcphbcepoaaGreatDoor
/-
  The function and the clause at a place, by the specification: l07Find, l07Clause, by contract.
-/
namespace Go.Proofs.YtihffcphbcepoaaGreatDoor
open Go.ChangeShapes Go.WideShapes Go.ChangeAt Go.RowKit
set_option linter.unusedVariables false
set_option maxRecDepth 100000

/-- What is answered of a function at a place: the places of the module and of the function. -/
def FindR (ms : List Md) (q : Pl) (a b : Int) (ok : Bool) : Prop :=
  (ok = false ∧ fnOf ms q = none) ∨ (ok = true ∧ ∃ (k j : Nat) (m : Md) (f : Fn'), a = k ∧ b = j ∧ ms[k]? = some m ∧ ms.find? (named q.mod) = some m ∧ m.funs[j]? = some f ∧ m.funs.find? (sameR ⟨q.name, q.arity⟩) = some f)

def FindE (ms : List Md) (q : Pl) (e : Ending) : Prop := ∃ a b ok, e = .returned (.tuple #[.int .i64 a, .int .i64 b, .bool ok]) ∧ FindR ms q a b ok

theorem fnOf_at {ms : List Md} {q : Pl} {m : Md} {f : Fn'} (h : ms.find? (named q.mod) = some m) (hf : m.funs.find? (sameR ⟨q.name, q.arity⟩) = some f) : fnOf ms q = some f := by
  simp [fnOf, h, hf]
theorem fnOf_nom {ms : List Md} {q : Pl} (h : ms.any (named q.mod) = false) : fnOf ms q = none := by
  have : ms.find? (named q.mod) = none := by
    rw [List.find?_eq_none]
    intro x hx
    have := List.any_eq_false.1 h x hx
    simpa using this
  simp [fnOf, this]
theorem fnOf_nof {ms : List Md} {q : Pl} {m : Md} (h : ms.find? (named q.mod) = some m) (hf : m.funs.any (sameR ⟨q.name, q.arity⟩) = false) : fnOf ms q = none := by
  have : m.funs.find? (sameR ⟨q.name, q.arity⟩) = none := by
    rw [List.find?_eq_none]
    intro x hx
    have := List.any_eq_false.1 hf x hx
    simpa using this
  simp [fnOf, h, this]

set_option maxHeartbeats 16000000 in
theorem l07Find_any (d : Nat) (w : World) (v : Value) (ms : List Md) (q : Pl) (h : Rows w All 3 (HMd w All d) v ms) :
    Calls Tryz.prog 74 #[v, .agg #[.string q.mod, .string q.name, .int .i64 q.arity, .int .i64 q.clause]] w fun e w' => FindE ms q e ∧ Below w.heap.size w w' := by
  have HR : Hid (∀ w', Below w.heap.size w w' → Rows w' All 3 (HMd w' All d) v ms) := fun w' hw => h.mono (SameOn.of_below hw) (fun _ h => h) (fun _ _ _ h => h.mono (SameOn.of_below hw) (fun _ h => h))
  obtain ⟨W1, hW1⟩ : ∃ W1, W1 = w.alloc (.cells #[.string q.mod, .string q.name, .int .i64 q.arity, .int .i64 q.clause] 41) := ⟨_, rfl⟩
  have bA : Hid (Blk W1 w.heap.size #[.string q.mod, .string q.name, .int .i64 q.arity, .int .i64 q.clause] 41) := by show Blk _ _ _ _; rw [hW1]; exact Blk.new
  have B1 : Hid (Below w.heap.size w W1) := by show Below _ _ _; rw [hW1]; exact (Below.refl _ _).alloc (Nat.le_refl _) _
  have HW1 : Hid (W1 = w.alloc (.cells #[.string q.mod, .string q.name, .int .i64 q.arity, .int .i64 q.clause] 41)) := hW1
  have hlw := bA.out.lt
  have y0 := bA.out.cell 0 _ rfl
  clear hW1
  rcases findI_cases (named q.mod) ms with ⟨hno, hfi⟩ | ⟨k, x, hyes, hxk, hnx, hfi, hfd⟩
  · have HF : Hid (FindR ms q 0 0 false) := .inl ⟨rfl, fnOf_nom hno⟩
    have CM : Hid (Calls Tryz.prog 114 #[v, .string q.mod] W1 fun e w' => e = .returned (.int .i64 (-1)) ∧ w' = W1) := by
      have := l05Mod_any d W1 v ms q.mod (HR.out _ B1.out)
      rwa [hfi] at this
    clear hno hfi h
    go_enter Tryz.func74, Tryz.ntmps74
    go_wp2_with fail
    rw [← HW1.out]
    refine CM.out.mono ?_
    rintro e w2 ⟨rfl, rfl⟩
    go_wp2_with fail
    exact bodyPost_ret (v := .tuple #[.int .i64 0, .int .i64 (0), .bool false]) (by simp [results, Tryz.results74, go_sem]) rfl ⟨⟨0, 0, false, rfl, HF.out⟩, B1.out⟩
  · have CM : Hid (Calls Tryz.prog 114 #[v, .string q.mod] W1 fun e w' => e = .returned (.int .i64 (k : Nat)) ∧ w' = W1) := by
      have := l05Mod_any d W1 v ms q.mod (HR.out _ B1.out)
      rwa [hfi] at this
    have HK : Hid (ms[k]? = some x ∧ ms.find? (named q.mod) = some x) := ⟨hxk, hfd⟩
    obtain ⟨p, cap, rfl, hcl, hcm, hx⟩ := h
    obtain ⟨g, off, rfl, -, hgl, hat⟩ := hx (by intro h; rw [h] at hxk; simp at hxk)
    obtain ⟨cs, hcsl, hcs, hmd⟩ := hat k x hxk
    have hlt : k < ms.length := (List.getElem?_eq_some_iff.1 hxk).1
    have hnb : ms.length ≤ 9223372036854775807 := by unfold maxLen at hcm; omega
    have HMD : Hid (∀ w', Below w.heap.size w w' → HMd w' All d cs x) := fun w' hw => hmd.mono (SameOn.of_below hw) (fun _ h => h)
    obtain ⟨ev, fv, rfl, hxs, f0, f1⟩ := hmd
    obtain ⟨pe, ce, rfl, -⟩ := f0
    obtain ⟨pf, cf, rfl, -⟩ := f1
    have a0 := hcs 0 (by omega)
    have a1 := hcs 1 (by omega)
    have a2 := hcs 2 (by omega)
    rw [← B1.out.cell (p := ⟨g, _, none⟩) hgl] at a0 a1 a2
    simp at a0 a1 a2
    have hgw : g < W1.heap.size := Nat.lt_of_lt_of_le hgl B1.out.size
    have qa0 : ∀ m : Wd (fun w' => SameOn All W1 w' ∧ Below w.heap.size w w'), m.val.cell? ⟨g, off + k * 3, none⟩ = some (.string x.name) := fun m => (World.cell?_of_block (m.ok.1.2 g trivial hgw)).trans a0
    have qa1 : ∀ m : Wd (fun w' => SameOn All W1 w' ∧ Below w.heap.size w w'), m.val.cell? ⟨g, off + k * 3 + 1, none⟩ = some (.slice pe x.exports.length ce) := fun m => (World.cell?_of_block (m.ok.1.2 g trivial hgw)).trans a1
    have qa2 : ∀ m : Wd (fun w' => SameOn All W1 w' ∧ Below w.heap.size w w'), m.val.cell? ⟨g, off + k * 3 + 2, none⟩ = some (.slice pf x.funs.length cf) := fun m => (World.cell?_of_block (m.ok.1.2 g trivial hgw)).trans a2
    have qx1 : ∀ mw : Wd (fun w' => SameOn All W1 w' ∧ Below w.heap.size w w'), mw.val.cell? ⟨w.heap.size, 1, none⟩ = some (.string q.name) := fun mw => (World.cell?_of_block (mw.ok.1.2 w.heap.size trivial hlw)).trans (bA.out.cell 1 _ rfl)
    have qx2 : ∀ mw : Wd (fun w' => SameOn All W1 w' ∧ Below w.heap.size w w'), mw.val.cell? ⟨w.heap.size, 2, none⟩ = some (.int .i64 q.arity) := fun mw => (World.cell?_of_block (mw.ok.1.2 w.heap.size trivial hlw)).trans (bA.out.cell 2 _ rfl)
    generalize hn : ms.length = n at *
    have hki : (k : Int) < (n : Int) := by omega
    have hk0 : (0 : Int) ≤ (k : Int) := by omega
    have HFF : Hid (∃ fi : Int, findI (sameR ⟨q.name, q.arity⟩) x.funs = fi ∧ ((fi = -1 ∧ FindR ms q k fi false) ∨ (∃ j : Nat, fi = j ∧ FindR ms q k fi true))) := by
      rcases findI_cases (sameR ⟨q.name, q.arity⟩) x.funs with ⟨h1, h2⟩ | ⟨j, f, h1, h2, h3, h4, h5⟩
      · exact ⟨_, rfl, .inl ⟨h2, .inl ⟨rfl, fnOf_nof hfd h1⟩⟩⟩
      · exact ⟨_, rfl, .inr ⟨j, h4, .inr ⟨rfl, k, j, x, f, rfl, h4, hxk, hfd, h2, h5⟩⟩⟩
    obtain ⟨fi, hfe, hfr⟩ := HFF.out
    have HFE : Hid (findI (sameR ⟨q.name, q.arity⟩) x.funs = fi) := hfe
    have HFR : Hid ((fi = -1 ∧ FindR ms q k fi false) ∨ (∃ j : Nat, fi = j ∧ FindR ms q k fi true)) := hfr
    clear hn hfe hfr HFF hyes hxk hnx hfi hfd hcs hat hx hcsl a0 a1 a2
    go_enter Tryz.func74, Tryz.ntmps74
    go_wp2_with fail
    rw [← HW1.out]
    refine CM.out.mono ?_
    rintro e w2 ⟨rfl, rfl⟩
    go_wp2_with fail
    have hCne : Nonempty (Wd (fun w' => SameOn All w2 w' ∧ Below w.heap.size w w')) := ⟨⟨w2.drew, ⟨⟨Nat.le_refl _, fun _ _ _ => rfl⟩, B1.out.drew⟩⟩⟩
    refine wp_region_class (fun w' => SameOn All w2 w' ∧ Below w.heap.size w w') (by kernel_rfl) (by kernel_rfl) ⟨⟨Nat.le_refl _, fun _ _ _ => rfl⟩, B1.out.drew⟩ ?_
    repeat (go_big_quiet_step (first | (rename_i mm; go_at_call 87; refine (l02FindI_any d _ _ x q.name q.arity (HMD.out _ mm.ok.2)).mono ?_; rintro e w1 ⟨rfl, hb1⟩; exact ⟨by rw [HFE.out], ⟨⟨w1, ⟨(SameOn.trans mm.ok.1 (SameOn.of_below hb1)), mm.ok.2.trans (hb1.mono mm.ok.2.size)⟩⟩, rfl⟩⟩)))
    refine wpQuiet_nil ?_
    rintro _ ⟨mq, rfl⟩
    have HB4 : Hid (Below w.heap.size w mq.val) := mq.ok.2
    generalize mq.val = w4 at HB4 ⊢
    rcases HFR.out with ⟨rfl, hr⟩ | ⟨j, rfl, hr⟩
    · have HRR : Hid (FindR ms q k (-1) false) := hr
      clear hr HFR
      go_wp2_with fail
      exact bodyPost_ret (v := .tuple #[.int .i64 (k : Nat), .int .i64 (-1), .bool false]) (by simp [results, Tryz.results74, go_sem]) rfl ⟨⟨k, -1, false, rfl, HRR.out⟩, HB4.out⟩
    · have HRR : Hid (FindR ms q k j true) := hr
      have hj0 : ¬ (j : Int) < 0 := by omega
      have hj1 : (0 : Int) ≤ (j : Int) := by omega
      clear hr HFR
      go_wp2_with fail
      exact bodyPost_ret (v := .tuple #[.int .i64 (k : Nat), .int .i64 (j : Nat), .bool true]) (by simp [results, Tryz.results74, go_sem]) rfl ⟨⟨k, j, true, rfl, HRR.out⟩, HB4.out⟩

/-- What is answered of a clause at a place. -/
def ClR (ms : List Md) (q : Pl) (w : World) (d : Nat) (cs : List Value) (ok : Bool) : Prop :=
  (ok = false ∧ clauseOf ms q = none ∧ cs = [.slice none 0 0, .slice none 0 0]) ∨ (ok = true ∧ ∃ c, clauseOf ms q = some c ∧ HCl w All (HEx w All d) cs c)
def ClE (ms : List Md) (q : Pl) (w : World) (d : Nat) (e : Ending) : Prop := ∃ pv bv ok, e = .returned (.tuple #[.agg #[pv, bv], .bool ok]) ∧ ClR ms q w d [pv, bv] ok

theorem clauseOf_none {ms : List Md} {q : Pl} (h : fnOf ms q = none) : clauseOf ms q = none := by simp [clauseOf, h]
theorem clauseOf_out {ms : List Md} {q : Pl} {f : Fn'} (h : fnOf ms q = some f) (hi : inB q.clause 0 (f.clauses.length - 1) = false) : clauseOf ms q = none := by simp [clauseOf, h, hi]
theorem clauseOf_in {ms : List Md} {q : Pl} {f : Fn'} {j : Nat} (h : fnOf ms q = some f) (hj : q.clause = j) (hi : inB q.clause 0 (f.clauses.length - 1) = true) : clauseOf ms q = f.clauses[j]? := by
  simp [clauseOf, h, hi]
  rw [hj]; simp

set_option maxHeartbeats 16000000 in
theorem l07Clause_any (d : Nat) (w : World) (v : Value) (ms : List Md) (q : Pl) (h : Rows w All 3 (HMd w All d) v ms) :
    Calls Tryz.prog 39 #[v, .agg #[.string q.mod, .string q.name, .int .i64 q.arity, .int .i64 q.clause]] w fun e w' => ClE ms q w' d e ∧ Below w.heap.size w w' := by
  have HR : Hid (∀ w', Below w.heap.size w w' → Rows w' All 3 (HMd w' All d) v ms) := fun w' hw => h.mono (SameOn.of_below hw) (fun _ h => h) (fun _ _ _ h => h.mono (SameOn.of_below hw) (fun _ h => h))
  obtain ⟨W1, hW1⟩ : ∃ W1, W1 = (w.alloc (.cells #[.string q.mod, .string q.name, .int .i64 q.arity, .int .i64 q.clause] 41)).alloc (.cells #[.slice none 0 0, .slice none 0 0] 78) := ⟨_, rfl⟩
  have bA : Hid (Blk W1 w.heap.size #[.string q.mod, .string q.name, .int .i64 q.arity, .int .i64 q.clause] 41) := by show Blk _ _ _ _; rw [hW1]; exact Blk.new.alloc
  have bR : Hid (Blk W1 (w.heap.size + 1) #[.slice none 0 0, .slice none 0 0] 78) := by
    show Blk _ _ _ _; rw [hW1]
    have := Blk.new (w := w.alloc (.cells #[.string q.mod, .string q.name, .int .i64 q.arity, .int .i64 q.clause] 41)) (cs := #[.slice none 0 0, .slice none 0 0]) (t := 78)
    rwa [alloc_hs] at this
  have B1 : Hid (Below w.heap.size w W1) := by show Below _ _ _; rw [hW1]; exact ((Below.refl _ _).alloc (Nat.le_refl _) _).alloc (by simp) _
  have HW1 : Hid (W1 = (w.alloc (.cells #[.string q.mod, .string q.name, .int .i64 q.arity, .int .i64 q.clause] 41)).alloc (.cells #[.slice none 0 0, .slice none 0 0] 78)) := hW1
  have CF : Hid (Calls Tryz.prog 74 #[v, .agg #[.string q.mod, .string q.name, .int .i64 q.arity, .int .i64 q.clause]] W1 fun e w' => FindE ms q e ∧ Below W1.heap.size W1 w') := l07Find_any d W1 v ms q (HR.out _ B1.out)
  have y0 := bA.out.cell 0 _ rfl
  have y1 := bA.out.cell 1 _ rfl
  have y2 := bA.out.cell 2 _ rfl
  have y3 := bA.out.cell 3 _ rfl
  clear hW1
  obtain ⟨p, cap, rfl, hcl, hcm, hx⟩ := h
  have HX : Hid (ms ≠ [] → ∃ g off, p = some ⟨g, off, none⟩ ∧ All g ∧ g < w.heap.size ∧ ∀ i x, ms[i]? = some x → ∃ cs, cs.length = 3 ∧ (∀ j, j < 3 → w.cell? ⟨g, off + i * 3 + j, none⟩ = cs[j]?) ∧ HMd w All d cs x) := hx
  have HLM : Hid (ms.length ≤ 9223372036854775807) := by show _ ≤ _; unfold maxLen at hcm; omega
  clear hx
  go_enter Tryz.func39, Tryz.ntmps39
  go_wp2_with fail
  rw [← HW1.out]
  refine CF.out.mono ?_
  rintro e w2 ⟨⟨a, b, ok, rfl, hr⟩, hb⟩
  have HFR : Hid (FindR ms q a b ok) := hr
  have B2 : Hid (Below w.heap.size w w2) := B1.out.trans (hb.mono B1.out.size)
  have bA2 : Hid (Blk w2 w.heap.size #[.string q.mod, .string q.name, .int .i64 q.arity, .int .i64 q.clause] 41) := bA.out.next hb
  have bR2 : Hid (Blk w2 (w.heap.size + 1) #[.slice none 0 0, .slice none 0 0] 78) := bR.out.next hb
  have hlw := bA2.out.lt
  clear hr hb y0 y1 y2 y3 bA bR CF HW1 B1
  rcases HFR.out with ⟨rfl, hno⟩ | ⟨rfl, k, j, m, f, rfl, rfl, hxk, hfm, hfk, hff⟩
  · have HC : Hid (clauseOf ms q = none) := clauseOf_none hno
    clear hno HFR
    go_wp2_with fail
    have hCne : Nonempty (Wd (fun w' => SameOn All w2 w' ∧ Below w.heap.size w w')) := ⟨⟨w2.drew, ⟨⟨Nat.le_refl _, fun _ _ _ => rfl⟩, B2.out.drew⟩⟩⟩
    refine wp_region_class (fun w' => SameOn All w2 w' ∧ Below w.heap.size w w') (by kernel_rfl) (by kernel_rfl) ⟨⟨Nat.le_refl _, fun _ _ _ => rfl⟩, B2.out.drew⟩ ?_
    repeat (go_big_quiet_step (fail))
    refine wpQuiet_nil ?_
    rintro _ ⟨mq, rfl⟩
    have HB4 : Hid (Below w.heap.size w mq.val) := mq.ok.2
    have HS4 : Hid (SameOn All w2 mq.val) := mq.ok.1
    generalize mq.val = w4 at HB4 HS4 ⊢
    have bR4 : Hid (Blk w4 (w.heap.size + 1) #[.slice none 0 0, .slice none 0 0] 78) := bR2.out.same_on HS4.out
    have z0 := bR4.out.cell 0 _ rfl
    have z1 := bR4.out.cell 1 _ rfl
    have f0 := bR4.out.frozen 0
    have f1 := bR4.out.frozen 1
    go_wp2_with fail
    have hz : Below w.heap.size w ((w4.setCell ⟨w.heap.size + 1, 0, none⟩ (.slice none 0 0)).setCell ⟨w.heap.size + 1, 1, none⟩ (.slice none 0 0)) := (HB4.out.setCell (by show _ ≤ _ + 1; omega) _).setCell (by show _ ≤ _ + 1; omega) _
    have bz : Blk ((w4.setCell ⟨w.heap.size + 1, 0, none⟩ (.slice none 0 0)).setCell ⟨w.heap.size + 1, 1, none⟩ (.slice none 0 0)) (w.heap.size + 1) #[.slice none 0 0, .slice none 0 0] 78 := (bR4.out.same rfl).same rfl
    clear z0 z1
    have z0 := bz.cell 0 _ rfl
    have z1 := bz.cell 1 _ rfl
    exact bodyPost_ret (v := .tuple #[.agg #[.slice none 0 0, .slice none 0 0], .bool false]) (by simp [results, Tryz.results39, go_sem, z0, z1]) rfl ⟨⟨_, _, false, rfl, .inl ⟨rfl, HC.out, rfl⟩⟩, hz⟩
  · have HFN : Hid (fnOf ms q = some f) := fnOf_at hfm hff
    obtain ⟨g, off, rfl, -, hgl, hat⟩ := HX.out (by intro h; rw [h] at hxk; simp at hxk)
    obtain ⟨cs, hcsl, hcs, ev, fv, rfl, hxs, f0, f1⟩ := hat k m hxk
    obtain ⟨pe, ce, rfl, -⟩ := f0
    obtain ⟨pf, cf, rfl, hclf, hcmf, hxf⟩ := f1
    obtain ⟨gf, of, rfl, -, hgf, hatf⟩ := hxf (by intro h; rw [h] at hfk; simp at hfk)
    obtain ⟨fcs, hfl, hfcs, cv, rfl, -, -, hcv⟩ := hatf j f hfk
    obtain ⟨pc, cc, rfl, hclc, hcmc, hxc⟩ := hcv
    have a2 := hcs 2 (by omega)
    have e2 := hfcs 2 (by omega)
    rw [← B2.out.cell (p := ⟨g, _, none⟩) hgl] at a2
    rw [← B2.out.cell (p := ⟨gf, _, none⟩) hgf] at e2
    simp at a2 e2
    have hgw : g < w2.heap.size := Nat.lt_of_lt_of_le hgl B2.out.size
    have hgfw : gf < w2.heap.size := Nat.lt_of_lt_of_le hgf B2.out.size
    have qa2 : ∀ m' : Wd (fun w' => SameOn All w2 w' ∧ Below w.heap.size w w'), m'.val.cell? ⟨g, off + k * 3 + 2, none⟩ = some (.slice (some ⟨gf, of, none⟩) m.funs.length cf) := fun m' => (World.cell?_of_block (m'.ok.1.2 g trivial hgw)).trans a2
    have qe2 : ∀ m' : Wd (fun w' => SameOn All w2 w' ∧ Below w.heap.size w w'), m'.val.cell? ⟨gf, of + j * 3 + 2, none⟩ = some (.slice pc f.clauses.length cc) := fun m' => (World.cell?_of_block (m'.ok.1.2 gf trivial hgfw)).trans e2
    have qx3 : ∀ m' : Wd (fun w' => SameOn All w2 w' ∧ Below w.heap.size w w'), m'.val.cell? ⟨w.heap.size, 3, none⟩ = some (.int .i64 q.clause) := fun m' => (World.cell?_of_block (m'.ok.1.2 w.heap.size trivial hlw)).trans (bA2.out.cell 3 _ rfl)
    have hki : (k : Int) < (ms.length : Int) := by have := (List.getElem?_eq_some_iff.1 hxk).1; omega
    have hk0 : (0 : Int) ≤ (k : Int) := by omega
    have hji : (j : Int) < (m.funs.length : Int) := by have := (List.getElem?_eq_some_iff.1 hfk).1; omega
    have hj0 : (0 : Int) ≤ (j : Int) := by omega
    have hlm := HLM.out
    have hlf : m.funs.length ≤ 9223372036854775807 := by unfold maxLen at hcmf; omega
    have hlc : f.clauses.length ≤ 9223372036854775807 := by unfold maxLen at hcmc; omega
    generalize hn : ms.length = n at *
    generalize hnf : m.funs.length = nf at *
    generalize hnc : f.clauses.length = nc at *
    have HNC : Hid (f.clauses.length = nc) := hnc
    clear hn hnf hnc hcs hat hcsl hatf hfcs hfl HFR hxf
    cases hin : inB q.clause 0 ((nc : Int) - 1) with
    | false =>
      have CI : Hid (∀ w', Calls Tryz.prog 75 #[.int .i64 q.clause, .int .i64 0, .int .i64 ((nc : Int) - 1)] w' fun e w'' => e = .returned (.bool false) ∧ w'' = w') := fun w' => by
        have := l01In_any q.clause 0 ((nc : Int) - 1) w'
        rwa [hin] at this
      have HC : Hid (clauseOf ms q = none) := clauseOf_out HFN.out (by rw [HNC.out]; exact hin)
      clear hin
      go_wp2_with fail
      have hCne : Nonempty (Wd (fun w' => SameOn All w2 w' ∧ Below w.heap.size w w')) := ⟨⟨w2.drew, ⟨⟨Nat.le_refl _, fun _ _ _ => rfl⟩, B2.out.drew⟩⟩⟩
      refine wp_region_class (fun w' => SameOn All w2 w' ∧ Below w.heap.size w w') (by kernel_rfl) (by kernel_rfl) ⟨⟨Nat.le_refl _, fun _ _ _ => rfl⟩, B2.out.drew⟩ ?_
      repeat (go_big_quiet_step (first | (rename_i mm; go_at_call 75; refine (CI.out _).mono ?_; rintro e w1 ⟨rfl, rfl⟩; exact ⟨rfl, ⟨mm, rfl⟩⟩)))
      refine wpQuiet_nil ?_
      rintro _ ⟨mq, rfl⟩
      have HB4 : Hid (Below w.heap.size w mq.val) := mq.ok.2
      have HS4 : Hid (SameOn All w2 mq.val) := mq.ok.1
      generalize mq.val = w4 at HB4 HS4 ⊢
      have bR4 : Hid (Blk w4 (w.heap.size + 1) #[.slice none 0 0, .slice none 0 0] 78) := bR2.out.same_on HS4.out
      have z0 := bR4.out.cell 0 _ rfl
      have z1 := bR4.out.cell 1 _ rfl
      have f0 := bR4.out.frozen 0
      have f1 := bR4.out.frozen 1
      go_wp2_with fail
      have hz : Below w.heap.size w ((w4.setCell ⟨w.heap.size + 1, 0, none⟩ (.slice none 0 0)).setCell ⟨w.heap.size + 1, 1, none⟩ (.slice none 0 0)) := (HB4.out.setCell (by show _ ≤ _ + 1; omega) _).setCell (by show _ ≤ _ + 1; omega) _
      have bz : Blk ((w4.setCell ⟨w.heap.size + 1, 0, none⟩ (.slice none 0 0)).setCell ⟨w.heap.size + 1, 1, none⟩ (.slice none 0 0)) (w.heap.size + 1) #[.slice none 0 0, .slice none 0 0] 78 := (bR4.out.same rfl).same rfl
      clear z0 z1
      have z0 := bz.cell 0 _ rfl
      have z1 := bz.cell 1 _ rfl
      exact bodyPost_ret (v := .tuple #[.agg #[.slice none 0 0, .slice none 0 0], .bool false]) (by simp [results, Tryz.results39, go_sem, z0, z1]) rfl ⟨⟨_, _, false, rfl, .inl ⟨rfl, HC.out, rfl⟩⟩, hz⟩
    | true =>
      have hin2 := hin
      simp only [inB, decide_eq_true_eq] at hin2
      obtain ⟨i, hi⟩ : ∃ i : Nat, q.clause = i := ⟨q.clause.toNat, by omega⟩
      obtain ⟨c, hck⟩ : ∃ c, f.clauses[i]? = some c := ⟨f.clauses[i]'(by rw [HNC.out]; omega), List.getElem?_eq_getElem _⟩
      have HC : Hid (clauseOf ms q = some c) := by
        show _ = _
        rw [clauseOf_in HFN.out hi (by rw [HNC.out]; exact hin)]
        exact hck
      obtain ⟨gc, oc, rfl, -, hgc, hatc⟩ := hxc (by intro h; rw [h] at hck; simp at hck)
      obtain ⟨ccs, hccl, hccs, hcl0⟩ := hatc i c hck
      have HCL : Hid (∀ w', Below w.heap.size w w' → HCl w' All (HEx w' All d) ccs c) := fun w' hw => hcl0.mono (SameOn.of_below hw) (fun _ h => h) (fun _ _ h => h.mono (SameOn.of_below hw) (fun _ h => h))
      obtain ⟨pv, bv, rfl, hpv, hbv⟩ := hcl0
      obtain ⟨ppv, cpv, rfl, -⟩ := hpv
      obtain ⟨pbv, cbv, rfl, -⟩ := hbv
      have c0 := hccs 0 (by omega)
      have c1 := hccs 1 (by omega)
      have hgcw : gc < w2.heap.size := Nat.lt_of_lt_of_le hgc B2.out.size
      rw [← B2.out.cell (p := ⟨gc, _, none⟩) hgc] at c0 c1
      simp at c0 c1
      have hii : (i : Int) < (nc : Int) := by omega
      have hi0 : (0 : Int) ≤ (i : Int) := by omega
      have CI : Hid (∀ w', Calls Tryz.prog 75 #[.int .i64 i, .int .i64 0, .int .i64 ((nc : Int) - 1)] w' fun e w'' => e = .returned (.bool true) ∧ w'' = w') := fun w' => by
        have := l01In_any (i : Int) 0 ((nc : Int) - 1) w'
        rw [hi] at hin
        rwa [hin] at this
      rw [hi] at qx3
      clear hin hin2 hatc hccs hccl hxc hck
      go_wp2_with fail
      have hCne : Nonempty (Wd (fun w' => SameOn All w2 w' ∧ Below w.heap.size w w')) := ⟨⟨w2.drew, ⟨⟨Nat.le_refl _, fun _ _ _ => rfl⟩, B2.out.drew⟩⟩⟩
      refine wp_region_class (fun w' => SameOn All w2 w' ∧ Below w.heap.size w w') (by kernel_rfl) (by kernel_rfl) ⟨⟨Nat.le_refl _, fun _ _ _ => rfl⟩, B2.out.drew⟩ ?_
      repeat (go_big_quiet_step (first | (rename_i mm; go_at_call 75; refine (CI.out _).mono ?_; rintro e w1 ⟨rfl, rfl⟩; exact ⟨rfl, ⟨mm, rfl⟩⟩)))
      refine wpQuiet_nil ?_
      rintro _ ⟨mq, rfl⟩
      have HB4 : Hid (Below w.heap.size w mq.val) := mq.ok.2
      have HS4 : Hid (SameOn All w2 mq.val) := mq.ok.1
      generalize mq.val = w4 at HB4 HS4 ⊢
      have bR4 : Hid (Blk w4 (w.heap.size + 1) #[.slice none 0 0, .slice none 0 0] 78) := bR2.out.same_on HS4.out
      have z0 := bR4.out.cell 0 _ rfl
      have z1 := bR4.out.cell 1 _ rfl
      have f0 := bR4.out.frozen 0
      have f1 := bR4.out.frozen 1
      have k2 := (World.cell?_of_block (HS4.out.2 g trivial hgw)).trans a2
      have k3 := (World.cell?_of_block (HS4.out.2 gf trivial hgfw)).trans e2
      have k4 := (World.cell?_of_block (HS4.out.2 gc trivial hgcw)).trans c0
      have k5 := (World.cell?_of_block (HS4.out.2 gc trivial hgcw)).trans c1
      have k6 := (World.cell?_of_block (HS4.out.2 w.heap.size trivial hlw)).trans (bA2.out.cell 3 _ rfl)
      clear qa2 qe2 qx3 a2 e2 c0 c1
      have ne1 : w.heap.size + 1 ≠ g := by omega
      have ne2 : w.heap.size + 1 ≠ gf := by omega
      have ne3 : w.heap.size + 1 ≠ gc := by omega
      have ne4 : w.heap.size + 1 ≠ w.heap.size := by omega
      rw [hi] at k6
      go_wp2_with fail
      go_region_held3 (fun w' => w'.cell? ⟨g, off + k * 3 + 2, none⟩ = some (.slice (some ⟨gf, of, none⟩) nf cf) ∧ w'.cell? ⟨gf, of + j * 3 + 2, none⟩ = some (.slice (some ⟨gc, oc, none⟩) nc cc) ∧ w'.cell? ⟨gc, oc + i * 2, none⟩ = some (.slice ppv c.1.length cpv) ∧ w'.cell? ⟨gc, oc + i * 2 + 1, none⟩ = some (.slice pbv c.2.length cbv) ∧ w'.cell? ⟨w.heap.size, 3, none⟩ = some (.int .i64 i))
        (go_keep) (fail)
      go_split_ands
      go_wp2_with fail
      have hz : Below w.heap.size w ((w4.setCell ⟨w.heap.size + 1, 0, none⟩ (.slice ppv c.1.length cpv)).setCell ⟨w.heap.size + 1, 1, none⟩ (.slice pbv c.2.length cbv)).drew := ((HB4.out.setCell (by show _ ≤ _ + 1; omega) _).setCell (by show _ ≤ _ + 1; omega) _).drew
      have bz : Blk ((w4.setCell ⟨w.heap.size + 1, 0, none⟩ (.slice ppv c.1.length cpv)).setCell ⟨w.heap.size + 1, 1, none⟩ (.slice pbv c.2.length cbv)).drew (w.heap.size + 1) #[.slice ppv c.1.length cpv, .slice pbv c.2.length cbv] 78 := (bR4.out.same rfl).same rfl
      have y0 := bz.cell 0 _ rfl
      have y1 := bz.cell 1 _ rfl
      exact bodyPost_ret (v := .tuple #[.agg #[.slice ppv c.1.length cpv, .slice pbv c.2.length cbv], .bool true]) (by simp [results, Tryz.results39, go_sem, y0, y1]) rfl ⟨⟨_, _, true, rfl, .inr ⟨rfl, c, HC.out, HCL.out _ hz⟩⟩, hz⟩
end Go.Proofs.YtihffcphbcepoaaGreatDoor
/-
  The program's clauseAt, by contract: a pointer into the program that is handed in. Condition: no two modules of one name.
-/
namespace Go.Proofs.YtihffcphbcepoaaGreatDoor
open Go.ChangeShapes Go.WideShapes Go.ChangeAt Go.RowKit
set_option linter.unusedVariables false
set_option maxRecDepth 100000

theorem fnOf_no {ms : List Md} {q : Pl} (h : ms.any (hasAt q) = false) : fnOf ms q = none := by
  unfold fnOf
  cases hf : ms.find? (named q.mod) with
  | none => rfl
  | some m =>
    have hm := List.mem_of_find?_eq_some hf
    have hn := List.find?_some hf
    have h1 := List.any_eq_false.1 h m hm
    simp only [hasAt, hn, Bool.true_and, Bool.not_eq_true] at h1
    show m.funs.find? _ = none
    rw [List.find?_eq_none]
    intro x hx
    have := List.any_eq_false.1 h1 x hx
    simpa using this
/-- No two modules of one name. -/
def OneName (ms : List Md) : Prop := ∀ (s : ByteArray) (k : Nat) (m : Md), ms[k]? = some m → named s m = true → ms.find? (named s) = some m
theorem FunP.fn {d : Nat} {ms : List Md} {q : Pl} {v : Value} {w : World} {gf o k j : Nat} {m : Md} {f : Fn'} (h : FunP d ms q v w gf o k j m f) (hu : OneName ms) : fnOf ms q = some f :=
  fnOf_at (hu _ k m h.at_k h.nm) h.first

theorem less_chain : ∀ {a b c : List UInt8}, Op.bytesLess a b = true → Op.bytesLess b c = true → Op.bytesLess a c = true
  | [], [], _, h, _ => by simp [Op.bytesLess] at h
  | _ :: _, [], _, h, _ => by simp [Op.bytesLess] at h
  | _, _ :: _, [], _, h => by simp [Op.bytesLess] at h
  | [], _ :: _, _ :: _, _, _ => rfl
  | x :: a, y :: b, z :: c, h, k => by
    simp only [Op.bytesLess, Bool.or_eq_true, decide_eq_true_eq, Bool.and_eq_true, beq_iff_eq] at h k ⊢
    rw [UInt8.lt_iff_toNat_lt] at h k ⊢
    rcases h with h | ⟨rfl, h⟩ <;> rcases k with k | ⟨rfl, k⟩
    · left; omega
    · left; exact h
    · left; exact k
    · exact Or.inr ⟨rfl, less_chain h k⟩
theorem less_self : ∀ (a : List UInt8), Op.bytesLess a a = false
  | [] => by simp [Op.bytesLess]
  | x :: a => by simp [Op.bytesLess, less_self a]
theorem pgOk_less {d : Nat} {ms : List Md} (h : pgOk d ms = true) {j : Nat} {b : Md} : ∀ {i : Nat} {a : Md}, i < j → ms[i]? = some a → ms[j]? = some b → Op.bytesLess a.name.toList b.name.toList = true := by
  intro i a hij hi hj
  have hall : ∀ k, k < ms.length → mdsAt d ms k = true := by
    simp only [pgOk, Bool.and_eq_true, List.all_eq_true] at h
    exact fun k hk => h.2 k (List.mem_range.2 hk)
  induction j generalizing b with
  | zero => omega
  | succ j ih =>
    have hl := (List.getElem?_eq_some_iff.1 hj).1
    obtain ⟨c, hc⟩ : ∃ c, ms[j]? = some c := ⟨ms[j]'(by omega), List.getElem?_eq_getElem _⟩
    have h1 := hall (j + 1) hl
    rw [mdsAt_succ hc hj, Bool.and_eq_true] at h1
    by_cases hij' : i = j
    · subst hij'
      obtain rfl := Option.some.inj (hc.symm.trans hi)
      exact h1.2
    · exact less_chain (ih (by omega) hc) h1.2
theorem pgOk_one {d : Nat} {ms : List Md} (h : pgOk d ms = true) : OneName ms := by
  intro s k m hk hn
  obtain ⟨hl, he⟩ := List.getElem?_eq_some_iff.1 hk
  rw [List.find?_eq_some_iff_getElem]
  refine ⟨hn, k, hl, he, fun j hj => ?_⟩
  have hj' : ms[j]? = some ms[j] := List.getElem?_eq_getElem _
  have h1 := pgOk_less h hj hj' hk
  cases hq : named s ms[j] with
  | false => rfl
  | true =>
    have e1 : ms[j].name.toList = s.toList := by simpa [named] using hq
    have e2 : m.name.toList = s.toList := by simpa [named] using hn
    rw [e1, e2, less_self] at h1
    cases h1

/-- A pointer to a clause of the program v. -/
def ClP (d : Nat) (ms : List Md) (q : Pl) (v : Value) (w : World) (gc o : Nat) (c : Cl) : Prop :=
  ∃ gf og k j m f, FunP d ms q v w gf og k j m f ∧ ∃ (i oc cc : Nat), q.clause = i ∧ f.clauses[i]? = some c ∧ gc < w.heap.size ∧ w.cell? ⟨gf, og + 2, none⟩ = some (.slice (some ⟨gc, oc, none⟩) f.clauses.length cc) ∧ o = oc + i * 2 ∧
    ∃ cs, cs.length = 2 ∧ (∀ i, i < 2 → w.cell? ⟨gc, o + i, none⟩ = cs[i]?) ∧ HCl w All (HEx w All d) cs c
def ClQ (d : Nat) (ms : List Md) (q : Pl) (v : Value) (w : World) (e : Ending) : Prop :=
  (e = .returned (.pointer none) ∧ clauseOf ms q = none) ∨ ∃ gc o c, e = .returned (.pointer (some ⟨gc, o, none⟩)) ∧ clauseOf ms q = some c ∧ ClP d ms q v w gc o c

theorem FunP.same {d : Nat} {ms : List Md} {q : Pl} {v : Value} {w w' : World} {gf o k j : Nat} {m : Md} {f : Fn'} (h : FunP d ms q v w gf o k j m f) (hb : SameOn All w w') : FunP d ms q v w' gf o k j m f := by
  obtain ⟨g, off, cap, of, cf, h1, h2, h3⟩ := h.lies
  obtain ⟨cs, c1, c2, c3⟩ := h.is
  have hgl : g < w.heap.size := by
    unfold World.cell? at h2
    split at h2
    · rename_i heq; exact (Array.getElem?_eq_some_iff.1 heq).1
    · cases h2
  refine ⟨h.at_k, h.nm, h.at_j, h.first, Nat.lt_of_lt_of_le h.lt hb.1, ⟨g, off, cap, of, cf, h1, (World.cell?_of_block (hb.2 g trivial hgl)).trans h2, h3⟩, ⟨cs, c1, fun i hi => (World.cell?_of_block (hb.2 gf trivial h.lt)).trans (c2 i hi), c3.mono hb (fun _ h => h)⟩⟩

set_option maxHeartbeats 16000000 in
theorem clauseAt_any (d : Nat) (w : World) (v : Value) (ms : List Md) (q : Pl) (h : Rows w All 3 (HMd w All d) v ms) (hu : OneName ms) :
    Calls Tryz.prog 44 #[v, .agg #[.string q.mod, .string q.name, .int .i64 q.arity, .int .i64 q.clause]] w fun e w' => ClQ d ms q v w' e ∧ Below w.heap.size w w' := by
  have HU : Hid (OneName ms) := hu
  have HR : Hid (∀ w', Below w.heap.size w w' → Rows w' All 3 (HMd w' All d) v ms) := fun w' hw => h.mono (SameOn.of_below hw) (fun _ h => h) (fun _ _ _ h => h.mono (SameOn.of_below hw) (fun _ h => h))
  obtain ⟨W1, hW1⟩ : ∃ W1, W1 = w.alloc (.cells #[.string q.mod, .string q.name, .int .i64 q.arity, .int .i64 q.clause] 41) := ⟨_, rfl⟩
  have bA : Hid (Blk W1 w.heap.size #[.string q.mod, .string q.name, .int .i64 q.arity, .int .i64 q.clause] 41) := by show Blk _ _ _ _; rw [hW1]; exact Blk.new
  have B1 : Hid (Below w.heap.size w W1) := by show Below _ _ _; rw [hW1]; exact (Below.refl _ _).alloc (Nat.le_refl _) _
  have HW1 : Hid (W1 = w.alloc (.cells #[.string q.mod, .string q.name, .int .i64 q.arity, .int .i64 q.clause] 41)) := hW1
  have CF : Hid (Calls Tryz.prog 80 #[v, .agg #[.string q.mod, .string q.name, .int .i64 q.arity, .int .i64 q.clause]] W1 fun e w' => FunE d ms q v w' e ∧ Below W1.heap.size W1 w') := funAt_any d W1 v ms q (HR.out _ B1.out)
  have y0 := bA.out.cell 0 _ rfl
  have y1 := bA.out.cell 1 _ rfl
  have y2 := bA.out.cell 2 _ rfl
  have y3 := bA.out.cell 3 _ rfl
  obtain ⟨p, cap, rfl, -⟩ := h
  clear hW1 hu
  go_enter Tryz.func44, Tryz.ntmps44
  go_wp2_with fail
  rw [← HW1.out]
  refine CF.out.mono ?_
  rintro e w2 ⟨hr, hb⟩
  have B2 : Hid (Below w.heap.size w w2) := B1.out.trans (hb.mono B1.out.size)
  have bA2 : Hid (Blk w2 w.heap.size #[.string q.mod, .string q.name, .int .i64 q.arity, .int .i64 q.clause] 41) := bA.out.next hb
  have hlw := bA2.out.lt
  clear hb y0 y1 y2 y3 bA CF HW1 B1
  rcases hr with ⟨rfl, hno⟩ | ⟨gf, og, k, j, m, f, rfl, hP⟩
  · have HC : Hid (clauseOf ms q = none) := clauseOf_none (fnOf_no hno)
    clear hno
    go_wp2_with fail
    have hCne : Nonempty (Wd (fun w' => SameOn All w2 w' ∧ Below w.heap.size w w')) := ⟨⟨w2.drew, ⟨⟨Nat.le_refl _, fun _ _ _ => rfl⟩, B2.out.drew⟩⟩⟩
    refine wp_region_class (fun w' => SameOn All w2 w' ∧ Below w.heap.size w w') (by kernel_rfl) (by kernel_rfl) ⟨⟨Nat.le_refl _, fun _ _ _ => rfl⟩, B2.out.drew⟩ ?_
    repeat (go_big_quiet_step (fail))
    refine wpQuiet_nil ?_
    rintro _ ⟨mq, rfl⟩
    have HB4 : Hid (Below w.heap.size w mq.val) := mq.ok.2
    have HS4 : Hid (SameOn All w2 mq.val) := mq.ok.1
    generalize mq.val = w4 at HB4 HS4 ⊢
    go_wp2_with fail
    go_ret
    exact ⟨.inl ⟨rfl, HC.out⟩, HB4.out⟩
  · have HFN : Hid (fnOf ms q = some f) := hP.fn HU.out
    have HP : Hid (FunP d ms q (.slice p ms.length cap) w2 gf og k j m f) := hP
    obtain ⟨fcs, hfl, hfcs, cv, rfl, -, -, hcv⟩ := hP.is
    obtain ⟨pc, cc, rfl, hclc, hcmc, hxc⟩ := hcv
    have hgfw := hP.lt
    have e2 := hfcs 2 (by omega)
    simp at e2
    have qe2 : ∀ m' : Wd (fun w' => SameOn All w2 w' ∧ Below w.heap.size w w'), m'.val.cell? ⟨gf, og + 2, none⟩ = some (.slice pc f.clauses.length cc) := fun m' => (World.cell?_of_block (m'.ok.1.2 gf trivial hgfw)).trans e2
    have qx3 : ∀ m' : Wd (fun w' => SameOn All w2 w' ∧ Below w.heap.size w w'), m'.val.cell? ⟨w.heap.size, 3, none⟩ = some (.int .i64 q.clause) := fun m' => (World.cell?_of_block (m'.ok.1.2 w.heap.size trivial hlw)).trans (bA2.out.cell 3 _ rfl)
    have hlc : f.clauses.length ≤ 9223372036854775807 := by unfold maxLen at hcmc; omega
    generalize hnc : f.clauses.length = nc at *
    have HNC : Hid (f.clauses.length = nc) := hnc
    clear hnc hfcs hfl hP
    cases hin : inB q.clause 0 ((nc : Int) - 1) with
    | false =>
      have CI : Hid (∀ w', Calls Tryz.prog 81 #[.int .i64 q.clause, .int .i64 0, .int .i64 ((nc : Int) - 1)] w' fun e w'' => e = .returned (.bool false) ∧ w'' = w') := fun w' => by
        have := withinM_any q.clause 0 ((nc : Int) - 1) w'
        rwa [hin] at this
      have HC : Hid (clauseOf ms q = none) := clauseOf_out HFN.out (by rw [HNC.out]; exact hin)
      clear hin
      go_wp2_with fail
      have hCne : Nonempty (Wd (fun w' => SameOn All w2 w' ∧ Below w.heap.size w w')) := ⟨⟨w2.drew, ⟨⟨Nat.le_refl _, fun _ _ _ => rfl⟩, B2.out.drew⟩⟩⟩
      refine wp_region_class (fun w' => SameOn All w2 w' ∧ Below w.heap.size w w') (by kernel_rfl) (by kernel_rfl) ⟨⟨Nat.le_refl _, fun _ _ _ => rfl⟩, B2.out.drew⟩ ?_
      repeat (go_big_quiet_step ((rename_i mm; go_at_call 81; refine (CI.out _).mono ?_; rintro e w1 ⟨rfl, rfl⟩; exact ⟨rfl, ⟨mm, rfl⟩⟩)))
      refine wpQuiet_nil ?_
      rintro _ ⟨mq, rfl⟩
      have HB4 : Hid (Below w.heap.size w mq.val) := mq.ok.2
      have HS4 : Hid (SameOn All w2 mq.val) := mq.ok.1
      generalize mq.val = w4 at HB4 HS4 ⊢
      go_wp2_with fail
      go_ret
      exact ⟨.inl ⟨rfl, HC.out⟩, HB4.out⟩
    | true =>
      have hin2 := hin
      simp only [inB, decide_eq_true_eq] at hin2
      obtain ⟨i, hi⟩ : ∃ i : Nat, q.clause = i := ⟨q.clause.toNat, by omega⟩
      have CI : Hid (∀ w', Calls Tryz.prog 81 #[.int .i64 i, .int .i64 0, .int .i64 ((nc : Int) - 1)] w' fun e w'' => e = .returned (.bool true) ∧ w'' = w') := fun w' => by
        have := withinM_any (i : Int) 0 ((nc : Int) - 1) w'
        rw [hi] at hin
        rwa [hin] at this
      obtain ⟨c, hck⟩ : ∃ c, f.clauses[i]? = some c := ⟨f.clauses[i]'(by rw [HNC.out]; omega), List.getElem?_eq_getElem _⟩
      have HC : Hid (clauseOf ms q = some c) := by
        show _ = _
        rw [clauseOf_in HFN.out hi (by rw [HNC.out]; exact hin)]
        exact hck
      obtain ⟨gc, oc, rfl, -, hgc, hatc⟩ := hxc (by intro h; rw [h] at hck; simp at hck)
      obtain ⟨ccs, hccl, hccs, hcl0⟩ := hatc i c hck
      have HCL : Hid (∃ cs, cs.length = 2 ∧ (∀ i', i' < 2 → w2.cell? ⟨gc, oc + i * 2 + i', none⟩ = cs[i']?) ∧ HCl w2 All (HEx w2 All d) cs c) := ⟨ccs, hccl, hccs, hcl0⟩
      have HE2 : Hid (w2.cell? ⟨gf, og + 2, none⟩ = some (.slice (some ⟨gc, oc, none⟩) f.clauses.length cc)) := by show _ = _; rw [HNC.out]; exact e2
      have HCK : Hid (f.clauses[i]? = some c) := hck
      have HGC : Hid (gc < w2.heap.size) := hgc
      have HQI : Hid (q.clause = i) := hi
      have hii : (i : Int) < (nc : Int) := by omega
      have hi0 : (0 : Int) ≤ (i : Int) := by omega
      rw [hi] at qx3
      clear hin hin2 hatc hccs hccl hxc hck hcl0 e2
      go_wp2_with fail
      have hCne : Nonempty (Wd (fun w' => SameOn All w2 w' ∧ Below w.heap.size w w')) := ⟨⟨w2.drew, ⟨⟨Nat.le_refl _, fun _ _ _ => rfl⟩, B2.out.drew⟩⟩⟩
      refine wp_region_class (fun w' => SameOn All w2 w' ∧ Below w.heap.size w w') (by kernel_rfl) (by kernel_rfl) ⟨⟨Nat.le_refl _, fun _ _ _ => rfl⟩, B2.out.drew⟩ ?_
      repeat (go_big_quiet_step ((rename_i mm; go_at_call 81; refine (CI.out _).mono ?_; rintro e w1 ⟨rfl, rfl⟩; exact ⟨rfl, ⟨mm, rfl⟩⟩)))
      refine wpQuiet_nil ?_
      rintro _ ⟨mq, rfl⟩
      have HB4 : Hid (Below w.heap.size w mq.val) := mq.ok.2
      have HS4 : Hid (SameOn All w2 mq.val) := mq.ok.1
      generalize mq.val = w4 at HB4 HS4 ⊢
      have S4 := HS4.out
      go_wp2_with fail
      have hCne2 : Nonempty (Wd (fun w' => SameOn All w2 w' ∧ Below w.heap.size w w')) := ⟨⟨w4.drew, ⟨HS4.out, HB4.out.drew⟩⟩⟩
      refine wp_region_class (fun w' => SameOn All w2 w' ∧ Below w.heap.size w w') (by kernel_rfl) (by kernel_rfl) ⟨HS4.out, HB4.out.drew⟩ ?_
      repeat (go_big_quiet_step (fail))
      refine wpQuiet_nil ?_
      rintro _ ⟨mq, rfl⟩
      have HB5 : Hid (Below w.heap.size w mq.val) := mq.ok.2
      have HS5 : Hid (SameOn All w2 mq.val) := mq.ok.1
      generalize mq.val = w5 at HB5 HS5 ⊢
      go_wp2_with fail
      go_ret
      have hb5 := HS5.out
      obtain ⟨cs, k1, k2, k3⟩ := HCL.out
      refine ⟨.inr ⟨gc, oc + i * 2, c, rfl, HC.out, gf, og, k, j, m, f, HP.out.same HS5.out, i, oc, cc, HQI.out, HCK.out, Nat.lt_of_lt_of_le HGC.out HS5.out.1, (World.cell?_of_block (HS5.out.2 gf trivial hgfw)).trans HE2.out, rfl, cs, k1, fun i' hi' => (World.cell?_of_block (HS5.out.2 gc trivial HGC.out)).trans (k2 i' hi'), k3.mono HS5.out (fun _ h => h) (fun _ _ h => h.mono HS5.out (fun _ h => h))⟩, HB5.out⟩
end Go.Proofs.YtihffcphbcepoaaGreatDoor
