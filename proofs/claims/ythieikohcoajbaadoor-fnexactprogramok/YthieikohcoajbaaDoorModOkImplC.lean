/-
  The program's ModuleOk, by contract: functions, exports, modules.
-/
import Derived.Test.YthieikohcoajbaaDoorModOkFuns
namespace Go.Proofs.YthieikohcoajbaaDoor
open Go.ChangeShapes Go.WideShapes Go.ChangeAt Go.RowKit
set_option linter.unusedVariables false

def rfsAt (es : List Rf) (k : Nat) : Bool :=
  match es[k]? with
  | none => true
  | some r => refB r && (match k with
    | 0 => true
    | j + 1 => match es[j]? with
      | none => true
      | some q => lessB q r)
def rfsB (es : List Rf) : Bool := (List.range es.length).all (rfsAt es)
def fnB (d : Nat) (f : Fn') : Bool := refB ⟨f.name, f.arity⟩ && (inB f.clauses.length 1 20 && f.clauses.all (fun c => clB (fun y q => exOk d y q 40) c f.arity))
def fnsAt (d : Nat) (fs : List Fn') (k : Nat) : Bool :=
  match fs[k]? with
  | none => true
  | some f => fnB d f && !(fs.take k).any (sameR ⟨f.name, f.arity⟩)
def fnsB (d : Nat) (fs : List Fn') : Bool := (List.range fs.length).all (fnsAt d fs)
/-- Whether a module is right. -/
def mdOk (d : Nat) (m : Md) : Bool := atomB m.name && ((decide (m.exports.length ≤ 20) && rfsB m.exports) && (inB m.funs.length 1 30 && fnsB d m.funs))

theorem rangeT_succ (f : Nat → Bool) (k : Nat) (h : (List.range k).all f = true) (hk : f k = true) : (List.range (k + 1)).all f = true := by
  rw [List.range_succ, List.all_append, h]; simp [hk]
theorem rangeT_at (f : Nat → Bool) (n k : Nat) (hk : k < n) (h : f k = false) : (List.range n).all f = false := by
  rw [List.all_eq_false]; exact ⟨k, List.mem_range.2 hk, by simp [h]⟩
theorem rfsAt_zero {es : List Rf} {k : Nat} {r : Rf} (hk : k = 0) (h : es[k]? = some r) : rfsAt es k = refB r := by
  subst hk; simp [rfsAt, h]
theorem rfsAt_succ {es : List Rf} {k : Nat} {q r : Rf} (hk : ¬ k = 0) (hq : es[k - 1]? = some q) (hr : es[k]? = some r) : rfsAt es k = (refB r && lessB q r) := by
  obtain ⟨j, rfl⟩ : ∃ j, k = j + 1 := ⟨k - 1, by omega⟩
  simp only [Nat.add_sub_cancel] at hq
  simp [rfsAt, hr, hq]
theorem fnsAt_eq {d : Nat} {fs : List Fn'} {k : Nat} {f : Fn'} (h : fs[k]? = some f) : fnsAt d fs k = (fnB d f && !(fs.take k).any (sameR ⟨f.name, f.arity⟩)) := by
  simp [fnsAt, h]
theorem fnB_eq (d : Nat) (s : ByteArray) (n : Int) (cl : List Cl) : fnB d ⟨s, n, cl⟩ = (refB ⟨s, n⟩ && (inB cl.length 1 20 && cl.all (fun c => clB (fun y q => exOk d y q (40 - 0)) c n))) := by
  simp [fnB]
theorem rfShape {cs : List Value} {x : Rf} (h : HRf cs x) : cs = [.string x.name, .int .i64 x.arity] := h.1

set_option maxHeartbeats 8000000 in
set_option maxRecDepth 100000 in
theorem funOk_any (d : Nat) (w : World) (cs : List Value) (f : Fn') (hT : Tabs w) (h : HFn w All d cs f) :
    Calls Tryd.prog 51 #[.agg cs.toArray] w fun e w' => e = .returned (.bool (fnB d f)) ∧ Below w.heap.size w w' := by
  have HT : Hid (Tabs w) := hT
  obtain ⟨cv, rfl, hs, -, f0⟩ := h
  obtain ⟨fs, fa, cl⟩ := f
  simp only at *
  obtain ⟨p, cap, rfl, hcl, hcm, hx⟩ := f0
  have hnb : cl.length ≤ 9223372036854775807 := by unfold maxLen at hcm; omega
  rw [fnB_eq]
  generalize hn : cl.length = n at *
  have HN : Hid (cl.length = n) := hn
  have HX : Hid (cl ≠ [] → ∃ g off, p = some ⟨g, off, none⟩ ∧ All g ∧ g < w.heap.size ∧ ∀ i x, cl[i]? = some x → ∃ cs, cs.length = 2 ∧ (∀ j, j < 2 → w.cell? ⟨g, off + i * 2 + j, none⟩ = cs[j]?) ∧ HCl w All (HEx w All d) cs x) := hx
  have BL : Hid (Below w.heap.size w (w.alloc (.cells #[.string fs, .int .i64 fa, .slice p n cap] 59))) := (Below.refl _ _).alloc (Nat.le_refl _) _
  clear hx hn hT
  cases hr : refB ⟨fs, fa⟩ with
  | false =>
    go_enter Tryd.func51, Tryd.ntmps51
    go_wp2_with fail
    refine (refOf_any fs fa p n cap _).mono ?_
    rintro e w2 ⟨rfl, hb2⟩
    have B2 : Hid (Below w.heap.size w w2) := BL.out.trans (hb2.mono BL.out.size)
    have g2 : Hid (Blk w2 w.heap.size #[.string fs, .int .i64 fa, .slice p n cap] 59) := (Blk.new (w := w)).next hb2
    clear hb2
    go_wp2_with fail
    refine (refOk_any ⟨fs, fa⟩ _ hs (HT.out.below B2.out).keys).mono ?_
    rintro e w3 ⟨rfl, hb3⟩
    rw [hr]
    have B3 : Hid (Below w.heap.size w w3) := B2.out.trans (hb3.mono B2.out.size)
    have g3 : Hid (Blk w3 w.heap.size #[.string fs, .int .i64 fa, .slice p n cap] 59) := g2.out.next hb3
    clear hb3 g2
    go_wp2_with fail
    go_ret
    exact ⟨by simp, B3.out⟩
  | true =>
    cases hin : inB n 1 20 with
    | false =>
      go_enter Tryd.func51, Tryd.ntmps51
      go_wp2_with fail
      refine (refOf_any fs fa p n cap _).mono ?_
      rintro e w2 ⟨rfl, hb2⟩
      have B2 : Hid (Below w.heap.size w w2) := BL.out.trans (hb2.mono BL.out.size)
      have g2 : Hid (Blk w2 w.heap.size #[.string fs, .int .i64 fa, .slice p n cap] 59) := (Blk.new (w := w)).next hb2
      clear hb2
      go_wp2_with fail
      refine (refOk_any ⟨fs, fa⟩ _ hs (HT.out.below B2.out).keys).mono ?_
      rintro e w3 ⟨rfl, hb3⟩
      rw [hr]
      have B3 : Hid (Below w.heap.size w w3) := B2.out.trans (hb3.mono B2.out.size)
      have g3 : Hid (Blk w3 w.heap.size #[.string fs, .int .i64 fa, .slice p n cap] 59) := g2.out.next hb3
      clear hb3 g2
      have xa0 := g3.out.cell 0 _ rfl
      have xa1 := g3.out.cell 1 _ rfl
      have xa2 := g3.out.cell 2 _ rfl
      go_wp2_with (first | (go_at_call 50; go_must (refine (withinM_any _ _ _ _).mono ?_; rintro e w9 ⟨rfl, hw9⟩; rw [hin, hw9]; clear hw9 w9)))
      go_ret
      exact ⟨by simp, B3.out⟩
    | true =>
      go_enter Tryd.func51, Tryd.ntmps51
      go_wp2_with fail
      refine (refOf_any fs fa p n cap _).mono ?_
      rintro e w2 ⟨rfl, hb2⟩
      have B2 : Hid (Below w.heap.size w w2) := BL.out.trans (hb2.mono BL.out.size)
      have g2 : Hid (Blk w2 w.heap.size #[.string fs, .int .i64 fa, .slice p n cap] 59) := (Blk.new (w := w)).next hb2
      clear hb2
      go_wp2_with fail
      refine (refOk_any ⟨fs, fa⟩ _ hs (HT.out.below B2.out).keys).mono ?_
      rintro e w3 ⟨rfl, hb3⟩
      rw [hr]
      have B3 : Hid (Below w.heap.size w w3) := B2.out.trans (hb3.mono B2.out.size)
      have g3 : Hid (Blk w3 w.heap.size #[.string fs, .int .i64 fa, .slice p n cap] 59) := g2.out.next hb3
      clear hb3 g2
      have xa0 := g3.out.cell 0 _ rfl
      have xa1 := g3.out.cell 1 _ rfl
      have xa2 := g3.out.cell 2 _ rfl
      go_wp2_with (first | (go_at_call 50; go_must (refine (withinM_any _ _ _ _).mono ?_; rintro e w9 ⟨rfl, hw9⟩; rw [hin, hw9]; clear hw9 w9)))
      obtain ⟨W1, hW1⟩ : ∃ W1, W1 = w3 := ⟨_, rfl⟩
      have bA : Hid (Blk W1 w.heap.size #[.string fs, .int .i64 fa, .slice p n cap] 59) := by show Blk _ _ _ _; rw [hW1]; exact g3.out
      have B1 : Hid (Below w.heap.size w W1) := by show Below _ _ _; rw [hW1]; exact B3.out
      rw [← hW1]
      clear hW1 g3 B3 xa0 xa1 xa2
      go_loopw [19] (fun iv wr => ∃ k : Nat, k ≤ n ∧ iv = .int .i64 k ∧ Hid ((cl.take k).all (fun c => clB (fun y q => exOk d y q (40 - 0)) c fa) = true) ∧ Hid (SameOn All W1 wr) ∧ Below w.heap.size w wr) (fun iv _ => n - (intOf iv).toNat)
      case atStart => exact ⟨0, Nat.zero_le _, rfl, by show _ = _; simp, ⟨Nat.le_refl _, fun _ _ _ => rfl⟩, B1.out⟩
      case round =>
        obtain ⟨k, hk, rfl, hall, hso, hb⟩ := hrel
        have HB : Hid (Below w.heap.size w wr) := hb
        have b1 := bA.out.same_on hso.out
        have hlw := b1.lt
        have xa1 := b1.cell 1 _ rfl
        clear b1
        by_cases hlt : k < n
        · obtain ⟨x, hxk⟩ : ∃ x, cl[k]? = some x := ⟨cl[k]'(by rw [HN.out]; exact hlt), List.getElem?_eq_getElem _⟩
          obtain ⟨g, off, rfl, -, hgl, hat⟩ := HX.out (by intro h; rw [h] at hxk; simp at hxk)
          obtain ⟨cs, hcsl, hcs, r1⟩ := hat k x hxk
          obtain ⟨p1, n1, q1, p2, n2, q2, rfl⟩ := clShape r1
          have E1 : ∀ w', Below w.heap.size w w' → HCl w' All (HEx w' All d) [.slice p1 n1 q1, .slice p2 n2 q2] x := fun w' hw => r1.mono (SameOn.of_below hw) (fun _ h => h) (fun _ _ h => h.mono (SameOn.of_below hw) (fun _ h => h))
          have a0 := hcs 0 (by omega)
          have a1 := hcs 1 (by omega)
          rw [← hb.cell (p := ⟨g, _, none⟩) hgl] at a0 a1
          simp at a0 a1
          have hki : (k : Int) < (n : Int) := by omega
          have hk0 : (0 : Int) ≤ (k : Int) := by omega
          have HBA : Hid (Below w.heap.size w (wr.alloc (.cells #[.slice p1 n1 q1, .slice p2 n2 q2] 64))) := HB.out.alloc HB.out.size _
          clear hb hcs hat hcsl r1
          generalize hcv : clB (fun y q => exOk d y q (40 - 0)) x fa = cv
          have HCV : Hid (clB (fun y q => exOk d y q (40 - 0)) x fa = cv) := hcv
          have HC2 : Hid (cv = true → (cl.take (k + 1)).all (fun c => clB (fun y q => exOk d y q (40 - 0)) c fa) = true) := fun h => allT_succ _ cl k x hxk hall.out (hcv.trans h)
          have HC3 : Hid (cv = false → cl.all (fun c => clB (fun y q => exOk d y q (40 - 0)) c fa) = false) := fun h => allT_at _ cl k x hxk (hcv.trans h)
          clear hcv
          go_wp2_with fail
          refine (clause_allI d _ _ x fa 0 (HT.out.below HBA.out) (E1 _ HBA.out) (by omega) (by omega)).mono ?_
          rintro e w4 ⟨rfl, hb4⟩
          rw [HCV.out]
          have HB4 : Hid (Below w.heap.size w w4) := HBA.out.trans (hb4.mono HBA.out.size)
          have HS4 : Hid (SameOn All W1 w4) := (hso.out.trans (SameOn.of_below ((Below.refl _ _).alloc (Nat.le_refl _) _))).trans (SameOn.of_below hb4)
          clear hb4 HCV
          cases cv with
          | true =>
            have HT' : Hid _ := HC2.out rfl
            clear HC2 HC3
            go_wp2_with fail
            exact ⟨⟨k + 1, by omega, by go_num, HT'.out, HS4.out, HB4.out⟩, by simp [intOf]; omega⟩
          | false =>
            have HF : Hid (cl.all (fun c => clB (fun y q => exOk d y q (40 - 0)) c fa) = false) := HC3.out rfl
            clear HC2 HC3
            go_wp2_with fail
            go_ret
            exact ⟨by first | (rw [HF.out]; rfl) | (rw [HF.out]; simp), HB4.out⟩
        · have HD : Hid (cl.all (fun c => clB (fun y q => exOk d y q (40 - 0)) c fa) = true) := by
            have := hall.out
            rwa [List.take_of_length_le (by rw [HN.out]; omega)] at this
          clear hb
          go_wp2_with fail
          go_ret
          exact ⟨by first | (rw [HD.out]; rfl) | (rw [HD.out]; simp), HB.out⟩

set_option maxHeartbeats 8000000 in
set_option maxRecDepth 100000 in
theorem funsOk_any (d : Nat) (w : World) (v : Value) (fs : List Fn') (hT : Tabs w) (h : Rows w All 3 (HFn w All d) v fs) :
    Calls Tryd.prog 32 #[v] w fun e w' => e = .returned (.bool (inB fs.length 1 30 && fnsB d fs)) ∧ Below w.heap.size w w' := by
  have HT : Hid (Tabs w) := hT
  have HR : ∀ w', Below w.heap.size w w' → Rows w' All 3 (HFn w' All d) v fs := fun w' hw => h.mono (SameOn.of_below hw) (fun _ h => h) (fun _ _ _ h => h.mono (SameOn.of_below hw) (fun _ h => h))
  obtain ⟨p, cap, rfl, hcl, hcm, hx⟩ := h
  have hnb : fs.length ≤ 9223372036854775807 := by unfold maxLen at hcm; omega
  have hfn : fnsB d fs = (List.range fs.length).all (fnsAt d fs) := rfl
  rw [hfn]
  clear hfn
  generalize hn : fs.length = n at *
  have HN : Hid (fs.length = n) := hn
  have HX : Hid (fs ≠ [] → ∃ g off, p = some ⟨g, off, none⟩ ∧ All g ∧ g < w.heap.size ∧ ∀ i x, fs[i]? = some x → ∃ cs, cs.length = 3 ∧ (∀ j, j < 3 → w.cell? ⟨g, off + i * 3 + j, none⟩ = cs[j]?) ∧ HFn w All d cs x) := hx
  clear hx hn hT
  cases hin : inB n 1 30 with
  | false =>
    go_enter Tryd.func32, Tryd.ntmps32
    go_wp2_with (first | (go_at_call 50; go_must (refine (withinM_any _ _ _ _).mono ?_; rintro e w9 ⟨rfl, hw9⟩; rw [hin, hw9]; clear hw9 w9)))
    go_ret
    exact ⟨by simp, Below.refl _ _⟩
  | true =>
    go_enter Tryd.func32, Tryd.ntmps32
    go_wp2_with (first | (go_at_call 50; go_must (refine (withinM_any _ _ _ _).mono ?_; rintro e w9 ⟨rfl, hw9⟩; rw [hin, hw9]; clear hw9 w9)))
    go_loopw [11] (fun iv wr => ∃ k : Nat, k ≤ n ∧ iv = .int .i64 k ∧ Hid ((List.range k).all (fnsAt d fs) = true) ∧ Below w.heap.size w wr) (fun iv _ => n - (intOf iv).toNat)
    case atStart => exact ⟨0, Nat.zero_le _, rfl, by show _ = _; simp, Below.refl _ _⟩
    case round =>
      obtain ⟨k, hk, rfl, hall, hb⟩ := hrel
      have HB : Hid (Below w.heap.size w wr) := hb
      by_cases hlt : k < n
      · obtain ⟨x, hxk⟩ : ∃ x, fs[k]? = some x := ⟨fs[k]'(by rw [HN.out]; exact hlt), List.getElem?_eq_getElem _⟩
        obtain ⟨g, off, rfl, -, hgl, hat⟩ := HX.out (by intro h; rw [h] at hxk; simp at hxk)
        obtain ⟨cs, hcsl, hcs, r1⟩ := hat k x hxk
        obtain ⟨p1, n1, q1, rfl⟩ := fnShape r1
        have E1 : ∀ w', Below w.heap.size w w' → HFn w' All d [.string x.name, .int .i64 x.arity, .slice p1 n1 q1] x := fun w' hw => r1.mono (SameOn.of_below hw) (fun _ h => h)
        have HAT : Hid (fnsAt d fs k = (fnB d x && !(fs.take k).any (sameR ⟨x.name, x.arity⟩))) := fnsAt_eq hxk
        have RT : ∀ w', Below w.heap.size w w' → Rows w' All 3 (HFn w' All d) (.slice (some ⟨g, off, none⟩) k cap) (fs.take k) := fun w' hw => (HR w' hw).take k (by omega)
        generalize hca : fnB d x = ca at *
        generalize hcb : (fs.take k).any (sameR ⟨x.name, x.arity⟩) = cb at *
        have HCA : Hid (fnB d x = ca) := hca
        have HCB : Hid ((fs.take k).any (sameR ⟨x.name, x.arity⟩) = cb) := hcb
        generalize x.name = xs at *
        generalize x.arity = xn at *
        have a0 := hcs 0 (by omega)
        have a1 := hcs 1 (by omega)
        have a2 := hcs 2 (by omega)
        rw [← hb.cell (p := ⟨g, _, none⟩) hgl] at a0 a1 a2
        simp at a0 a1 a2
        have hki : (k : Int) < (n : Int) := by omega
        have hk0 : (0 : Int) ≤ (k : Int) := by omega
        have hkc : (k : Int) ≤ (cap : Int) := by omega
        obtain ⟨W5, hW5⟩ : ∃ W5, W5 = wr.alloc (.cells #[.string xs, .int .i64 xn, .slice p1 n1 q1] 59) := ⟨_, rfl⟩
        have bF : Hid (Blk W5 wr.heap.size #[.string xs, .int .i64 xn, .slice p1 n1 q1] 59) := by show Blk _ _ _ _; rw [hW5]; exact Blk.new
        have K5 : Below wr.heap.size wr W5 := by rw [hW5]; exact (Below.refl _ _).alloc (Nat.le_refl _) _
        have B5 : Hid (Below w.heap.size w W5) := hb.trans (K5.mono hb.size)
        have HW5 : Hid (W5 = wr.alloc (.cells #[.string xs, .int .i64 xn, .slice p1 n1 q1] 59)) := hW5
        have z0 := bF.out.cell 0 _ rfl
        have z1 := bF.out.cell 1 _ rfl
        have z2 := bF.out.cell 2 _ rfl
        have l2 := bF.out.lt
        have qz0 : ∀ m : Wd (fun w' => SameOn All W5 w' ∧ Below w.heap.size w w'), m.val.cell? ⟨wr.heap.size, 0, none⟩ = some (.string xs) := fun m => (World.cell?_of_block (m.ok.1.2 wr.heap.size trivial l2)).trans z0
        have qz1 : ∀ m : Wd (fun w' => SameOn All W5 w' ∧ Below w.heap.size w w'), m.val.cell? ⟨wr.heap.size, 1, none⟩ = some (.int .i64 xn) := fun m => (World.cell?_of_block (m.ok.1.2 wr.heap.size trivial l2)).trans z1
        have qz2 : ∀ m : Wd (fun w' => SameOn All W5 w' ∧ Below w.heap.size w w'), m.val.cell? ⟨wr.heap.size, 2, none⟩ = some (.slice p1 n1 q1) := fun m => (World.cell?_of_block (m.ok.1.2 wr.heap.size trivial l2)).trans z2
        clear hb hcs hat hcsl r1 hW5 K5 z0 z1 z2 l2 hca hcb
        cases ca with
        | false =>
          have HF : Hid ((List.range n).all (fnsAt d fs) = false) := rangeT_at _ n k hlt (by rw [HAT.out]; rfl)
          go_wp2_with fail
          rw [← HW5.out]
          have hCne : Nonempty (Wd (fun w' => SameOn All W5 w' ∧ Below w.heap.size w w')) := ⟨⟨W5.drew, ⟨⟨Nat.le_refl _, fun _ _ _ => rfl⟩, B5.out.drew⟩⟩⟩
          refine wp_region_class (fun w' => SameOn All W5 w' ∧ Below w.heap.size w w') (by kernel_rfl) (by kernel_rfl) ⟨⟨Nat.le_refl _, fun _ _ _ => rfl⟩, B5.out.drew⟩ ?_
          repeat (go_big_quiet_step (first | (rename_i m; go_at_call 51; refine (funOk_any d _ _ x (HT.out.below m.ok.2) (E1 _ m.ok.2)).mono ?_; rintro e w1 ⟨rfl, hb1⟩; exact ⟨by rw [HCA.out], ⟨⟨w1, ⟨(SameOn.trans m.ok.1 (SameOn.of_below hb1)), m.ok.2.trans (hb1.mono m.ok.2.size)⟩⟩, rfl⟩⟩)))
          refine wpQuiet_nil ?_
          rintro _ ⟨mq, rfl⟩
          have HB4 : Hid (Below w.heap.size w mq.val) := mq.ok.2
          have HS4 : Hid (SameOn All W5 mq.val) := mq.ok.1
          generalize mq.val = w4 at HB4 HS4 ⊢
          go_wp2_with fail
          go_ret
          exact ⟨by rw [HF.out]; rfl, HB4.out⟩
        | true =>
          have HT2 : Hid (cb = false → (List.range (k + 1)).all (fnsAt d fs) = true) := fun h => rangeT_succ _ k hall.out (by rw [HAT.out, h]; rfl)
          have HF : Hid (cb = true → (List.range n).all (fnsAt d fs) = false) := fun h => rangeT_at _ n k hlt (by rw [HAT.out, h]; rfl)
          go_wp2_with fail
          rw [← HW5.out]
          have hCne : Nonempty (Wd (fun w' => SameOn All W5 w' ∧ Below w.heap.size w w')) := ⟨⟨W5.drew, ⟨⟨Nat.le_refl _, fun _ _ _ => rfl⟩, B5.out.drew⟩⟩⟩
          refine wp_region_class (fun w' => SameOn All W5 w' ∧ Below w.heap.size w w') (by kernel_rfl) (by kernel_rfl) ⟨⟨Nat.le_refl _, fun _ _ _ => rfl⟩, B5.out.drew⟩ ?_
          repeat (go_big_quiet_step (first | (rename_i m; go_at_call 51; refine (funOk_any d _ _ x (HT.out.below m.ok.2) (E1 _ m.ok.2)).mono ?_; rintro e w1 ⟨rfl, hb1⟩; exact ⟨by rw [HCA.out], ⟨⟨w1, ⟨(SameOn.trans m.ok.1 (SameOn.of_below hb1)), m.ok.2.trans (hb1.mono m.ok.2.size)⟩⟩, rfl⟩⟩) | (rename_i m; go_at_call 53; refine (refOf_any _ _ _ _ _ _).mono ?_; rintro e w1 ⟨rfl, hb1⟩; exact ⟨rfl, ⟨⟨w1, ⟨(SameOn.trans m.ok.1 (SameOn.of_below hb1)), m.ok.2.trans (hb1.mono m.ok.2.size)⟩⟩, rfl⟩⟩) | (rename_i m; go_at_call 52; refine (hasFun_any d _ _ (fs.take k) ⟨xs, xn⟩ (RT _ m.ok.2)).mono ?_; rintro e w1 ⟨rfl, hb1⟩; exact ⟨by rw [HCB.out], ⟨⟨w1, ⟨(SameOn.trans m.ok.1 (SameOn.of_below hb1)), m.ok.2.trans (hb1.mono m.ok.2.size)⟩⟩, rfl⟩⟩)))
          refine wpQuiet_nil ?_
          rintro _ ⟨mq, rfl⟩
          have HB4 : Hid (Below w.heap.size w mq.val) := mq.ok.2
          have HS4 : Hid (SameOn All W5 mq.val) := mq.ok.1
          generalize mq.val = w4 at HB4 HS4 ⊢
          cases cb with
          | false =>
            have HT' : Hid _ := HT2.out rfl
            clear HT2 HF
            go_wp2_with fail
            exact ⟨⟨k + 1, by omega, by go_num, HT'.out, HB4.out⟩, by simp [intOf]; omega⟩
          | true =>
            have HF' : Hid _ := HF.out rfl
            clear HT2 HF
            go_wp2_with fail
            go_ret
            exact ⟨by rw [HF'.out]; rfl, HB4.out⟩
      · have HD : Hid ((List.range n).all (fnsAt d fs) = true) := by
          obtain rfl : k = n := by omega
          exact hall.out
        clear hb
        go_wp2_with fail
        go_ret
        exact ⟨by rw [HD.out]; rfl, HB.out⟩

end Go.Proofs.YthieikohcoajbaaDoor
