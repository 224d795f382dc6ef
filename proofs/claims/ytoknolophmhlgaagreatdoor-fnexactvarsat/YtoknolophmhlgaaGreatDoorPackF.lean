/-
  Texts of the proof, packed: ModOkImplC, ModOkSpecE.
-/
import Derived.Test.YtoknolophmhlgaaGreatDoorPackE
import Derived.Test.YtoknolophmhlgaaGreatDoorPackC
/-
  The program's ModuleOk, by contract: functions, exports, modules.
-/
namespace Go.Proofs.YtoknolophmhlgaaGreatDoor
open Go.ChangeShapes Go.WideShapes Go.ChangeAt Go.RowKit
set_option linter.unusedVariables false

def rfsAt (es : List Rf) (k : Nat) : Bool :=
  match es[k]? with
  | none => true
  | some r => refB r && (match k with
    | 0 => true
    | j + 1 => match es[j]? with
      | none => true
      | some q => lessB q r)
def rfsB (es : List Rf) : Bool := (List.range es.length).all (rfsAt es)
def fnB (d : Nat) (f : Fn') : Bool := refB ⟨f.name, f.arity⟩ && (inB f.clauses.length 1 20 && f.clauses.all (fun c => clB (fun y q => exOk d y q 40) c f.arity))
def fnsAt (d : Nat) (fs : List Fn') (k : Nat) : Bool :=
  match fs[k]? with
  | none => true
  | some f => fnB d f && !(fs.take k).any (sameR ⟨f.name, f.arity⟩)
def fnsB (d : Nat) (fs : List Fn') : Bool := (List.range fs.length).all (fnsAt d fs)
/-- Whether a module is right. -/
def mdOk (d : Nat) (m : Md) : Bool := atomB m.name && ((decide (m.exports.length ≤ 20) && rfsB m.exports) && (inB m.funs.length 1 30 && fnsB d m.funs))

theorem rangeT_succ (f : Nat → Bool) (k : Nat) (h : (List.range k).all f = true) (hk : f k = true) : (List.range (k + 1)).all f = true := by
  rw [List.range_succ, List.all_append, h]; simp [hk]
theorem rangeT_at (f : Nat → Bool) (n k : Nat) (hk : k < n) (h : f k = false) : (List.range n).all f = false := by
  rw [List.all_eq_false]; exact ⟨k, List.mem_range.2 hk, by simp [h]⟩
theorem rfsAt_zero {es : List Rf} {k : Nat} {r : Rf} (hk : k = 0) (h : es[k]? = some r) : rfsAt es k = refB r := by
  subst hk; simp [rfsAt, h]
theorem rfsAt_succ {es : List Rf} {k : Nat} {q r : Rf} (hk : ¬ k = 0) (hq : es[k - 1]? = some q) (hr : es[k]? = some r) : rfsAt es k = (refB r && lessB q r) := by
  obtain ⟨j, rfl⟩ : ∃ j, k = j + 1 := ⟨k - 1, by omega⟩
  simp only [Nat.add_sub_cancel] at hq
  simp [rfsAt, hr, hq]
theorem fnsAt_eq {d : Nat} {fs : List Fn'} {k : Nat} {f : Fn'} (h : fs[k]? = some f) : fnsAt d fs k = (fnB d f && !(fs.take k).any (sameR ⟨f.name, f.arity⟩)) := by
  simp [fnsAt, h]
theorem fnB_eq (d : Nat) (s : ByteArray) (n : Int) (cl : List Cl) : fnB d ⟨s, n, cl⟩ = (refB ⟨s, n⟩ && (inB cl.length 1 20 && cl.all (fun c => clB (fun y q => exOk d y q (40 - 0)) c n))) := by
  simp [fnB]
theorem rfShape {cs : List Value} {x : Rf} (h : HRf cs x) : cs = [.string x.name, .int .i64 x.arity] := h.1

set_option maxHeartbeats 8000000 in
set_option maxRecDepth 100000 in
theorem funOk_any (d : Nat) (w : World) (cs : List Value) (f : Fn') (hT : Tabs w) (h : HFn w All d cs f) :
    Calls Tryz.prog 80 #[.agg cs.toArray] w fun e w' => e = .returned (.bool (fnB d f)) ∧ Below w.heap.size w w' := by
  have HT : Hid (Tabs w) := hT
  obtain ⟨cv, rfl, hs, -, f0⟩ := h
  obtain ⟨fs, fa, cl⟩ := f
  simp only at *
  obtain ⟨p, cap, rfl, hcl, hcm, hx⟩ := f0
  have hnb : cl.length ≤ 9223372036854775807 := by unfold maxLen at hcm; omega
  rw [fnB_eq]
  generalize hn : cl.length = n at *
  have HN : Hid (cl.length = n) := hn
  have HX : Hid (cl ≠ [] → ∃ g off, p = some ⟨g, off, none⟩ ∧ All g ∧ g < w.heap.size ∧ ∀ i x, cl[i]? = some x → ∃ cs, cs.length = 2 ∧ (∀ j, j < 2 → w.cell? ⟨g, off + i * 2 + j, none⟩ = cs[j]?) ∧ HCl w All (HEx w All d) cs x) := hx
  have BL : Hid (Below w.heap.size w (w.alloc (.cells #[.string fs, .int .i64 fa, .slice p n cap] 68))) := (Below.refl _ _).alloc (Nat.le_refl _) _
  clear hx hn hT
  cases hr : refB ⟨fs, fa⟩ with
  | false =>
    go_enter Tryz.func80, Tryz.ntmps80
    go_wp2_with fail
    refine (refOf_any fs fa p n cap _).mono ?_
    rintro e w2 ⟨rfl, hb2⟩
    have B2 : Hid (Below w.heap.size w w2) := BL.out.trans (hb2.mono BL.out.size)
    have g2 : Hid (Blk w2 w.heap.size #[.string fs, .int .i64 fa, .slice p n cap] 68) := (Blk.new (w := w)).next hb2
    clear hb2
    go_wp2_with fail
    refine (refOk_any ⟨fs, fa⟩ _ hs (HT.out.below B2.out).keys).mono ?_
    rintro e w3 ⟨rfl, hb3⟩
    rw [hr]
    have B3 : Hid (Below w.heap.size w w3) := B2.out.trans (hb3.mono B2.out.size)
    have g3 : Hid (Blk w3 w.heap.size #[.string fs, .int .i64 fa, .slice p n cap] 68) := g2.out.next hb3
    clear hb3 g2
    go_wp2_with fail
    go_ret
    exact ⟨by simp, B3.out⟩
  | true =>
    cases hin : inB n 1 20 with
    | false =>
      go_enter Tryz.func80, Tryz.ntmps80
      go_wp2_with fail
      refine (refOf_any fs fa p n cap _).mono ?_
      rintro e w2 ⟨rfl, hb2⟩
      have B2 : Hid (Below w.heap.size w w2) := BL.out.trans (hb2.mono BL.out.size)
      have g2 : Hid (Blk w2 w.heap.size #[.string fs, .int .i64 fa, .slice p n cap] 68) := (Blk.new (w := w)).next hb2
      clear hb2
      go_wp2_with fail
      refine (refOk_any ⟨fs, fa⟩ _ hs (HT.out.below B2.out).keys).mono ?_
      rintro e w3 ⟨rfl, hb3⟩
      rw [hr]
      have B3 : Hid (Below w.heap.size w w3) := B2.out.trans (hb3.mono B2.out.size)
      have g3 : Hid (Blk w3 w.heap.size #[.string fs, .int .i64 fa, .slice p n cap] 68) := g2.out.next hb3
      clear hb3 g2
      have xa0 := g3.out.cell 0 _ rfl
      have xa1 := g3.out.cell 1 _ rfl
      have xa2 := g3.out.cell 2 _ rfl
      go_wp2_with (first | (go_at_call 39; go_must (refine (withinM_any _ _ _ _).mono ?_; rintro e w9 ⟨rfl, hw9⟩; rw [hin, hw9]; clear hw9 w9)))
      go_ret
      exact ⟨by simp, B3.out⟩
    | true =>
      go_enter Tryz.func80, Tryz.ntmps80
      go_wp2_with fail
      refine (refOf_any fs fa p n cap _).mono ?_
      rintro e w2 ⟨rfl, hb2⟩
      have B2 : Hid (Below w.heap.size w w2) := BL.out.trans (hb2.mono BL.out.size)
      have g2 : Hid (Blk w2 w.heap.size #[.string fs, .int .i64 fa, .slice p n cap] 68) := (Blk.new (w := w)).next hb2
      clear hb2
      go_wp2_with fail
      refine (refOk_any ⟨fs, fa⟩ _ hs (HT.out.below B2.out).keys).mono ?_
      rintro e w3 ⟨rfl, hb3⟩
      rw [hr]
      have B3 : Hid (Below w.heap.size w w3) := B2.out.trans (hb3.mono B2.out.size)
      have g3 : Hid (Blk w3 w.heap.size #[.string fs, .int .i64 fa, .slice p n cap] 68) := g2.out.next hb3
      clear hb3 g2
      have xa0 := g3.out.cell 0 _ rfl
      have xa1 := g3.out.cell 1 _ rfl
      have xa2 := g3.out.cell 2 _ rfl
      go_wp2_with (first | (go_at_call 39; go_must (refine (withinM_any _ _ _ _).mono ?_; rintro e w9 ⟨rfl, hw9⟩; rw [hin, hw9]; clear hw9 w9)))
      obtain ⟨W1, hW1⟩ : ∃ W1, W1 = w3 := ⟨_, rfl⟩
      have bA : Hid (Blk W1 w.heap.size #[.string fs, .int .i64 fa, .slice p n cap] 68) := by show Blk _ _ _ _; rw [hW1]; exact g3.out
      have B1 : Hid (Below w.heap.size w W1) := by show Below _ _ _; rw [hW1]; exact B3.out
      rw [← hW1]
      clear hW1 g3 B3 xa0 xa1 xa2
      go_loopw [19] (fun iv wr => ∃ k : Nat, k ≤ n ∧ iv = .int .i64 k ∧ Hid ((cl.take k).all (fun c => clB (fun y q => exOk d y q (40 - 0)) c fa) = true) ∧ Hid (SameOn All W1 wr) ∧ Below w.heap.size w wr) (fun iv _ => n - (intOf iv).toNat)
      case atStart => exact ⟨0, Nat.zero_le _, rfl, by show _ = _; simp, ⟨Nat.le_refl _, fun _ _ _ => rfl⟩, B1.out⟩
      case round =>
        obtain ⟨k, hk, rfl, hall, hso, hb⟩ := hrel
        have HB : Hid (Below w.heap.size w wr) := hb
        have b1 := bA.out.same_on hso.out
        have hlw := b1.lt
        have xa1 := b1.cell 1 _ rfl
        clear b1
        by_cases hlt : k < n
        · obtain ⟨x, hxk⟩ : ∃ x, cl[k]? = some x := ⟨cl[k]'(by rw [HN.out]; exact hlt), List.getElem?_eq_getElem _⟩
          obtain ⟨g, off, rfl, -, hgl, hat⟩ := HX.out (by intro h; rw [h] at hxk; simp at hxk)
          obtain ⟨cs, hcsl, hcs, r1⟩ := hat k x hxk
          obtain ⟨p1, n1, q1, p2, n2, q2, rfl⟩ := clShape r1
          have E1 : ∀ w', Below w.heap.size w w' → HCl w' All (HEx w' All d) [.slice p1 n1 q1, .slice p2 n2 q2] x := fun w' hw => r1.mono (SameOn.of_below hw) (fun _ h => h) (fun _ _ h => h.mono (SameOn.of_below hw) (fun _ h => h))
          have a0 := hcs 0 (by omega)
          have a1 := hcs 1 (by omega)
          rw [← hb.cell (p := ⟨g, _, none⟩) hgl] at a0 a1
          simp at a0 a1
          have hki : (k : Int) < (n : Int) := by omega
          have hk0 : (0 : Int) ≤ (k : Int) := by omega
          have HBA : Hid (Below w.heap.size w (wr.alloc (.cells #[.slice p1 n1 q1, .slice p2 n2 q2] 45))) := HB.out.alloc HB.out.size _
          clear hb hcs hat hcsl r1
          generalize hcv : clB (fun y q => exOk d y q (40 - 0)) x fa = cv
          have HCV : Hid (clB (fun y q => exOk d y q (40 - 0)) x fa = cv) := hcv
          have HC2 : Hid (cv = true → (cl.take (k + 1)).all (fun c => clB (fun y q => exOk d y q (40 - 0)) c fa) = true) := fun h => allT_succ _ cl k x hxk hall.out (hcv.trans h)
          have HC3 : Hid (cv = false → cl.all (fun c => clB (fun y q => exOk d y q (40 - 0)) c fa) = false) := fun h => allT_at _ cl k x hxk (hcv.trans h)
          clear hcv
          go_wp2_with fail
          refine (clause_allI d _ _ x fa 0 (HT.out.below HBA.out) (E1 _ HBA.out) (by omega) (by omega)).mono ?_
          rintro e w4 ⟨rfl, hb4⟩
          rw [HCV.out]
          have HB4 : Hid (Below w.heap.size w w4) := HBA.out.trans (hb4.mono HBA.out.size)
          have HS4 : Hid (SameOn All W1 w4) := (hso.out.trans (SameOn.of_below ((Below.refl _ _).alloc (Nat.le_refl _) _))).trans (SameOn.of_below hb4)
          clear hb4 HCV
          cases cv with
          | true =>
            have HT' : Hid _ := HC2.out rfl
            clear HC2 HC3
            go_wp2_with fail
            exact ⟨⟨k + 1, by omega, by go_num, HT'.out, HS4.out, HB4.out⟩, by simp [intOf]; omega⟩
          | false =>
            have HF : Hid (cl.all (fun c => clB (fun y q => exOk d y q (40 - 0)) c fa) = false) := HC3.out rfl
            clear HC2 HC3
            go_wp2_with fail
            go_ret
            exact ⟨by first | (rw [HF.out]; rfl) | (rw [HF.out]; simp), HB4.out⟩
        · have HD : Hid (cl.all (fun c => clB (fun y q => exOk d y q (40 - 0)) c fa) = true) := by
            have := hall.out
            rwa [List.take_of_length_le (by rw [HN.out]; omega)] at this
          clear hb
          go_wp2_with fail
          go_ret
          exact ⟨by first | (rw [HD.out]; rfl) | (rw [HD.out]; simp), HB.out⟩

set_option maxHeartbeats 8000000 in
set_option maxRecDepth 100000 in
theorem funsOk_any (d : Nat) (w : World) (v : Value) (fs : List Fn') (hT : Tabs w) (h : Rows w All 3 (HFn w All d) v fs) :
    Calls Tryz.prog 59 #[v] w fun e w' => e = .returned (.bool (inB fs.length 1 30 && fnsB d fs)) ∧ Below w.heap.size w w' := by
  have HT : Hid (Tabs w) := hT
  have HR : ∀ w', Below w.heap.size w w' → Rows w' All 3 (HFn w' All d) v fs := fun w' hw => h.mono (SameOn.of_below hw) (fun _ h => h) (fun _ _ _ h => h.mono (SameOn.of_below hw) (fun _ h => h))
  obtain ⟨p, cap, rfl, hcl, hcm, hx⟩ := h
  have hnb : fs.length ≤ 9223372036854775807 := by unfold maxLen at hcm; omega
  have hfn : fnsB d fs = (List.range fs.length).all (fnsAt d fs) := rfl
  rw [hfn]
  clear hfn
  generalize hn : fs.length = n at *
  have HN : Hid (fs.length = n) := hn
  have HX : Hid (fs ≠ [] → ∃ g off, p = some ⟨g, off, none⟩ ∧ All g ∧ g < w.heap.size ∧ ∀ i x, fs[i]? = some x → ∃ cs, cs.length = 3 ∧ (∀ j, j < 3 → w.cell? ⟨g, off + i * 3 + j, none⟩ = cs[j]?) ∧ HFn w All d cs x) := hx
  clear hx hn hT
  cases hin : inB n 1 30 with
  | false =>
    go_enter Tryz.func59, Tryz.ntmps59
    go_wp2_with (first | (go_at_call 39; go_must (refine (withinM_any _ _ _ _).mono ?_; rintro e w9 ⟨rfl, hw9⟩; rw [hin, hw9]; clear hw9 w9)))
    go_ret
    exact ⟨by simp, Below.refl _ _⟩
  | true =>
    go_enter Tryz.func59, Tryz.ntmps59
    go_wp2_with (first | (go_at_call 39; go_must (refine (withinM_any _ _ _ _).mono ?_; rintro e w9 ⟨rfl, hw9⟩; rw [hin, hw9]; clear hw9 w9)))
    go_loopw [11] (fun iv wr => ∃ k : Nat, k ≤ n ∧ iv = .int .i64 k ∧ Hid ((List.range k).all (fnsAt d fs) = true) ∧ Below w.heap.size w wr) (fun iv _ => n - (intOf iv).toNat)
    case atStart => exact ⟨0, Nat.zero_le _, rfl, by show _ = _; simp, Below.refl _ _⟩
    case round =>
      obtain ⟨k, hk, rfl, hall, hb⟩ := hrel
      have HB : Hid (Below w.heap.size w wr) := hb
      by_cases hlt : k < n
      · obtain ⟨x, hxk⟩ : ∃ x, fs[k]? = some x := ⟨fs[k]'(by rw [HN.out]; exact hlt), List.getElem?_eq_getElem _⟩
        obtain ⟨g, off, rfl, -, hgl, hat⟩ := HX.out (by intro h; rw [h] at hxk; simp at hxk)
        obtain ⟨cs, hcsl, hcs, r1⟩ := hat k x hxk
        obtain ⟨p1, n1, q1, rfl⟩ := fnShape r1
        have E1 : ∀ w', Below w.heap.size w w' → HFn w' All d [.string x.name, .int .i64 x.arity, .slice p1 n1 q1] x := fun w' hw => r1.mono (SameOn.of_below hw) (fun _ h => h)
        have HAT : Hid (fnsAt d fs k = (fnB d x && !(fs.take k).any (sameR ⟨x.name, x.arity⟩))) := fnsAt_eq hxk
        have RT : ∀ w', Below w.heap.size w w' → Rows w' All 3 (HFn w' All d) (.slice (some ⟨g, off, none⟩) k cap) (fs.take k) := fun w' hw => (HR w' hw).take k (by omega)
        generalize hca : fnB d x = ca at *
        generalize hcb : (fs.take k).any (sameR ⟨x.name, x.arity⟩) = cb at *
        have HCA : Hid (fnB d x = ca) := hca
        have HCB : Hid ((fs.take k).any (sameR ⟨x.name, x.arity⟩) = cb) := hcb
        generalize x.name = xs at *
        generalize x.arity = xn at *
        have a0 := hcs 0 (by omega)
        have a1 := hcs 1 (by omega)
        have a2 := hcs 2 (by omega)
        rw [← hb.cell (p := ⟨g, _, none⟩) hgl] at a0 a1 a2
        simp at a0 a1 a2
        have hki : (k : Int) < (n : Int) := by omega
        have hk0 : (0 : Int) ≤ (k : Int) := by omega
        have hkc : (k : Int) ≤ (cap : Int) := by omega
        obtain ⟨W5, hW5⟩ : ∃ W5, W5 = wr.alloc (.cells #[.string xs, .int .i64 xn, .slice p1 n1 q1] 68) := ⟨_, rfl⟩
        have bF : Hid (Blk W5 wr.heap.size #[.string xs, .int .i64 xn, .slice p1 n1 q1] 68) := by show Blk _ _ _ _; rw [hW5]; exact Blk.new
        have K5 : Below wr.heap.size wr W5 := by rw [hW5]; exact (Below.refl _ _).alloc (Nat.le_refl _) _
        have B5 : Hid (Below w.heap.size w W5) := hb.trans (K5.mono hb.size)
        have HW5 : Hid (W5 = wr.alloc (.cells #[.string xs, .int .i64 xn, .slice p1 n1 q1] 68)) := hW5
        have z0 := bF.out.cell 0 _ rfl
        have z1 := bF.out.cell 1 _ rfl
        have z2 := bF.out.cell 2 _ rfl
        have l2 := bF.out.lt
        have qz0 : ∀ m : Wd (fun w' => SameOn All W5 w' ∧ Below w.heap.size w w'), m.val.cell? ⟨wr.heap.size, 0, none⟩ = some (.string xs) := fun m => (World.cell?_of_block (m.ok.1.2 wr.heap.size trivial l2)).trans z0
        have qz1 : ∀ m : Wd (fun w' => SameOn All W5 w' ∧ Below w.heap.size w w'), m.val.cell? ⟨wr.heap.size, 1, none⟩ = some (.int .i64 xn) := fun m => (World.cell?_of_block (m.ok.1.2 wr.heap.size trivial l2)).trans z1
        have qz2 : ∀ m : Wd (fun w' => SameOn All W5 w' ∧ Below w.heap.size w w'), m.val.cell? ⟨wr.heap.size, 2, none⟩ = some (.slice p1 n1 q1) := fun m => (World.cell?_of_block (m.ok.1.2 wr.heap.size trivial l2)).trans z2
        clear hb hcs hat hcsl r1 hW5 K5 z0 z1 z2 l2 hca hcb
        cases ca with
        | false =>
          have HF : Hid ((List.range n).all (fnsAt d fs) = false) := rangeT_at _ n k hlt (by rw [HAT.out]; rfl)
          go_wp2_with fail
          rw [← HW5.out]
          have hCne : Nonempty (Wd (fun w' => SameOn All W5 w' ∧ Below w.heap.size w w')) := ⟨⟨W5.drew, ⟨⟨Nat.le_refl _, fun _ _ _ => rfl⟩, B5.out.drew⟩⟩⟩
          refine wp_region_class (fun w' => SameOn All W5 w' ∧ Below w.heap.size w w') (by kernel_rfl) (by kernel_rfl) ⟨⟨Nat.le_refl _, fun _ _ _ => rfl⟩, B5.out.drew⟩ ?_
          repeat (go_big_quiet_step (first | (rename_i m; go_at_call 80; refine (funOk_any d _ _ x (HT.out.below m.ok.2) (E1 _ m.ok.2)).mono ?_; rintro e w1 ⟨rfl, hb1⟩; exact ⟨by rw [HCA.out], ⟨⟨w1, ⟨(SameOn.trans m.ok.1 (SameOn.of_below hb1)), m.ok.2.trans (hb1.mono m.ok.2.size)⟩⟩, rfl⟩⟩)))
          refine wpQuiet_nil ?_
          rintro _ ⟨mq, rfl⟩
          have HB4 : Hid (Below w.heap.size w mq.val) := mq.ok.2
          have HS4 : Hid (SameOn All W5 mq.val) := mq.ok.1
          generalize mq.val = w4 at HB4 HS4 ⊢
          go_wp2_with fail
          go_ret
          exact ⟨by rw [HF.out]; rfl, HB4.out⟩
        | true =>
          have HT2 : Hid (cb = false → (List.range (k + 1)).all (fnsAt d fs) = true) := fun h => rangeT_succ _ k hall.out (by rw [HAT.out, h]; rfl)
          have HF : Hid (cb = true → (List.range n).all (fnsAt d fs) = false) := fun h => rangeT_at _ n k hlt (by rw [HAT.out, h]; rfl)
          go_wp2_with fail
          rw [← HW5.out]
          have hCne : Nonempty (Wd (fun w' => SameOn All W5 w' ∧ Below w.heap.size w w')) := ⟨⟨W5.drew, ⟨⟨Nat.le_refl _, fun _ _ _ => rfl⟩, B5.out.drew⟩⟩⟩
          refine wp_region_class (fun w' => SameOn All W5 w' ∧ Below w.heap.size w w') (by kernel_rfl) (by kernel_rfl) ⟨⟨Nat.le_refl _, fun _ _ _ => rfl⟩, B5.out.drew⟩ ?_
          repeat (go_big_quiet_step (first | (rename_i m; go_at_call 80; refine (funOk_any d _ _ x (HT.out.below m.ok.2) (E1 _ m.ok.2)).mono ?_; rintro e w1 ⟨rfl, hb1⟩; exact ⟨by rw [HCA.out], ⟨⟨w1, ⟨(SameOn.trans m.ok.1 (SameOn.of_below hb1)), m.ok.2.trans (hb1.mono m.ok.2.size)⟩⟩, rfl⟩⟩) | (rename_i m; go_at_call 60; refine (refOf_any _ _ _ _ _ _).mono ?_; rintro e w1 ⟨rfl, hb1⟩; exact ⟨rfl, ⟨⟨w1, ⟨(SameOn.trans m.ok.1 (SameOn.of_below hb1)), m.ok.2.trans (hb1.mono m.ok.2.size)⟩⟩, rfl⟩⟩) | (rename_i m; go_at_call 81; refine (hasFun_any d _ _ (fs.take k) ⟨xs, xn⟩ (RT _ m.ok.2)).mono ?_; rintro e w1 ⟨rfl, hb1⟩; exact ⟨by rw [HCB.out], ⟨⟨w1, ⟨(SameOn.trans m.ok.1 (SameOn.of_below hb1)), m.ok.2.trans (hb1.mono m.ok.2.size)⟩⟩, rfl⟩⟩)))
          refine wpQuiet_nil ?_
          rintro _ ⟨mq, rfl⟩
          have HB4 : Hid (Below w.heap.size w mq.val) := mq.ok.2
          have HS4 : Hid (SameOn All W5 mq.val) := mq.ok.1
          generalize mq.val = w4 at HB4 HS4 ⊢
          cases cb with
          | false =>
            have HT' : Hid _ := HT2.out rfl
            clear HT2 HF
            go_wp2_with fail
            exact ⟨⟨k + 1, by omega, by go_num, HT'.out, HB4.out⟩, by simp [intOf]; omega⟩
          | true =>
            have HF' : Hid _ := HF.out rfl
            clear HT2 HF
            go_wp2_with fail
            go_ret
            exact ⟨by rw [HF'.out]; rfl, HB4.out⟩
      · have HD : Hid ((List.range n).all (fnsAt d fs) = true) := by
          obtain rfl : k = n := by omega
          exact hall.out
        clear hb
        go_wp2_with fail
        go_ret
        exact ⟨by rw [HD.out]; rfl, HB.out⟩

end Go.Proofs.YtoknolophmhlgaaGreatDoor
/-
  The specification's ModuleOk, by contract: modules.
-/
namespace Go.Proofs.YtoknolophmhlgaaGreatDoor
open Go.ChangeShapes Go.WideShapes Go.ChangeAt Go.RowKit
set_option linter.unusedVariables false

theorem any_take_lt {α : Type} (f : α → Bool) (xs : List α) (i k : Nat) (x : α) (h : xs[k]? = some x) (hf : f x = true) (hki : k < i) : (xs.take i).any f = true := by
  rw [List.any_eq_true]
  refine ⟨x, List.mem_of_getElem? (i := k) ?_, hf⟩
  rw [List.getElem?_take, if_pos hki]; exact h
theorem any_take_get {α : Type} (f : α → Bool) (xs : List α) (i : Nat) (h : (xs.take i).any f = true) : ∃ j x, j < i ∧ xs[j]? = some x ∧ f x = true := by
  rw [List.any_eq_true] at h
  obtain ⟨x, hx, hf⟩ := h
  obtain ⟨j, hj⟩ := List.mem_iff_getElem?.1 hx
  rw [List.getElem?_take] at hj
  split at hj
  · exact ⟨j, x, by assumption, hj, hf⟩
  · cases hj

set_option maxHeartbeats 8000000 in
set_option maxRecDepth 100000 in
theorem l02Find_any (d : Nat) (w : World) (ms : ByteArray) (pe : Option Addr) (ne ce : Nat) (v : Value) (fs : List Fn') (i : Nat) (f : Fn') (h : Rows w All 3 (HFn w All d) v fs) (hi : fs[i]? = some f) :
    Calls Tryz.prog 49 #[.agg #[.string ms, .slice pe ne ce, v], .string f.name, .int .i64 f.arity] w fun e w' => ∃ r : Int, e = .returned (.int .i64 r) ∧ (r == (i : Int)) = !(fs.take i).any (sameR ⟨f.name, f.arity⟩) ∧ Below w.heap.size w w' := by
  obtain ⟨pf, cf, rfl, hcl, hcm, hx⟩ := h
  have hnb : fs.length ≤ 9223372036854775807 := by unfold maxLen at hcm; omega
  have HI : Hid (fs[i]? = some f) := hi
  have hself : sameR ⟨f.name, f.arity⟩ f = true := by simp [sameR]
  have HSELF : Hid (sameR ⟨f.name, f.arity⟩ f = true) := hself
  obtain ⟨rs, rn, fcl⟩ := f
  simp only at *
  generalize hn : fs.length = nf at *
  have HN : Hid (fs.length = nf) := hn
  have HX : Hid (fs ≠ [] → ∃ g off, pf = some ⟨g, off, none⟩ ∧ All g ∧ g < w.heap.size ∧ ∀ i x, fs[i]? = some x → ∃ cs, cs.length = 3 ∧ (∀ j, j < 3 → w.cell? ⟨g, off + i * 3 + j, none⟩ = cs[j]?) ∧ HFn w All d cs x) := hx
  obtain ⟨W1, hW1⟩ : ∃ W1, W1 = w.alloc (.cells #[.string ms, .slice pe ne ce, .slice pf nf cf] 53) := ⟨_, rfl⟩
  have bA : Hid (Blk W1 w.heap.size #[.string ms, .slice pe ne ce, .slice pf nf cf] 53) := by show Blk _ _ _ _; rw [hW1]; exact Blk.new
  have B1 : Hid (Below w.heap.size w W1) := by show Below _ _ _; rw [hW1]; exact (Below.refl _ _).alloc (Nat.le_refl _) _
  have xa2 := bA.out.cell 2 _ rfl
  have HW1 : Hid (W1 = w.alloc (.cells #[.string ms, .slice pe ne ce, .slice pf nf cf] 53)) := hW1
  clear hx hn hi hself hW1
  go_enter Tryz.func49, Tryz.ntmps49
  go_wp2_with fail
  rw [← HW1.out]
  go_loop [7] (fun iv => ∃ k : Nat, k ≤ nf ∧ iv = .int .i64 k ∧ Hid ((fs.take k).any (sameR ⟨rs, rn⟩) = false)) (fun iv => nf - (intOf iv).toNat)
  case atStart => exact ⟨0, Nat.zero_le _, rfl, by show _ = _; simp⟩
  case round =>
    obtain ⟨k, hk, rfl, hall⟩ := hrel
    by_cases hlt : k < nf
    · obtain ⟨x, hxk⟩ : ∃ x, fs[k]? = some x := ⟨fs[k]'(by rw [HN.out]; exact hlt), List.getElem?_eq_getElem _⟩
      obtain ⟨g, off, rfl, -, hgl, hat⟩ := HX.out (by intro h; rw [h] at hxk; simp at hxk)
      obtain ⟨cs, hcsl, hcs, r1⟩ := hat k x hxk
      obtain ⟨p1, n1, q1, rfl⟩ := fnShape r1
      have HC2 : Hid (sameR ⟨rs, rn⟩ x = false → (fs.take (k + 1)).any (sameR ⟨rs, rn⟩) = false) := fun h => anyT_succ _ fs k _ hxk hall.out h
      have HC3 : Hid (sameR ⟨rs, rn⟩ x = true → ((k : Int) == (i : Int)) = !(fs.take i).any (sameR ⟨rs, rn⟩)) := fun h => by
        have hki : k ≤ i := Classical.byContradiction fun hc => by
          have := any_take_lt (sameR ⟨rs, rn⟩) fs k i _ HI.out HSELF.out (by omega)
          rw [hall.out] at this; cases this
        by_cases he : k = i
        · subst he; rw [hall.out]; simp
        · rw [any_take_lt (sameR ⟨rs, rn⟩) fs i k x hxk h (by omega)]; simp; omega
      obtain ⟨xs, xn, xc⟩ := x
      simp only at *
      have hsm : sameR ⟨rs, rn⟩ ⟨xs, xn, xc⟩ = (xs.toList == rs.toList && xn == rn) := rfl
      rw [hsm] at HC2 HC3
      have a0 := hcs 0 (by omega)
      have a1 := hcs 1 (by omega)
      have a2 := hcs 2 (by omega)
      rw [← B1.out.cell (p := ⟨g, _, none⟩) hgl] at a0 a1 a2
      simp at a0 a1 a2
      have hki : (k : Int) < (nf : Int) := by omega
      have hk0 : (0 : Int) ≤ (k : Int) := by omega
      clear hcs hat hcsl r1 hsm
      cases c1 : (xs.toList == rs.toList) with
      | false =>
        have HT' : Hid ((fs.take (k + 1)).any (sameR ⟨rs, rn⟩) = false) := HC2.out (by rw [c1]; rfl)
        clear HC2 HC3
        go_wp2
        go_round
        case rel => exact ⟨k + 1, by omega, by go_num, HT'⟩
        case measure => simp [intOf]; omega
      | true =>
        cases c2 : (xn == rn) with
        | false =>
          have HT' : Hid ((fs.take (k + 1)).any (sameR ⟨rs, rn⟩) = false) := HC2.out (by rw [c2, Bool.and_false])
          clear HC2 HC3
          go_wp2
          go_round
          case rel => exact ⟨k + 1, by omega, by go_num, HT'⟩
          case measure => simp [intOf]; omega
        | true =>
          have HF : Hid (((k : Int) == (i : Int)) = !(fs.take i).any (sameR ⟨rs, rn⟩)) := HC3.out (by rw [c1, c2]; rfl)
          clear HC2 HC3
          go_wp2
          go_ret
          exact ⟨_, rfl, HF.out, B1.out⟩
    · exfalso
      have h1 := hall.out
      have h2 := any_take_lt (sameR ⟨rs, rn⟩) fs k i _ HI.out HSELF.out (by
        have := (List.getElem?_eq_some_iff.1 HI.out).1
        have := HN.out
        omega)
      rw [h1] at h2; cases h2

set_option maxHeartbeats 16000000 in
set_option maxRecDepth 100000 in
/-- THE SPECIFICATION's ModuleOk. -/
theorem specModuleOk_any (d : Nat) (w : World) (cs : List Value) (m : Md) (h : HMd w All d cs m) :
    Calls Tryz.prog 31 #[.agg cs.toArray] w fun e w' => e = .returned (.bool (mdOk d m)) ∧ Below w.heap.size w w' := by
  obtain ⟨ev, fv, rfl, hs, f0, f1⟩ := h
  obtain ⟨ms, es, fs⟩ := m
  simp only at *
  have FR : ∀ w', Below w.heap.size w w' → Rows w' All 3 (HFn w' All d) fv fs := fun w' hw => f1.mono (SameOn.of_below hw) (fun _ h => h) (fun _ _ _ h => h.mono (SameOn.of_below hw) (fun _ h => h))
  obtain ⟨pe, ce, rfl, hce, hcme, hxe⟩ := f0
  obtain ⟨pf, cf, rfl, hcf, hcmf, hxf⟩ := f1
  have hne : es.length ≤ 9223372036854775807 := by unfold maxLen at hcme; omega
  have hnf : fs.length ≤ 9223372036854775807 := by unfold maxLen at hcmf; omega
  have hv : mdOk d ⟨ms, es, fs⟩ = (atomB ms && ((decide (es.length ≤ 20) && (List.range es.length).all (rfsAt es)) && (inB fs.length 1 30 && (List.range fs.length).all (fnsAt d fs)))) := rfl
  rw [hv]
  clear hv
  generalize hn : es.length = ne at *
  generalize hn2 : fs.length = nf at *
  have HN : Hid (es.length = ne) := hn
  have HN2 : Hid (fs.length = nf) := hn2
  have HE : Hid (es ≠ [] → ∃ g off, pe = some ⟨g, off, none⟩ ∧ All g ∧ g < w.heap.size ∧ ∀ i x, es[i]? = some x → ∃ cs, cs.length = 2 ∧ (∀ j, j < 2 → w.cell? ⟨g, off + i * 2 + j, none⟩ = cs[j]?) ∧ HRf cs x) := hxe
  have HF0 : Hid (fs ≠ [] → ∃ g off, pf = some ⟨g, off, none⟩ ∧ All g ∧ g < w.heap.size ∧ ∀ i x, fs[i]? = some x → ∃ cs, cs.length = 3 ∧ (∀ j, j < 3 → w.cell? ⟨g, off + i * 3 + j, none⟩ = cs[j]?) ∧ HFn w All d cs x) := hxf
  obtain ⟨W1, hW1⟩ : ∃ W1, W1 = w.alloc (.cells #[.string ms, .slice pe ne ce, .slice pf nf cf] 53) := ⟨_, rfl⟩
  have bA : Hid (Blk W1 w.heap.size #[.string ms, .slice pe ne ce, .slice pf nf cf] 53) := by show Blk _ _ _ _; rw [hW1]; exact Blk.new
  have B1 : Hid (Below w.heap.size w W1) := by show Below _ _ _; rw [hW1]; exact (Below.refl _ _).alloc (Nat.le_refl _) _
  have HW1 : Hid (W1 = w.alloc (.cells #[.string ms, .slice pe ne ce, .slice pf nf cf] 53)) := hW1
  clear hxe hxf hn hn2 hW1
  cases ha : atomB ms with
  | false =>
    go_enter Tryz.func31, Tryz.ntmps31
    go_wp2_with (first | (go_at_call 50; go_must (refine (specAtomOk_any _ _ hs).mono ?_; rintro e w9 ⟨rfl, rfl⟩; rw [ha])))
    rw [← HW1.out]
    go_ret
    exact ⟨by simp, B1.out⟩
  | true =>
  by_cases h20 : ¬ ne ≤ 20
  · have h21 : (20 : Int) < (ne : Int) := by omega
    rw [decide_eq_false h20]
    go_enter Tryz.func31, Tryz.ntmps31
    go_wp2_with (first | (go_at_call 50; go_must (refine (specAtomOk_any _ _ hs).mono ?_; rintro e w9 ⟨rfl, rfl⟩; rw [ha])))
    rw [← HW1.out]
    go_ret
    exact ⟨by simp, B1.out⟩
  replace h20 : ne ≤ 20 := by omega
  have h21 : ¬ (20 : Int) < (ne : Int) := by omega
  rw [decide_eq_true h20]
  cases hin : inB nf 1 30 with
  | false =>
    go_enter Tryz.func31, Tryz.ntmps31
    go_wp2_with (first | (go_at_call 50; go_must (refine (specAtomOk_any _ _ hs).mono ?_; rintro e w9 ⟨rfl, rfl⟩; rw [ha])) | (go_at_call 30; go_must (refine (l01In_any _ _ _ _).mono ?_; rintro e w9 ⟨rfl, rfl⟩; rw [hin])))
    rw [← HW1.out]
    go_ret
    exact ⟨by simp, B1.out⟩
  | true =>
  simp only [Bool.true_and]
  go_enter Tryz.func31, Tryz.ntmps31
  go_wp2_with (first | (go_at_call 50; go_must (refine (specAtomOk_any _ _ hs).mono ?_; rintro e w9 ⟨rfl, rfl⟩; rw [ha])) | (go_at_call 30; go_must (refine (l01In_any _ _ _ _).mono ?_; rintro e w9 ⟨rfl, rfl⟩; rw [hin])))
  rw [← HW1.out]
  go_loopw [3] (fun iv wr => ∃ k : Nat, k ≤ ne ∧ iv = .int .i64 k ∧ Hid ((List.range k).all (rfsAt es) = true) ∧ Hid (SameOn All W1 wr) ∧ Below w.heap.size w wr) (fun iv _ => ne - (intOf iv).toNat)
  case atStart => exact ⟨0, Nat.zero_le _, rfl, by show _ = _; simp, ⟨Nat.le_refl _, fun _ _ _ => rfl⟩, B1.out⟩
  case round =>
    obtain ⟨k, hk, rfl, hall, hso, hb⟩ := hrel
    have HB : Hid (Below w.heap.size w wr) := hb
    have b1 := bA.out.same_on hso.out
    have hlw := b1.lt
    have xa0 := b1.cell 0 _ rfl
    have xa1 := b1.cell 1 _ rfl
    have xa2 := b1.cell 2 _ rfl
    clear b1
    by_cases hlt : k < ne
    · obtain ⟨x, hxk⟩ : ∃ x, es[k]? = some x := ⟨es[k]'(by rw [HN.out]; exact hlt), List.getElem?_eq_getElem _⟩
      obtain ⟨g, off, rfl, -, hgl, hat⟩ := HE.out (by intro h; rw [h] at hxk; simp at hxk)
      obtain ⟨cs, hcsl, hcs, r1⟩ := hat k x hxk
      obtain ⟨rfl, hxs, -⟩ := r1
      have hgw : g < wr.heap.size := Nat.lt_of_lt_of_le hgl hb.size
      have HAT0 : Hid (k = 0 → rfsAt es k = refB x) := fun h => rfsAt_zero h hxk
      have HATS : Hid (∀ j, k = j + 1 → ∃ q : Rf, rfsAt es k = (refB x && lessB q x) ∧ wr.cell? ⟨g, off + j * 2, none⟩ = some (.string q.name) ∧ wr.cell? ⟨g, off + j * 2 + 1, none⟩ = some (.int .i64 q.arity)) := fun j hj => by
        obtain ⟨q, hq⟩ : ∃ q, es[j]? = some q := ⟨es[j]'(by rw [HN.out]; omega), List.getElem?_eq_getElem _⟩
        obtain ⟨cs', _, hcs', rfl, hqs, _⟩ := hat j q hq
        have b0 := hcs' 0 (by omega)
        have b1 := hcs' 1 (by omega)
        rw [← hb.cell (p := ⟨g, _, none⟩) hgl] at b0 b1
        exact ⟨q, rfsAt_succ (by omega) (by rw [hj]; exact hq) hxk, by simpa using b0, by simpa using b1⟩
      have a0 := hcs 0 (by omega)
      have a1 := hcs 1 (by omega)
      rw [← hb.cell (p := ⟨g, _, none⟩) hgl] at a0 a1
      simp at a0 a1
      have hki : (k : Int) < (ne : Int) := by omega
      have hk0 : (0 : Int) ≤ (k : Int) := by omega
      obtain ⟨xs, xn⟩ := x
      simp only at *
      have hrf : refB ⟨xs, xn⟩ = (atomB xs && inB xn 0 6) := rfl
      rw [hrf] at HAT0 HATS
      generalize hca : atomB xs = ca at *
      have HCA : Hid (atomB xs = ca) := hca
      generalize hci : inB xn 0 6 = ci at *
      have HCI : Hid (inB xn 0 6 = ci) := hci
      obtain ⟨W5, hW5⟩ : ∃ W5, W5 = wr.alloc (.cells #[.string xs, .int .i64 xn] 88) := ⟨_, rfl⟩
      have bF : Hid (Blk W5 wr.heap.size #[.string xs, .int .i64 xn] 88) := by show Blk _ _ _ _; rw [hW5]; exact Blk.new
      have K5 : Hid (Below wr.heap.size wr W5) := by show Below _ _ _; rw [hW5]; exact (Below.refl _ _).alloc (Nat.le_refl _) _
      have B5 : Hid (Below w.heap.size w W5) := hb.trans (K5.out.mono hb.size)
      have S5 : Hid (SameOn All W1 W5) := hso.out.trans (SameOn.of_below K5.out)
      have HW5 : Hid (W5 = wr.alloc (.cells #[.string xs, .int .i64 xn] 88)) := hW5
      have hg5 : g < W5.heap.size := Nat.lt_of_lt_of_le hgw K5.out.size
      have z0 := bF.out.cell 0 _ rfl
      have z1 := bF.out.cell 1 _ rfl
      have l2 := bF.out.lt
      have bM := bA.out.same_on S5.out
      have u1 := bM.cell 1 _ rfl
      have l3 := bM.lt
      have qz0 : ∀ m : Wd (fun w' => SameOn All W5 w' ∧ Below w.heap.size w w'), m.val.cell? ⟨wr.heap.size, 0, none⟩ = some (.string xs) := fun m => (World.cell?_of_block (m.ok.1.2 wr.heap.size trivial l2)).trans z0
      have qz1 : ∀ m : Wd (fun w' => SameOn All W5 w' ∧ Below w.heap.size w w'), m.val.cell? ⟨wr.heap.size, 1, none⟩ = some (.int .i64 xn) := fun m => (World.cell?_of_block (m.ok.1.2 wr.heap.size trivial l2)).trans z1
      have qu1 : ∀ m : Wd (fun w' => SameOn All W5 w' ∧ Below w.heap.size w w'), m.val.cell? ⟨w.heap.size, 1, none⟩ = some (.slice (some ⟨g, off, none⟩) ne ce) := fun m => (World.cell?_of_block (m.ok.1.2 w.heap.size trivial l3)).trans u1
      clear hb hcs hat hcsl hW5 z0 z1 l2 hca hci bM u1 l3
      by_cases hac : (ca && ci) = false
      · have HF : Hid ((List.range ne).all (rfsAt es) = false) := rangeT_at _ ne k hlt (by
          rcases Nat.eq_zero_or_pos k with h | h
          · rw [HAT0.out h, hac]
          · obtain ⟨q, hq, _⟩ := HATS.out (k - 1) (by omega)
            rw [hq, hac]; rfl)
        clear HAT0 HATS
        cases ca with
        | false =>
          go_wp2_with fail
          rw [← HW5.out]
          have hCne : Nonempty (Wd (fun w' => SameOn All W5 w' ∧ Below w.heap.size w w')) := ⟨⟨W5.drew, ⟨⟨Nat.le_refl _, fun _ _ _ => rfl⟩, B5.out.drew⟩⟩⟩
          refine wp_region_class (fun w' => SameOn All W5 w' ∧ Below w.heap.size w w') (by kernel_rfl) (by kernel_rfl) ⟨⟨Nat.le_refl _, fun _ _ _ => rfl⟩, B5.out.drew⟩ ?_
          repeat (go_big_quiet_step (first | (rename_i m; go_at_call 50; refine (specAtomOk_any _ _ hxs).mono ?_; rintro e w1 ⟨rfl, rfl⟩; exact ⟨by rw [HCA.out], ⟨m, rfl⟩⟩)))
          refine wpQuiet_nil ?_
          rintro _ ⟨mq, rfl⟩
          have HB4 : Hid (Below w.heap.size w mq.val) := mq.ok.2
          have HS4 : Hid (SameOn All W5 mq.val) := mq.ok.1
          generalize mq.val = w4 at HB4 HS4 ⊢
          go_wp2_with fail
          go_ret
          exact ⟨by rw [HF.out]; rfl, HB4.out⟩
        | true =>
          obtain rfl : ci = false := by simpa using hac
          clear hac
          go_wp2_with fail
          rw [← HW5.out]
          have hCne : Nonempty (Wd (fun w' => SameOn All W5 w' ∧ Below w.heap.size w w')) := ⟨⟨W5.drew, ⟨⟨Nat.le_refl _, fun _ _ _ => rfl⟩, B5.out.drew⟩⟩⟩
          refine wp_region_class (fun w' => SameOn All W5 w' ∧ Below w.heap.size w w') (by kernel_rfl) (by kernel_rfl) ⟨⟨Nat.le_refl _, fun _ _ _ => rfl⟩, B5.out.drew⟩ ?_
          repeat (go_big_quiet_step (first | (rename_i m; go_at_call 50; refine (specAtomOk_any _ _ hxs).mono ?_; rintro e w1 ⟨rfl, rfl⟩; exact ⟨by rw [HCA.out], ⟨m, rfl⟩⟩) | (rename_i m; go_at_call 30; refine (l01In_any _ _ _ _).mono ?_; rintro e w1 ⟨rfl, rfl⟩; exact ⟨by rw [HCI.out], ⟨m, rfl⟩⟩)))
          refine wpQuiet_nil ?_
          rintro _ ⟨mq, rfl⟩
          have HB4 : Hid (Below w.heap.size w mq.val) := mq.ok.2
          have HS4 : Hid (SameOn All W5 mq.val) := mq.ok.1
          generalize mq.val = w4 at HB4 HS4 ⊢
          go_wp2_with fail
          go_ret
          exact ⟨by rw [HF.out]; rfl, HB4.out⟩
      · obtain ⟨rfl, rfl⟩ : ca = true ∧ ci = true := by simpa using hac
        clear hac
        rcases Nat.eq_zero_or_pos k with hz | hz
        · have HT' : Hid ((List.range (k + 1)).all (rfsAt es) = true) := rangeT_succ _ k hall.out (HAT0.out hz)
          have hz1 : ¬ (0 : Int) < (k : Int) := by omega
          have hz3 : ¬ 0 < k := by omega
          have hz4 : decide (0 < k) = false := decide_eq_false hz3
          clear HAT0 HATS hz
          go_wp2_with fail
          rw [← HW5.out]
          have hCne : Nonempty (Wd (fun w' => SameOn All W5 w' ∧ Below w.heap.size w w')) := ⟨⟨W5.drew, ⟨⟨Nat.le_refl _, fun _ _ _ => rfl⟩, B5.out.drew⟩⟩⟩
          refine wp_region_class (fun w' => SameOn All W5 w' ∧ Below w.heap.size w w') (by kernel_rfl) (by kernel_rfl) ⟨⟨Nat.le_refl _, fun _ _ _ => rfl⟩, B5.out.drew⟩ ?_
          repeat (go_big_quiet_step (first | (rename_i m; go_at_call 50; refine (specAtomOk_any _ _ hxs).mono ?_; rintro e w1 ⟨rfl, rfl⟩; exact ⟨by rw [HCA.out], ⟨m, rfl⟩⟩) | (rename_i m; go_at_call 30; refine (l01In_any _ _ _ _).mono ?_; rintro e w1 ⟨rfl, rfl⟩; exact ⟨by rw [HCI.out], ⟨m, rfl⟩⟩)))
          refine wpQuiet_nil ?_
          rintro _ ⟨mq, rfl⟩
          have HB4 : Hid (Below w.heap.size w mq.val) := mq.ok.2
          have HS4 : Hid (SameOn All W5 mq.val) := mq.ok.1
          generalize mq.val = w4 at HB4 HS4 ⊢
          have HS9 : Hid (SameOn All W1 w4) := S5.out.trans HS4.out
          go_wp2_with fail
          exact ⟨⟨k + 1, by omega, by go_num, HT'.out, HS9.out, HB4.out⟩, by simp [intOf]; omega⟩
        · obtain ⟨j, rfl⟩ : ∃ j, k = j + 1 := ⟨k - 1, by omega⟩
          obtain ⟨q, hat, y0, y1⟩ := HATS.out j rfl
          have HAT : Hid (rfsAt es (j + 1) = ((true && true) && lessB q ⟨xs, xn⟩)) := hat
          obtain ⟨qs, qn⟩ := q
          simp only at *
          have qy0 : ∀ m : Wd (fun w' => SameOn All W5 w' ∧ Below w.heap.size w w'), m.val.cell? ⟨g, off + j * 2, none⟩ = some (.string qs) := fun m => (World.cell?_of_block (m.ok.1.2 g trivial hg5)).trans (cell_next K5.out y0)
          have qy1 : ∀ m : Wd (fun w' => SameOn All W5 w' ∧ Below w.heap.size w w'), m.val.cell? ⟨g, off + j * 2 + 1, none⟩ = some (.int .i64 qn) := fun m => (World.cell?_of_block (m.ok.1.2 g trivial hg5)).trans (cell_next K5.out y1)
          have hji : (j : Int) < (ne : Int) := by omega
          have hj0 : (0 : Int) ≤ (j : Int) := by omega
          have hj1 : (0 : Int) < (j : Int) + 1 := by omega
          generalize hz9 : lessB ⟨qs, qn⟩ ⟨xs, xn⟩ = z
          have HCL : Hid (lessB ⟨qs, qn⟩ ⟨xs, xn⟩ = z) := hz9
          have HT2 : Hid (z = true → (List.range (j + 1 + 1)).all (rfsAt es) = true) := fun h => rangeT_succ _ (j + 1) hall.out (by rw [HAT.out, hz9, h]; rfl)
          have HF2 : Hid (z = false → (List.range ne).all (rfsAt es) = false) := fun h => rangeT_at _ ne (j + 1) hlt (by rw [HAT.out, hz9, h]; rfl)
          clear HAT0 HATS hat hz y0 y1 hz9
          go_wp2_with fail
          rw [← HW5.out]
          have hCne : Nonempty (Wd (fun w' => SameOn All W5 w' ∧ Below w.heap.size w w')) := ⟨⟨W5.drew, ⟨⟨Nat.le_refl _, fun _ _ _ => rfl⟩, B5.out.drew⟩⟩⟩
          refine wp_region_class (fun w' => SameOn All W5 w' ∧ Below w.heap.size w w') (by kernel_rfl) (by kernel_rfl) ⟨⟨Nat.le_refl _, fun _ _ _ => rfl⟩, B5.out.drew⟩ ?_
          repeat (go_big_quiet_step (first | (rename_i m; go_at_call 50; refine (specAtomOk_any _ _ hxs).mono ?_; rintro e w1 ⟨rfl, rfl⟩; exact ⟨by rw [HCA.out], ⟨m, rfl⟩⟩) | (rename_i m; go_at_call 30; refine (l01In_any _ _ _ _).mono ?_; rintro e w1 ⟨rfl, rfl⟩; exact ⟨by rw [HCI.out], ⟨m, rfl⟩⟩) | (rename_i m; go_at_call 51; refine (l02Less_any ⟨qs, qn⟩ ⟨xs, xn⟩ _).mono ?_; rintro e w1 ⟨rfl, hb1⟩; exact ⟨by rw [HCL.out], ⟨⟨w1, ⟨(SameOn.trans m.ok.1 (SameOn.of_below hb1)), m.ok.2.trans (hb1.mono m.ok.2.size)⟩⟩, rfl⟩⟩)))
          refine wpQuiet_nil ?_
          rintro _ ⟨mq, rfl⟩
          have HB4 : Hid (Below w.heap.size w mq.val) := mq.ok.2
          have HS4 : Hid (SameOn All W5 mq.val) := mq.ok.1
          generalize mq.val = w4 at HB4 HS4 ⊢
          have HS9 : Hid (SameOn All W1 w4) := S5.out.trans HS4.out
          cases z with
          | true =>
            have HT' : Hid _ := HT2.out rfl
            clear HT2 HF2
            go_wp2_with fail
            exact ⟨⟨j + 1 + 1, by omega, by go_num, HT'.out, HS9.out, HB4.out⟩, by simp [intOf]; omega⟩
          | false =>
            have HF' : Hid _ := HF2.out rfl
            clear HT2 HF2
            go_wp2_with fail
            go_ret
            exact ⟨by rw [HF'.out]; rfl, HB4.out⟩
    · have HDE : Hid ((List.range ne).all (rfsAt es) = true) := by
        obtain rfl : k = ne := by omega
        exact hall.out
      clear hb
      go_wp2_with fail
      clear xa0 xa1 xa2
      go_loopw [5] (fun iv wr => ∃ k : Nat, k ≤ nf ∧ iv = .int .i64 k ∧ Hid ((List.range k).all (fnsAt d fs) = true) ∧ Hid (SameOn All W1 wr) ∧ Below w.heap.size w wr) (fun iv _ => nf - (intOf iv).toNat)
      case atStart => exact ⟨0, Nat.zero_le _, rfl, by show _ = _; simp, hso.out, HB.out⟩
      case round =>
        clear HB hso
        obtain ⟨k, hk, rfl, hall, hso, hb⟩ := hrel
        have HB : Hid (Below w.heap.size w wr) := hb
        have b1 := bA.out.same_on hso.out
        have hlw := b1.lt
        have xa0 := b1.cell 0 _ rfl
        have xa1 := b1.cell 1 _ rfl
        have xa2 := b1.cell 2 _ rfl
        clear b1
        by_cases hlt : k < nf
        · obtain ⟨x, hxk⟩ : ∃ x, fs[k]? = some x := ⟨fs[k]'(by rw [HN2.out]; exact hlt), List.getElem?_eq_getElem _⟩
          obtain ⟨g, off, rfl, -, hgl, hat⟩ := HF0.out (by intro h; rw [h] at hxk; simp at hxk)
          obtain ⟨cs, hcsl, hcs, r1⟩ := hat k x hxk
          have HAT : Hid (fnsAt d fs k = (fnB d x && !(fs.take k).any (sameR ⟨x.name, x.arity⟩))) := fnsAt_eq hxk
          have HFI : Hid (∀ w', Below w.heap.size w w' → Calls Tryz.prog 49 #[.agg #[.string ms, .slice pe ne ce, .slice (some ⟨g, off, none⟩) nf cf], .string x.name, .int .i64 x.arity] w' fun e w'' => ∃ r : Int, e = .returned (.int .i64 r) ∧ (r == (k : Int)) = !(fs.take k).any (sameR ⟨x.name, x.arity⟩) ∧ Below w'.heap.size w' w'') := fun w' hw => l02Find_any d w' ms pe ne ce _ fs k x (FR w' hw) hxk
          obtain ⟨cv, rfl, hxs, -, hcr⟩ := r1
          obtain ⟨xs, xn, xc⟩ := x
          simp only at *
          have CR : ∀ w', Below w.heap.size w w' → Rows w' All 2 (HCl w' All (HEx w' All d)) cv xc := fun w' hw => hcr.mono (SameOn.of_below hw) (fun _ h => h) (fun _ _ _ h => h.mono (SameOn.of_below hw) (fun _ h => h) (fun _ _ h => h.mono (SameOn.of_below hw) (fun _ h => h)))
          obtain ⟨pc, cc, rfl, hcc, hcmc, hxc⟩ := hcr
          have hncb : xc.length ≤ 9223372036854775807 := by unfold maxLen at hcmc; omega
          have hfb : fnB d ⟨xs, xn, xc⟩ = ((atomB xs && inB xn 0 6) && (inB xc.length 1 20 && xc.all (fun c => clB (fun y q => exOk d y q 40) c xn))) := rfl
          rw [hfb] at HAT
          clear hfb
          generalize hn3 : xc.length = nc at *
          have HN3 : Hid (xc.length = nc) := hn3
          have HC0 : Hid (xc ≠ [] → ∃ g off, pc = some ⟨g, off, none⟩ ∧ All g ∧ g < w.heap.size ∧ ∀ i x, xc[i]? = some x → ∃ cs, cs.length = 2 ∧ (∀ j, j < 2 → w.cell? ⟨g, off + i * 2 + j, none⟩ = cs[j]?) ∧ HCl w All (HEx w All d) cs x) := hxc
          have a0 := hcs 0 (by omega)
          have a1 := hcs 1 (by omega)
          have a2 := hcs 2 (by omega)
          rw [← hb.cell (p := ⟨g, _, none⟩) hgl] at a0 a1 a2
          simp at a0 a1 a2
          have hki : (k : Int) < (nf : Int) := by omega
          have hk0 : (0 : Int) ≤ (k : Int) := by omega
          generalize hcb : (fs.take k).any (sameR ⟨xs, xn⟩) = cb at *
          obtain ⟨W5, hW5⟩ : ∃ W5, W5 = wr.alloc (.cells #[.string xs, .int .i64 xn, .slice pc nc cc] 68) := ⟨_, rfl⟩
          have bF : Hid (Blk W5 wr.heap.size #[.string xs, .int .i64 xn, .slice pc nc cc] 68) := by show Blk _ _ _ _; rw [hW5]; exact Blk.new
          have K5 : Hid (Below wr.heap.size wr W5) := by show Below _ _ _; rw [hW5]; exact (Below.refl _ _).alloc (Nat.le_refl _) _
          have B5 : Hid (Below w.heap.size w W5) := hb.trans (K5.out.mono hb.size)
          have S5 : Hid (SameOn All W1 W5) := hso.out.trans (SameOn.of_below K5.out)
          have HW5 : Hid (W5 = wr.alloc (.cells #[.string xs, .int .i64 xn, .slice pc nc cc] 68)) := hW5
          clear hb hcs hat hcsl hW5 hcb hxc hn3
          by_cases hac : (atomB xs && inB xn 0 6) = false
          · have HF : Hid ((List.range nf).all (fnsAt d fs) = false) := rangeT_at _ nf k hlt (by rw [HAT.out, hac]; rfl)
            clear HAT
            cases ca : atomB xs with
            | false =>
              go_wp2_with (first | (go_at_call 50; go_must (refine (specAtomOk_any _ _ hxs).mono ?_; rintro e w9 ⟨rfl, rfl⟩; rw [ca])))
              rw [← HW5.out]
              go_ret
              exact ⟨by rw [HDE.out, HF.out]; rfl, B5.out⟩
            | true =>
              have ci : inB xn 0 6 = false := by rw [ca] at hac; simpa using hac
              go_wp2_with (first | (go_at_call 50; go_must (refine (specAtomOk_any _ _ hxs).mono ?_; rintro e w9 ⟨rfl, rfl⟩; rw [ca])) | (go_at_call 30; go_must (refine (l01In_any _ _ _ _).mono ?_; rintro e w9 ⟨rfl, rfl⟩; rw [ci])))
              rw [← HW5.out]
              go_ret
              exact ⟨by rw [HDE.out, HF.out]; rfl, B5.out⟩
          obtain ⟨ca, ci⟩ : atomB xs = true ∧ inB xn 0 6 = true := by simpa using hac
          rw [ca, ci] at HAT
          clear hac
          have bM := bA.out.same_on S5.out
          have u0 := bM.cell 0 _ rfl
          have u1 := bM.cell 1 _ rfl
          have u2 := bM.cell 2 _ rfl
          rw [HW5.out] at u0 u1 u2
          clear bM
          cases cb with
          | true =>
            have HF : Hid ((List.range nf).all (fnsAt d fs) = false) := rangeT_at _ nf k hlt (by rw [HAT.out]; simp)
            clear HAT
            go_wp2_with (first | (go_at_call 50; go_must (refine (specAtomOk_any _ _ hxs).mono ?_; rintro e w9 ⟨rfl, rfl⟩; rw [ca])) | (go_at_call 30; go_must (refine (l01In_any _ _ _ _).mono ?_; rintro e w9 ⟨rfl, rfl⟩; rw [ci])))
            rw [← HW5.out]
            refine (HFI.out _ B5.out).mono ?_
            rintro e w6 ⟨r, rfl, hri, hb6⟩
            have hr2 : (r != (k : Int)) = true := by simpa using hri
            have B6 : Hid (Below w.heap.size w w6) := B5.out.trans (hb6.mono B5.out.size)
            clear hri hb6
            go_wp2_with fail
            go_ret
            exact ⟨by rw [HDE.out, HF.out]; rfl, B6.out⟩
          | false =>
            cases cin : inB nc 1 20 with
            | false =>
              have HF : Hid ((List.range nf).all (fnsAt d fs) = false) := rangeT_at _ nf k hlt (by rw [HAT.out, cin]; simp)
              clear HAT
              go_wp2_with (first | (go_at_call 50; go_must (refine (specAtomOk_any _ _ hxs).mono ?_; rintro e w9 ⟨rfl, rfl⟩; rw [ca])) | (go_at_call 30; go_must (refine (l01In_any _ _ _ _).mono ?_; rintro e w9 ⟨rfl, rfl⟩; rw [ci])))
              rw [← HW5.out]
              refine (HFI.out _ B5.out).mono ?_
              rintro e w6 ⟨r, rfl, hri, hb6⟩
              obtain rfl : r = (k : Int) := by simpa using hri
              have B6 : Hid (Below w.heap.size w w6) := B5.out.trans (hb6.mono B5.out.size)
              have S6 : Hid (SameOn All W5 w6) := SameOn.of_below hb6
              have bG : Hid (Blk w6 wr.heap.size #[.string xs, .int .i64 xn, .slice pc nc cc] 68) := bF.out.next hb6
              have v0 := bG.out.cell 0 _ rfl
              have v1 := bG.out.cell 1 _ rfl
              have v2 := bG.out.cell 2 _ rfl
              clear hri hb6
              go_wp2_with (first | (go_at_call 30; go_must (refine (l01In_any _ _ _ _).mono ?_; rintro e w9 ⟨rfl, hw9⟩; rw [cin, hw9]; clear hw9 w9)))
              go_ret
              exact ⟨by rw [HDE.out, HF.out]; rfl, B6.out⟩
            | true =>
              rw [cin] at HAT
              go_wp2_with (first | (go_at_call 50; go_must (refine (specAtomOk_any _ _ hxs).mono ?_; rintro e w9 ⟨rfl, rfl⟩; rw [ca])) | (go_at_call 30; go_must (refine (l01In_any _ _ _ _).mono ?_; rintro e w9 ⟨rfl, rfl⟩; rw [ci])))
              rw [← HW5.out]
              refine (HFI.out _ B5.out).mono ?_
              rintro e w6 ⟨r, rfl, hri, hb6⟩
              obtain rfl : r = (k : Int) := by simpa using hri
              have B6 : Hid (Below w.heap.size w w6) := B5.out.trans (hb6.mono B5.out.size)
              have S6 : Hid (SameOn All W5 w6) := SameOn.of_below hb6
              have bG : Hid (Blk w6 wr.heap.size #[.string xs, .int .i64 xn, .slice pc nc cc] 68) := bF.out.next hb6
              have v0 := bG.out.cell 0 _ rfl
              have v1 := bG.out.cell 1 _ rfl
              have v2 := bG.out.cell 2 _ rfl
              clear hri hb6
              go_wp2_with (first | (go_at_call 30; go_must (refine (l01In_any _ _ _ _).mono ?_; rintro e w9 ⟨rfl, hw9⟩; rw [cin, hw9]; clear hw9 w9)))
              clear v0 v1 v2 u0 u1 u2 xa0 xa1 xa2
              obtain ⟨W6, hW6⟩ : ∃ W6, W6 = wr.heap.size := ⟨_, rfl⟩
              have HW6 : Hid (W6 = wr.heap.size) := hW6
              rw [← hW6] at bG ⊢
              have S1 : Hid (SameOn All W1 w6) := S5.out.trans S6.out
              clear hW6 HW6 hlw bF HW5 K5 S5 S6 B5
              go_loopw [7] (fun iv wr => ∃ k2 : Nat, k2 ≤ nc ∧ iv = .int .i64 k2 ∧ Hid ((xc.take k2).all (fun c => clB (fun y q => exOk d y q 40) c xn) = true) ∧ Hid (SameOn All w6 wr) ∧ Below w.heap.size w wr) (fun iv _ => nc - (intOf iv).toNat)
              case atStart => exact ⟨0, Nat.zero_le _, rfl, by show _ = _; simp, ⟨Nat.le_refl _, fun _ _ _ => rfl⟩, B6.out⟩
              case round =>
                clear HB hso
                obtain ⟨k2, hk2, rfl, hall2, hso, hb⟩ := hrel
                have HB : Hid (Below w.heap.size w wr) := hb
                have b1 := bG.out.same_on hso.out
                have hlw := b1.lt
                have xa1 := b1.cell 1 _ rfl
                have xa2 := b1.cell 2 _ rfl
                clear b1
                by_cases hlt2 : k2 < nc
                · obtain ⟨c, hck⟩ : ∃ c, xc[k2]? = some c := ⟨xc[k2]'(by rw [HN3.out]; exact hlt2), List.getElem?_eq_getElem _⟩
                  obtain ⟨g2, off2, rfl, -, hgl2, hat2⟩ := HC0.out (by intro h; rw [h] at hck; simp at hck)
                  obtain ⟨cs, hcsl, hcs, r1⟩ := hat2 k2 c hck
                  have E1 : ∀ w', SameOn All wr w' → HCl w' All (HEx w' All d) cs c := fun w' hw => r1.mono (SameOn.trans (SameOn.of_below hb) hw) (fun _ h => h) (fun _ _ h => h.mono (SameOn.trans (SameOn.of_below hb) hw) (fun _ h => h))
                  obtain ⟨c0, c1, rfl⟩ := len2 hcsl
                  have a0 := hcs 0 (by omega)
                  have a1 := hcs 1 (by omega)
                  rw [← hb.cell (p := ⟨g2, _, none⟩) hgl2] at a0 a1
                  simp at a0 a1
                  have hki2 : (k2 : Int) < (nc : Int) := by omega
                  have hk02 : (0 : Int) ≤ (k2 : Int) := by omega
                  have hgw : g2 < wr.heap.size := Nat.lt_of_lt_of_le hgl2 hb.size
                  have qa0 : ∀ m : Wd (fun w' => SameOn All wr w' ∧ Below w.heap.size w w'), m.val.cell? ⟨g2, off2 + k2 * 2, none⟩ = some c0 := fun m => (World.cell?_of_block (m.ok.1.2 g2 trivial hgw)).trans a0
                  have qa1 : ∀ m : Wd (fun w' => SameOn All wr w' ∧ Below w.heap.size w w'), m.val.cell? ⟨g2, off2 + k2 * 2 + 1, none⟩ = some c1 := fun m => (World.cell?_of_block (m.ok.1.2 g2 trivial hgw)).trans a1
                  have qx1 : ∀ m : Wd (fun w' => SameOn All wr w' ∧ Below w.heap.size w w'), m.val.cell? ⟨W6, 1, none⟩ = some (.int .i64 xn) := fun m => (World.cell?_of_block (m.ok.1.2 W6 trivial hlw)).trans xa1
                  have qx2 : ∀ m : Wd (fun w' => SameOn All wr w' ∧ Below w.heap.size w w'), m.val.cell? ⟨W6, 2, none⟩ = some (.slice (some ⟨g2, off2, none⟩) nc cc) := fun m => (World.cell?_of_block (m.ok.1.2 W6 trivial hlw)).trans xa2
                  clear hb hcs hat2 hcsl r1
                  generalize hcv : clB (fun y q => exOk d y q 40) c xn = cv
                  have HCV : Hid (clB (fun y q => exOk d y q 40) c xn = cv) := hcv
                  have HC2 : Hid (cv = true → (xc.take (k2 + 1)).all (fun c => clB (fun y q => exOk d y q 40) c xn) = true) := fun h => allT_succ _ xc k2 c hck hall2.out (hcv.trans h)
                  have HC3 : Hid (cv = false → (List.range nf).all (fnsAt d fs) = false) := fun h => rangeT_at _ nf k hlt (by rw [HAT.out, allT_at _ xc k2 c hck (hcv.trans h)]; rfl)
                  clear hcv
                  go_wp2
                  have hCne : Nonempty (Wd (fun w' => SameOn All wr w' ∧ Below w.heap.size w w')) := ⟨⟨wr.drew, ⟨⟨Nat.le_refl _, fun _ _ _ => rfl⟩, HB.out.drew⟩⟩⟩
                  refine wp_region_class (fun w' => SameOn All wr w' ∧ Below w.heap.size w w') (by kernel_rfl) (by kernel_rfl) ⟨⟨Nat.le_refl _, fun _ _ _ => rfl⟩, HB.out.drew⟩ ?_
                  repeat (go_big_quiet_step (first | (rename_i m; go_at_call 52; refine (clause_allS d _ _ c xn 40 (E1 _ m.ok.1) (by omega) (by omega)).mono ?_; rintro e w1 ⟨rfl, hb1⟩; exact ⟨by rw [HCV.out], ⟨⟨w1, ⟨(SameOn.trans m.ok.1 (SameOn.of_below hb1)), m.ok.2.trans (hb1.mono m.ok.2.size)⟩⟩, rfl⟩⟩)))
                  refine wpQuiet_nil ?_
                  rintro _ ⟨mq, rfl⟩
                  have HB4 : Hid (Below w.heap.size w mq.val) := mq.ok.2
                  have HS4 : Hid (SameOn All w6 mq.val) := hso.out.trans mq.ok.1
                  generalize mq.val = w4 at HB4 HS4 ⊢
                  clear HCV
                  cases cv with
                  | true =>
                    have HT' : Hid _ := HC2.out rfl
                    clear HC2 HC3
                    go_wp2_with fail
                    exact ⟨⟨k2 + 1, by omega, by go_num, HT'.out, HS4.out, HB4.out⟩, by simp [intOf]; omega⟩
                  | false =>
                    have HF : Hid _ := HC3.out rfl
                    clear HC2 HC3
                    go_wp2_with fail
                    go_ret
                    exact ⟨by rw [HDE.out, HF.out]; rfl, HB4.out⟩
                · have HT' : Hid ((List.range (k + 1)).all (fnsAt d fs) = true) := rangeT_succ _ k hall.out (by
                    have := hall2.out
                    rw [List.take_of_length_le (by rw [HN3.out]; omega)] at this
                    rw [HAT.out, this]; rfl)
                  have HS9 : Hid (SameOn All W1 wr) := S1.out.trans hso.out
                  clear hb
                  go_wp2_with fail
                  exact ⟨⟨k + 1, by omega, by go_num, HT'.out, HS9.out, HB.out⟩, by simp [intOf]; omega⟩
        · have HD : Hid ((List.range nf).all (fnsAt d fs) = true) := by
            obtain rfl : k = nf := by omega
            exact hall.out
          clear hb
          go_wp2_with fail
          go_ret
          exact ⟨by rw [HDE.out, HD.out]; rfl, HB.out⟩
end Go.Proofs.YtoknolophmhlgaaGreatDoor
