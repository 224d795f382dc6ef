/-
  The program's ModuleOk, by contract: functions.
-/
import Derived.Test.YthieikohcoajbaaDoorModOkRefs
import Derived.Test.YthieikohcoajbaaDoorModOkImplB
namespace Go.Proofs.YthieikohcoajbaaDoor
open Go.ChangeShapes Go.WideShapes Go.ChangeAt Go.RowKit
set_option linter.unusedVariables false

theorem fnShape {w : World} {S : Nat → Prop} {d : Nat} {cs : List Value} {x : Fn'} (h : HFn w S d cs x) : ∃ p1 n1 q1, cs = [.string x.name, .int .i64 x.arity, .slice p1 n1 q1] := by
  obtain ⟨cv, rfl, _, _, ⟨p1, c1, rfl, _⟩⟩ := h
  exact ⟨_, _, _, rfl⟩
theorem Rows.take {α : Type} {w : World} {S : Nat → Prop} {c : Nat} {R : List Value → α → Prop} {p : Option Addr} {n cap : Nat} {es : List α} (h : Rows w S c R (.slice p n cap) es) (k : Nat) (hk : k ≤ n) : Rows w S c R (.slice p k cap) (es.take k) := by
  obtain ⟨p', cap', hv, h1, h2, hx⟩ := h
  simp only [Value.slice.injEq] at hv
  obtain ⟨rfl, rfl, rfl⟩ := hv
  refine ⟨p, cap, by rw [List.length_take, Nat.min_eq_left hk], by rw [List.length_take]; omega, h2, fun hne => ?_⟩
  obtain ⟨g, off, hp, hS, hl, hat⟩ := hx (fun e => hne (by rw [e]; simp))
  exact ⟨g, off, hp, hS, hl, fun i x hi => hat i x (by rw [List.getElem?_take] at hi; split at hi; exact hi; cases hi)⟩

theorem refG : Tryd.prog.eqGuardType Tryd.prog.depth 51 = false := by kernel_rfl
theorem refH : Tryd.prog.stoodInHeld 51 = false := by kernel_rfl
theorem refU : Tryd.prog.underlying 51 = some (.struct (Tryd.prog.fieldsOf 51)) := by kernel_rfl
theorem refE (a c : ByteArray) (b d : Int) (w : World) : (Op.equalIn 10000 51 (.agg #[.string a, .int .i64 b]) (.agg #[.string c, .int .i64 d])).run Tryd.prog w = .ok ((a.toList == c.toList) && (b == d)) w := by
  rw [show (10000 : Nat) = 9999 + 1 from rfl, run_equalIn_struct w 9999 _ _ _ refU refH]
  cases h1 : (a.toList == c.toList) <;> cases h2 : (b == d) <;> simp [go_sem, Program.fieldsOf, Tryd.underlying51, Tryd.underlying3, Tryd.underlying9, Op.eqFields, h1, h2]

set_option maxHeartbeats 8000000 in
set_option maxRecDepth 100000 in
theorem hasFun_any (d : Nat) (w : World) (v : Value) (fs : List Fn') (r : Rf) (h : Rows w All 3 (HFn w All d) v fs) :
    Calls Tryd.prog 52 #[v, .agg #[.string r.name, .int .i64 r.arity]] w fun e w' => e = .returned (.bool (fs.any (sameR r))) ∧ Below w.heap.size w w' := by
  obtain ⟨rs, rn⟩ := r
  simp only
  obtain ⟨p, cap, rfl, hcl, hcm, hx⟩ := h
  have hnb : fs.length ≤ 9223372036854775807 := by unfold maxLen at hcm; omega
  generalize hn : fs.length = n at *
  have HN : Hid (fs.length = n) := hn
  have HX : Hid (fs ≠ [] → ∃ g off, p = some ⟨g, off, none⟩ ∧ All g ∧ g < w.heap.size ∧ ∀ i x, fs[i]? = some x → ∃ cs, cs.length = 3 ∧ (∀ j, j < 3 → w.cell? ⟨g, off + i * 3 + j, none⟩ = cs[j]?) ∧ HFn w All d cs x) := hx
  obtain ⟨W1, hW1⟩ : ∃ W1, W1 = w.alloc (.cells #[.string rs, .int .i64 rn] 51) := ⟨_, rfl⟩
  have bA : Hid (Blk W1 w.heap.size #[.string rs, .int .i64 rn] 51) := by show Blk _ _ _ _; rw [hW1]; exact Blk.new
  have B1 : Hid (Below w.heap.size w W1) := by show Below _ _ _; rw [hW1]; exact (Below.refl _ _).alloc (Nat.le_refl _) _
  have HW1 : Hid (W1 = w.alloc (.cells #[.string rs, .int .i64 rn] 51)) := hW1
  clear hx hn hW1
  go_enter Tryd.func52, Tryd.ntmps52
  go_wp2_with fail
  rw [← HW1.out]
  go_loopw [9] (fun iv wr => ∃ k : Nat, k ≤ n ∧ iv = .int .i64 k ∧ Hid ((fs.take k).any (sameR ⟨rs, rn⟩) = false) ∧ Hid (SameOn All W1 wr) ∧ Below w.heap.size w wr) (fun iv _ => n - (intOf iv).toNat)
  case atStart => exact ⟨0, Nat.zero_le _, rfl, by show _ = _; simp, ⟨Nat.le_refl _, fun _ _ _ => rfl⟩, B1.out⟩
  case round =>
    obtain ⟨k, hk, rfl, hall, hso, hb⟩ := hrel
    have HB : Hid (Below w.heap.size w wr) := hb
    by_cases hlt : k < n
    · obtain ⟨x, hxk⟩ : ∃ x, fs[k]? = some x := ⟨fs[k]'(by rw [HN.out]; exact hlt), List.getElem?_eq_getElem _⟩
      obtain ⟨g, off, rfl, -, hgl, hat⟩ := HX.out (by intro h; rw [h] at hxk; simp at hxk)
      obtain ⟨cs, hcsl, hcs, r1⟩ := hat k x hxk
      obtain ⟨p1, n1, q1, rfl⟩ := fnShape r1
      obtain ⟨xs, xn, xc⟩ := x
      simp only at *
      have a0 := hcs 0 (by omega)
      have a1 := hcs 1 (by omega)
      have a2 := hcs 2 (by omega)
      rw [← hb.cell (p := ⟨g, _, none⟩) hgl] at a0 a1 a2
      simp at a0 a1 a2
      have hki : (k : Int) < (n : Int) := by omega
      have hk0 : (0 : Int) ≤ (k : Int) := by omega
      obtain ⟨W5, hW5⟩ : ∃ W5, W5 = wr.alloc (.cells #[.string xs, .int .i64 xn, .slice p1 n1 q1] 59) := ⟨_, rfl⟩
      have bF : Hid (Blk W5 wr.heap.size #[.string xs, .int .i64 xn, .slice p1 n1 q1] 59) := by show Blk _ _ _ _; rw [hW5]; exact Blk.new
      have K5 : Below wr.heap.size wr W5 := by rw [hW5]; exact (Below.refl _ _).alloc (Nat.le_refl _) _
      have B5 : Hid (Below w.heap.size w W5) := hb.trans (K5.mono hb.size)
      have S5 : Hid (SameOn All W1 W5) := hso.out.trans (SameOn.of_below K5)
      have HW5 : Hid (W5 = wr.alloc (.cells #[.string xs, .int .i64 xn, .slice p1 n1 q1] 59)) := hW5
      have bR := bA.out.same_on S5.out
      have y0 := bR.cell 0 _ rfl
      have y1 := bR.cell 1 _ rfl
      have z0 := bF.out.cell 0 _ rfl
      have z1 := bF.out.cell 1 _ rfl
      have z2 := bF.out.cell 2 _ rfl
      have l1 := bR.lt
      have l2 := bF.out.lt
      have qy0 : ∀ m : Wd (fun w' => SameOn All W5 w' ∧ Below w.heap.size w w'), m.val.cell? ⟨w.heap.size, 0, none⟩ = some (.string rs) := fun m => (World.cell?_of_block (m.ok.1.2 w.heap.size trivial l1)).trans y0
      have qy1 : ∀ m : Wd (fun w' => SameOn All W5 w' ∧ Below w.heap.size w w'), m.val.cell? ⟨w.heap.size, 1, none⟩ = some (.int .i64 rn) := fun m => (World.cell?_of_block (m.ok.1.2 w.heap.size trivial l1)).trans y1
      have qz0 : ∀ m : Wd (fun w' => SameOn All W5 w' ∧ Below w.heap.size w w'), m.val.cell? ⟨wr.heap.size, 0, none⟩ = some (.string xs) := fun m => (World.cell?_of_block (m.ok.1.2 wr.heap.size trivial l2)).trans z0
      have qz1 : ∀ m : Wd (fun w' => SameOn All W5 w' ∧ Below w.heap.size w w'), m.val.cell? ⟨wr.heap.size, 1, none⟩ = some (.int .i64 xn) := fun m => (World.cell?_of_block (m.ok.1.2 wr.heap.size trivial l2)).trans z1
      have qz2 : ∀ m : Wd (fun w' => SameOn All W5 w' ∧ Below w.heap.size w w'), m.val.cell? ⟨wr.heap.size, 2, none⟩ = some (.slice p1 n1 q1) := fun m => (World.cell?_of_block (m.ok.1.2 wr.heap.size trivial l2)).trans z2
      clear hb hcs hat hcsl r1 hW5 K5 y0 y1 z0 z1 z2 l1 l2 bR
      go_wp2_with fail
      rw [← HW5.out]
      have e1 := refG
      have e2 := refE
      have hCne : Nonempty (Wd (fun w' => SameOn All W5 w' ∧ Below w.heap.size w w')) := ⟨⟨W5.drew, ⟨⟨Nat.le_refl _, fun _ _ _ => rfl⟩, B5.out.drew⟩⟩⟩
      refine wp_region_class (fun w' => SameOn All W5 w' ∧ Below w.heap.size w w') (by kernel_rfl) (by kernel_rfl) ⟨⟨Nat.le_refl _, fun _ _ _ => rfl⟩, B5.out.drew⟩ ?_
      repeat (go_big_quiet_step (first | (rename_i m; go_at_call 53; refine (refOf_any _ _ _ _ _ _).mono ?_; rintro e w1 ⟨rfl, hb1⟩; exact ⟨rfl, ⟨⟨w1, ⟨(SameOn.trans m.ok.1 (SameOn.of_below hb1)), m.ok.2.trans (hb1.mono m.ok.2.size)⟩⟩, rfl⟩⟩)))
      refine wpQuiet_nil ?_
      rintro _ ⟨mq, rfl⟩
      have HB4 : Hid (Below w.heap.size w mq.val) := mq.ok.2
      have HS4 : Hid (SameOn All W1 mq.val) := S5.out.trans mq.ok.1
      generalize mq.val = w4 at HB4 HS4 ⊢
      generalize hcv : (xs.toList == rs.toList && xn == rn) = cv
      have HC2 : Hid (cv = false → (fs.take (k + 1)).any (sameR ⟨rs, rn⟩) = false) := fun h => anyT_succ _ fs k _ hxk hall.out (show (xs.toList == rs.toList && xn == rn) = false from hcv.trans h)
      have HC3 : Hid (cv = true → fs.any (sameR ⟨rs, rn⟩) = true) := fun h => anyT_at _ fs k _ hxk (show (xs.toList == rs.toList && xn == rn) = true from hcv.trans h)
      clear hcv
      cases cv with
      | false =>
        have HT' : Hid _ := HC2.out rfl
        clear HC2 HC3
        go_wp2_with fail
        exact ⟨⟨k + 1, by omega, by go_num, HT'.out, HS4.out, HB4.out⟩, by simp [intOf]; omega⟩
      | true =>
        have HF : Hid _ := HC3.out rfl
        clear HC2 HC3
        go_wp2_with fail
        go_ret
        exact ⟨by rw [HF.out]; rfl, HB4.out⟩
    · have HD : Hid (fs.any (sameR ⟨rs, rn⟩) = false) := by
        have := hall.out
        rwa [List.take_of_length_le (by rw [HN.out]; omega)] at this
      clear hb
      go_wp2_with fail
      go_ret
      exact ⟨by rw [HD.out]; rfl, HB.out⟩
end Go.Proofs.YthieikohcoajbaaDoor
