/-
  The law of Reckon, walked: at every sign and every two values.
-/
import Derived.Test.YtopjelgeedhkiabReckImpl
import Derived.Test.YtopjelgeedhkiabValEq
import Derived.Test.YtopjelgeedhkiabValMark
namespace Go.Proofs.Ytopjelgeedhkiab
open Go.ChangeShapes Go.WideShapes Go.ChangeAt Go.RowKit
set_option linter.unusedVariables false

theorem OVa.kids {w : World} {d : Nat} {a b : Int} {c : ByteArray} {v : Value} {x : Va} {fp : List Nat} (h : OVa w (d + 1) [.int .i64 a, .int .i64 b, .string c, v] x fp) : ORows w 28 4 (OVa w d) v x.kids fp := by
  obtain ⟨kv, h, -, -, -, hr⟩ := h
  simp only [List.cons.injEq, and_true] at h
  obtain ⟨-, -, -, rfl⟩ := h
  exact hr
theorem cntV_le : ∀ (d : Nat) (es : List Va), (es.map (cntV d)).sum ≤ 3 * wtS (wtVa d) es
  | 0, es => by
    have : (es.map (cntV 0)).sum = 0 := by
      induction es with
      | nil => rfl
      | cons a l ih => simp only [List.map_cons, List.sum_cons, ih]; rfl
    omega
  | d + 1, es => by
    unfold wtS
    induction es with
    | nil => simp
    | cons a l ih =>
      have h1 := cntV_le d a.kids
      have h2 : cntV (d + 1) a = 3 + (a.kids.map (cntV d)).sum := rfl
      have h3 : wtVa (d + 1) a = a.text.size + wtS (wtVa d) a.kids := rfl
      simp only [List.map_cons, List.sum_cons, List.length_cons]
      omega
set_option maxHeartbeats 4000000 in
theorem markVal_any (d : Nat) (w : World) (k0 n0 : Int) (t0 : ByteArray) (kv : Value) (es : List Va) (fp : List Nat) (k : Nat) (h : ORows w 28 4 (OVa w d) kv es fp) (hnd : fp.Nodup) (hk1 : 1 ≤ k) (hkb : k + (es.map (cntV d)).sum ≤ 1099511627776) :
    Calls Try.prog 9 #[.agg #[.int .i64 k0, .int .i64 n0, .string t0, kv], .int .i64 k] w fun e w' => e = .returned (.int .i64 ((k + (es.map (cntV d)).sum : Nat) : Int)) ∧ ORows w' 28 4 (OVa w' d) kv (markL (markV d) (cntV d) k es) fp ∧ Off fp w w' := by
  have HAL : Hid (Below w.heap.size w (w.alloc (.cells #[.int .i64 k0, .int .i64 n0, .string t0, kv] 28))) := (Below.refl _ _).alloc (Nat.le_refl _) _
  have hk := KeepOn.below HAL.out (h.lt (fun _ _ _ h => h.lt))
  have HR : Hid (ORows (w.alloc (.cells #[.int .i64 k0, .int .i64 n0, .string t0, kv] 28)) 28 4 (OVa (w.alloc (.cells #[.int .i64 k0, .int .i64 n0, .string t0, kv] 28)) d) kv es fp) := h.keep hk (fun cs x f _ hs h => h.keep (hk.sub hs))
  have HND : Hid fp.Nodup := hnd
  have HKB : Hid (k + (es.map (cntV d)).sum ≤ 1099511627776) := hkb
  obtain ⟨p, cap, hv, -⟩ := h.shape
  subst hv
  clear h hk hnd hkb
  go_enter Try.func9, Try.ntmps9
  go_wp2_with fail
  refine (markS_all d _ _ es fp k HR.out HND.out hk1 HKB.out).mono ?_
  rintro e w1 ⟨rfl, r1, o1⟩
  have R1 : Hid (ORows w1 28 4 (OVa w1 d) (.slice p es.length cap) (markL (markV d) (cntV d) k es) fp) := r1
  have O1 : Hid (Off fp w w1) := (Off.of_below HAL.out).trans o1
  clear r1 o1
  generalize hkz : k + (es.map (cntV d)).sum = kz at *
  have HKZ : Hid (k + (es.map (cntV d)).sum = kz) := hkz
  clear hkz
  go_wp2_with fail
  go_ret
  exact ⟨by rw [HKZ.out]; rfl, R1.out, O1.out⟩

set_option maxHeartbeats 4000000 in
theorem heldVal_any (d : Nat) (w : World) (k0 n0 : Int) (t0 : ByteArray) (kv : Value) (es : List Va) (k : Nat) (h : Rows w All 4 (HVa w All d) kv (markL (markV d) (cntV d) k es)) (hk1 : 1 ≤ k) (hkb : k + (es.map (cntV d)).sum ≤ 1099511627776) :
    Calls Try.prog 10 #[.agg #[.int .i64 k0, .int .i64 n0, .string t0, kv], .int .i64 k] w fun e w' => e = .returned (.int .i64 ((k + (es.map (cntV d)).sum : Nat) : Int)) ∧ Below w.heap.size w w' := by
  have HAL : Hid (Below w.heap.size w (w.alloc (.cells #[.int .i64 k0, .int .i64 n0, .string t0, kv] 28))) := (Below.refl _ _).alloc (Nat.le_refl _) _
  have HR : Hid (Rows (w.alloc (.cells #[.int .i64 k0, .int .i64 n0, .string t0, kv] 28)) All 4 (HVa (w.alloc (.cells #[.int .i64 k0, .int .i64 n0, .string t0, kv] 28)) All d) kv (markL (markV d) (cntV d) k es)) := h.mono (SameOn.of_below HAL.out) (fun _ h => h) (fun _ _ _ h => h.mono (SameOn.of_below HAL.out) (fun _ h => h))
  have HKB : Hid (k + (es.map (cntV d)).sum ≤ 1099511627776) := hkb
  obtain ⟨p, cap, hv, -⟩ := id h
  subst hv
  clear h hkb
  go_enter Try.func10, Try.ntmps10
  go_wp2_with fail
  refine (heldS_all d _ _ es k HR.out hk1 HKB.out).mono ?_
  rintro e w1 ⟨rfl, hb⟩
  have HB1 : Hid (Below w.heap.size w w1) := HAL.out.trans (hb.mono HAL.out.size)
  have hkb2 := HKB.out
  clear hb
  generalize hkz : k + (es.map (cntV d)).sum = kz at *
  have HKZ : Hid (k + (es.map (cntV d)).sum = kz) := hkz
  clear hkz
  go_wp2_with fail
  go_ret
  exact ⟨by rw [HKZ.out]; rfl, HB1.out⟩

theorem wrap_ok (z : Int) : okI (wrap64 z) := by
  show (Lit.int .i64 (wrap64 z)).wf = true
  unfold wrap64
  simp only [Lit.wf, IntKind.min, IntKind.max, IntKind.signed, IntKind.bits, Bool.and_eq_true, decide_eq_true_eq, if_true]
  omega

theorem keep_set4 {V : World} {b N : Nat} {a : Addr} {v v0 v1 v2 v3 : Value} (hN : N ≤ b) (ha : a.block < N) (h : V.cell? a = some v) :
    ((((V.setCell ⟨b, 0, none⟩ v0).setCell ⟨b, 1, none⟩ v1).setCell ⟨b, 2, none⟩ v2).setCell ⟨b, 3, none⟩ v3).cell? a = some v :=
  (Below.cell (B := N) (Below.setCell (Below.setCell (Below.setCell (Below.setCell (Below.refl _ _) hN _) hN _) hN _) hN _) ha).trans h
theorem below_via {a b c : World} (h : Below a.heap.size a b) (hb : Below b.heap.size b c) : Below a.heap.size a c := h.trans (hb.mono h.size)
theorem OVa.kids1 {w : World} {d dd : Nat} (hd : d = dd + 1) {a b : Int} {c : ByteArray} {v : Value} {x : Va} {fp : List Nat} (h : OVa w d [.int .i64 a, .int .i64 b, .string c, v] x fp) : ORows w 28 4 (OVa w dd) v x.kids fp := by subst hd; exact h.kids
theorem cnt_b {d dd : Nat} (hd : d = dd + 1) {x : Va} (h : wtVa d x ≤ 1048576) : (x.kids.map (cntV dd)).sum ≤ 3145728 := by
  subst hd
  have h1 := cntV_le dd x.kids
  have h2 : wtVa (dd + 1) x = x.text.size + wtS (wtVa dd) x.kids := rfl
  omega
theorem markVal_at (d : Nat) (w : World) (k0 n0 : Int) (t0 : ByteArray) (kv : Value) (es : List Va) (fp : List Nat) (k : Nat) (z : Int) (hz : z = k) (h : ORows w 28 4 (OVa w d) kv es fp) (hnd : fp.Nodup) (hk1 : 1 ≤ k) (hkb : k + (es.map (cntV d)).sum ≤ 1099511627776) :
    Calls Try.prog 9 #[.agg #[.int .i64 k0, .int .i64 n0, .string t0, kv], .int .i64 z] w fun e w' => e = .returned (.int .i64 ((k + (es.map (cntV d)).sum : Nat) : Int)) ∧ ORows w' 28 4 (OVa w' d) kv (markL (markV d) (cntV d) k es) fp ∧ Off fp w w' := by
  subst hz; exact markVal_any d w k0 n0 t0 kv es fp k h hnd hk1 hkb
/-- An answer of Reckon is a tree without kids, in whatever world. -/
def flat (r : (Int × Int × ByteArray) × Bool) : Va := .mk r.1.1 r.1.2.1 r.1.2.2 []
theorem reck_ok (d : Nat) (op : List UInt8) (x y : Va) : okI (reck d op x y).1.1 ∧ okI (reck d op x y).1.2.1 ∧ okS (reck d op x y).1.2.2 := by
  have h0 : okI 0 := by unfold okI; decide
  have h1 : okI 1 := by unfold okI; decide
  have he : okS ⟨#[]⟩ := Nat.zero_le _
  have ht : okS trueB := by unfold okS trueB maxLen; decide
  have hf : okS falseB := by unfold okS falseB maxLen; decide
  have hw : ∀ z : Int, okI (wrap64 z) := fun z => wrap_ok z
  unfold reck
  repeat' split
  all_goals first | exact ⟨h1, h0, ht⟩ | exact ⟨h1, h0, hf⟩ | exact ⟨h0, h0, he⟩ | exact ⟨h0, hw _, he⟩
theorem flat_HVa (w : World) {S : Nat → Prop} {d : Nat} {r : (Int × Int × ByteArray) × Bool} (h : okI r.1.1 ∧ okI r.1.2.1 ∧ okS r.1.2.2) : HVa w S (d + 1) [.int .i64 r.1.1, .int .i64 r.1.2.1, .string r.1.2.2, .slice none 0 0] (flat r) := ⟨_, rfl, h.1, h.2.1, h.2.2, Rows.nil (Nat.zero_le _)⟩

set_option maxHeartbeats 64000000 in
set_option maxRecDepth 100000 in
theorem fnExactReckon_walk (w : World) (d : Nat) (op : ByteArray) (cs0 cs1 : List Value) (m0 m1 : Va) (hsz : op.size ≤ maxLen) (h0 : HVa w (fun g => g < w.heap.size) d cs0 m0) (h1 : HVa w (fun g => g < w.heap.size) d cs1 m1) :
    Calls Try.prog 3 #[.string op, .agg cs0.toArray, .agg cs1.toArray] w fun e w' => e = .returned (.bool true) ∧ Below w.heap.size w w' := by
  have hsb := hsz
  unfold maxLen at hsb
  obtain ⟨k0, n0, s0, p0, l0, c0, hsh⟩ := h0.shape
  subst hsh
  obtain ⟨k1, n1, s1, p1, l1, c1, hsh⟩ := h1.shape
  subst hsh
  have Z0 : ∀ w', Below w.heap.size w w' → HVa w' (fun g => g < w.heap.size) d [.int .i64 k0, .int .i64 n0, .string s0, .slice p0 l0 c0] m0 := fun w' hw => h0.mono (SameOn.of_below hw) (fun _ h => h)
  have H0 : ∀ w', Below w.heap.size w w' → HVa w' All d [.int .i64 k0, .int .i64 n0, .string s0, .slice p0 l0 c0] m0 := fun w' hw => h0.mono (SameOn.of_below hw) (fun _ _ => trivial)
  have Z1 : ∀ w', Below w.heap.size w w' → HVa w' (fun g => g < w.heap.size) d [.int .i64 k1, .int .i64 n1, .string s1, .slice p1 l1 c1] m1 := fun w' hw => h1.mono (SameOn.of_below hw) (fun _ h => h)
  have H1 : ∀ w', Below w.heap.size w w' → HVa w' All d [.int .i64 k1, .int .i64 n1, .string s1, .slice p1 l1 c1] m1 := fun w' hw => h1.mono (SameOn.of_below hw) (fun _ _ => trivial)
  obtain ⟨dd, hd⟩ : ∃ dd, d = dd + 1 := by
    cases d with
    | zero => exact h0.elim
    | succ d => exact ⟨d, rfl⟩
  have HD : Hid (d = dd + 1) := hd
  clear h0 h1 hd
  obtain ⟨rk, rn, rt, rb, hR⟩ : ∃ rk rn rt rb, reck d op.toList m0 m1 = ((rk, rn, rt), rb) := ⟨_, _, _, _, rfl⟩
  have OK : Hid (okI rk ∧ okI rn ∧ okS rt) := by have := reck_ok d op.toList m0 m1; rw [hR] at this; exact this
  have SL : Hid (∀ w' c0 c1, HVa w' All d c0 m0 → HVa w' All d c1 m1 → Calls Try.prog 5 #[.string op, .agg c0.toArray, .agg c1.toArray] w' fun e w'' => e = .returned (.tuple #[.agg #[.int .i64 rk, .int .i64 rn, .string rt, .slice none 0 0], .bool rb]) ∧ Below w'.heap.size w' w'') := fun w' c0 c1 h0 h1 => by
    have := specReckon_any d w' op c0 c1 m0 m1 h0 h1
    rw [hR] at this; exact this
  have IL : Hid (∀ w' c0 c1, HVa w' All d c0 m0 → HVa w' All d c1 m1 → Calls Try.prog 7 #[.string op, .agg c0.toArray, .agg c1.toArray] w' fun e w'' => e = .returned (.tuple #[.agg #[.int .i64 rk, .int .i64 rn, .string rt, .slice none 0 0], .bool rb]) ∧ Below w'.heap.size w' w'') := fun w' c0 c1 h0 h1 => by
    have := implReckon_any d w' op c0 c1 m0 m1 h0 h1
    rw [hR] at this; exact this
  have FL : Hid (∀ w', HVa w' All 1 [.int .i64 rk, .int .i64 rn, .string rt, .slice none 0 0] (flat ((rk, rn, rt), rb))) := fun w' => flat_HVa w' (r := ((rk, rn, rt), rb)) OK.out
  clear hR
  by_cases hs : op.size ≤ 1048576
  · obtain ⟨W2, hW2⟩ : ∃ W2, W2 = (w.alloc (.cells #[.int .i64 k0, .int .i64 n0, .string s0, .slice p0 l0 c0] 24)).alloc (.cells #[.int .i64 k1, .int .i64 n1, .string s1, .slice p1 l1 c1] 24) := ⟨_, rfl⟩
    have A0_2 : Hid (Blk W2 w.heap.size #[.int .i64 k0, .int .i64 n0, .string s0, .slice p0 l0 c0] 24) := by show Blk _ _ _ _; rw [hW2]; exact Blk.new.alloc
    have A1_2 : Hid (Blk W2 (w.heap.size + 1) #[.int .i64 k1, .int .i64 n1, .string s1, .slice p1 l1 c1] 24) := by
      show Blk _ _ _ _
      rw [hW2]
      have := Blk.new (w := w.alloc (.cells #[.int .i64 k0, .int .i64 n0, .string s0, .slice p0 l0 c0] 24)) (cs := #[.int .i64 k1, .int .i64 n1, .string s1, .slice p1 l1 c1]) (t := 24)
      rwa [alloc_hs] at this
    have B2 : Hid (Below w.heap.size w W2) := by show Below _ _ _; rw [hW2]; exact ((Below.refl _ _).alloc (Nat.le_refl _) _).alloc (by simp) _
    have HW2 : Hid (W2 = (w.alloc (.cells #[.int .i64 k0, .int .i64 n0, .string s0, .slice p0 l0 c0] 24)).alloc (.cells #[.int .i64 k1, .int .i64 n1, .string s1, .slice p1 l1 c1] 24)) := hW2
    clear hW2
    generalize hx0 : wtVa d m0 = x0 at *
    have HX0 : Hid (wtVa d m0 = x0) := hx0
    generalize hx1 : wtVa d m1 = x1 at *
    have HX1 : Hid (wtVa d m1 = x1) := hx1
    clear hx0 hx1
    by_cases t0 : 1048576 < x0
    · have hr0 : leftOf 1048576 x0 = -1 := leftOf_lt t0
      go_enter Try.func3, Try.ntmps3
      go_wp2_with fail
      rw [← HW2.out]
      refine ((szVal_all (N := w.heap.size) d).at m0 _ (1048576) (by omega) ⟨_, rfl, Z0 _ B2.out⟩ (by omega)).mono ?_
      rintro e W3 ⟨rfl, hb⟩
      rw [HX0.out, hr0]
      have B3 : Hid (Below w.heap.size w W3) := B2.out.trans (hb.mono B2.out.size)
      have A0_3 : Hid (Blk W3 w.heap.size #[.int .i64 k0, .int .i64 n0, .string s0, .slice p0 l0 c0] 24) := A0_2.out.next hb
      have A1_3 : Hid (Blk W3 (w.heap.size + 1) #[.int .i64 k1, .int .i64 n1, .string s1, .slice p1 l1 c1] 24) := A1_2.out.next hb
      clear A0_2 A1_2
      clear hb
      go_wp2_with fail
      go_ret
      exact ⟨rfl, B3.out⟩
    have hr0 : leftOf 1048576 x0 = ((1048576 - x0 : Nat) : Int) := leftOf_ge (by omega)
    have HW0_ : Hid (wtVa d m0 ≤ 1048576) := by
      show _ ≤ _
      rw [HX0.out]; omega
    by_cases t1 : 1048576 - x0 < x1
    · have hr1 : leftOf (1048576 - x0) x1 = -1 := leftOf_lt t1
      go_enter Try.func3, Try.ntmps3
      go_wp2_with fail
      rw [← HW2.out]
      refine ((szVal_all (N := w.heap.size) d).at m0 _ (1048576) (by omega) ⟨_, rfl, Z0 _ B2.out⟩ (by omega)).mono ?_
      rintro e W3 ⟨rfl, hb⟩
      rw [HX0.out, hr0]
      have B3 : Hid (Below w.heap.size w W3) := B2.out.trans (hb.mono B2.out.size)
      have A0_3 : Hid (Blk W3 w.heap.size #[.int .i64 k0, .int .i64 n0, .string s0, .slice p0 l0 c0] 24) := A0_2.out.next hb
      have A1_3 : Hid (Blk W3 (w.heap.size + 1) #[.int .i64 k1, .int .i64 n1, .string s1, .slice p1 l1 c1] 24) := A1_2.out.next hb
      clear A0_2 A1_2
      clear hb
      have e0 := A1_3.out.cell 0 _ rfl
      have e1 := A1_3.out.cell 1 _ rfl
      have e2 := A1_3.out.cell 2 _ rfl
      have e3 := A1_3.out.cell 3 _ rfl
      go_wp2_with fail
      clear e0 e1 e2 e3
      refine ((szVal_all (N := w.heap.size) d).at m1 _ (1048576 - x0) (by omega) ⟨_, rfl, Z1 _ B3.out⟩ (by omega)).mono ?_
      rintro e W4 ⟨rfl, hb⟩
      rw [HX1.out, hr1]
      have B4 : Hid (Below w.heap.size w W4) := B3.out.trans (hb.mono B3.out.size)
      have A0_4 : Hid (Blk W4 w.heap.size #[.int .i64 k0, .int .i64 n0, .string s0, .slice p0 l0 c0] 24) := A0_3.out.next hb
      have A1_4 : Hid (Blk W4 (w.heap.size + 1) #[.int .i64 k1, .int .i64 n1, .string s1, .slice p1 l1 c1] 24) := A1_3.out.next hb
      clear A0_3 A1_3
      clear hb
      go_wp2_with fail
      go_ret
      exact ⟨rfl, B4.out⟩
    have hr1 : leftOf (1048576 - x0) x1 = ((1048576 - x0 - x1 : Nat) : Int) := leftOf_ge (by omega)
    have HW1_ : Hid (wtVa d m1 ≤ 1048576) := by
      show _ ≤ _
      rw [HX1.out]; omega
    go_enter Try.func3, Try.ntmps3
    go_wp2_with fail
    rw [← HW2.out]
    refine ((szVal_all (N := w.heap.size) d).at m0 _ (1048576) (by omega) ⟨_, rfl, Z0 _ B2.out⟩ (by omega)).mono ?_
    rintro e W3 ⟨rfl, hb⟩
    rw [HX0.out, hr0]
    have B3 : Hid (Below w.heap.size w W3) := B2.out.trans (hb.mono B2.out.size)
    have A0_3 : Hid (Blk W3 w.heap.size #[.int .i64 k0, .int .i64 n0, .string s0, .slice p0 l0 c0] 24) := A0_2.out.next hb
    have A1_3 : Hid (Blk W3 (w.heap.size + 1) #[.int .i64 k1, .int .i64 n1, .string s1, .slice p1 l1 c1] 24) := A1_2.out.next hb
    clear A0_2 A1_2
    clear hb
    have e0 := A1_3.out.cell 0 _ rfl
    have e1 := A1_3.out.cell 1 _ rfl
    have e2 := A1_3.out.cell 2 _ rfl
    have e3 := A1_3.out.cell 3 _ rfl
    go_wp2_with fail
    clear e0 e1 e2 e3
    refine ((szVal_all (N := w.heap.size) d).at m1 _ (1048576 - x0) (by omega) ⟨_, rfl, Z1 _ B3.out⟩ (by omega)).mono ?_
    rintro e W4 ⟨rfl, hb⟩
    rw [HX1.out, hr1]
    have B4 : Hid (Below w.heap.size w W4) := B3.out.trans (hb.mono B3.out.size)
    have A0_4 : Hid (Blk W4 w.heap.size #[.int .i64 k0, .int .i64 n0, .string s0, .slice p0 l0 c0] 24) := A0_3.out.next hb
    have A1_4 : Hid (Blk W4 (w.heap.size + 1) #[.int .i64 k1, .int .i64 n1, .string s1, .slice p1 l1 c1] 24) := A1_3.out.next hb
    clear A0_3 A1_3
    clear hb
    clear hr0 hr1
    have a00 := A0_4.out.cell 0 _ rfl
    have a01 := A0_4.out.cell 1 _ rfl
    have a02 := A0_4.out.cell 2 _ rfl
    have a03 := A0_4.out.cell 3 _ rfl
    have a10 := A1_4.out.cell 0 _ rfl
    have a11 := A1_4.out.cell 1 _ rfl
    have a12 := A1_4.out.cell 2 _ rfl
    have a13 := A1_4.out.cell 3 _ rfl
    have hzA := A1_4.out.lt
    go_wp2_with fail
    go_region_held3 (fun w' => w'.cell? ⟨w.heap.size, 0, none⟩ = some (.int .i64 k0) ∧ w'.cell? ⟨w.heap.size, 1, none⟩ = some (.int .i64 n0) ∧ w'.cell? ⟨w.heap.size, 2, none⟩ = some (.string s0) ∧ w'.cell? ⟨w.heap.size, 3, none⟩ = some (.slice p0 l0 c0) ∧ w'.cell? ⟨w.heap.size + 1, 0, none⟩ = some (.int .i64 k1) ∧ w'.cell? ⟨w.heap.size + 1, 1, none⟩ = some (.int .i64 n1) ∧ w'.cell? ⟨w.heap.size + 1, 2, none⟩ = some (.string s1) ∧ w'.cell? ⟨w.heap.size + 1, 3, none⟩ = some (.slice p1 l1 c1))
      (first | assumption | (go_split_ands; exact ⟨by with_reducible exact keep_set4 (N := w.heap.size + 2) (by omega) (by show w.heap.size < w.heap.size + 2; omega) (by assumption), by with_reducible exact keep_set4 (N := w.heap.size + 2) (by omega) (by show w.heap.size < w.heap.size + 2; omega) (by assumption), by with_reducible exact keep_set4 (N := w.heap.size + 2) (by omega) (by show w.heap.size < w.heap.size + 2; omega) (by assumption), by with_reducible exact keep_set4 (N := w.heap.size + 2) (by omega) (by show w.heap.size < w.heap.size + 2; omega) (by assumption), by with_reducible exact keep_set4 (N := w.heap.size + 2) (by omega) (by show w.heap.size + 1 < w.heap.size + 2; omega) (by assumption), by with_reducible exact keep_set4 (N := w.heap.size + 2) (by omega) (by show w.heap.size + 1 < w.heap.size + 2; omega) (by assumption), by with_reducible exact keep_set4 (N := w.heap.size + 2) (by omega) (by show w.heap.size + 1 < w.heap.size + 2; omega) (by assumption), by with_reducible exact keep_set4 (N := w.heap.size + 2) (by omega) (by show w.heap.size + 1 < w.heap.size + 2; omega) (by assumption)⟩) | (go_split_ands; exact ⟨by with_reducible exact cell_next hb (by assumption), by with_reducible exact cell_next hb (by assumption), by with_reducible exact cell_next hb (by assumption), by with_reducible exact cell_next hb (by assumption), by with_reducible exact cell_next hb (by assumption), by with_reducible exact cell_next hb (by assumption), by with_reducible exact cell_next hb (by assumption), by with_reducible exact cell_next hb (by assumption)⟩) | (go_split_ands; exact ⟨by with_reducible exact cell_next ((Below.refl _ _).alloc (Nat.le_refl _) _) (by assumption), by with_reducible exact cell_next ((Below.refl _ _).alloc (Nat.le_refl _) _) (by assumption), by with_reducible exact cell_next ((Below.refl _ _).alloc (Nat.le_refl _) _) (by assumption), by with_reducible exact cell_next ((Below.refl _ _).alloc (Nat.le_refl _) _) (by assumption), by with_reducible exact cell_next ((Below.refl _ _).alloc (Nat.le_refl _) _) (by assumption), by with_reducible exact cell_next ((Below.refl _ _).alloc (Nat.le_refl _) _) (by assumption), by with_reducible exact cell_next ((Below.refl _ _).alloc (Nat.le_refl _) _) (by assumption), by with_reducible exact cell_next ((Below.refl _ _).alloc (Nat.le_refl _) _) (by assumption)⟩) | (go_split_ands; exact ⟨by with_reducible exact cell_next (Below.drew ((Below.refl _ _).alloc (Nat.le_refl _) _)) (by assumption), by with_reducible exact cell_next (Below.drew ((Below.refl _ _).alloc (Nat.le_refl _) _)) (by assumption), by with_reducible exact cell_next (Below.drew ((Below.refl _ _).alloc (Nat.le_refl _) _)) (by assumption), by with_reducible exact cell_next (Below.drew ((Below.refl _ _).alloc (Nat.le_refl _) _)) (by assumption), by with_reducible exact cell_next (Below.drew ((Below.refl _ _).alloc (Nat.le_refl _) _)) (by assumption), by with_reducible exact cell_next (Below.drew ((Below.refl _ _).alloc (Nat.le_refl _) _)) (by assumption), by with_reducible exact cell_next (Below.drew ((Below.refl _ _).alloc (Nat.le_refl _) _)) (by assumption), by with_reducible exact cell_next (Below.drew ((Below.refl _ _).alloc (Nat.le_refl _) _)) (by assumption)⟩) | go_keep)
      (first
        | (go_at_call_of 6 (Value.slice p0 l0 c0); refine (toVal_all d _ _ m0 ⟨_, rfl, H0 _ (by first | with_reducible exact B4.out.drew | with_reducible exact (B4.out.alloc B4.out.size _).drew | with_reducible exact (B4.out.drew.alloc B4.out.size _))⟩ HW0_.out).mono ?_; rintro e V5 ⟨u, rfl, ⟨cs, rfl, hx⟩, hb⟩; obtain ⟨ku50, nu50, su50, pu50, lu50, cu50, hsh⟩ := hx.shape; subst hsh; have U0 : ∀ w', Below V5.heap.size V5 w' → HVa w' All d [.int .i64 ku50, .int .i64 nu50, .string su50, .slice pu50 lu50 cu50] m0 := fun w' hw => hx.mono (SameOn.of_below hw) (fun _ _ => trivial); have gV : Below W4.heap.size W4 V5 := (by first | (have h1 : Below W4.drew.heap.size W4.drew V5 := (by with_reducible exact hb); exact ⟨h1.os, h1.tape, h1.output, h1.size, h1.block⟩) | (have h1 : Below (W4.alloc (.cells #[.int .i64 0, .int .i64 0, .string ⟨#[]⟩, .slice none 0 0] 28)).drew.heap.size (W4.alloc (.cells #[.int .i64 0, .int .i64 0, .string ⟨#[]⟩, .slice none 0 0] 28)).drew V5 := (by with_reducible exact hb); exact below_via (b := W4.alloc (.cells #[.int .i64 0, .int .i64 0, .string ⟨#[]⟩, .slice none 0 0] 28)) ((Below.refl _ _).alloc (Nat.le_refl _) _) ⟨h1.os, h1.tape, h1.output, h1.size, h1.block⟩) | (have h1 : Below (W4.drew.alloc (.cells #[.int .i64 0, .int .i64 0, .string ⟨#[]⟩, .slice none 0 0] 28)).heap.size (W4.drew.alloc (.cells #[.int .i64 0, .int .i64 0, .string ⟨#[]⟩, .slice none 0 0] 28)) V5 := (by with_reducible exact hb); exact below_via (b := W4.alloc (.cells #[.int .i64 0, .int .i64 0, .string ⟨#[]⟩, .slice none 0 0] 28)) ((Below.refl _ _).alloc (Nat.le_refl _) _) ⟨h1.os, h1.tape, h1.output, h1.size, h1.block⟩)); have GV5 : Hid (Below W4.heap.size W4 V5) := gV; clear gV; have zV5 := GV5.out.size; (first | (have hbA : Below (W4.alloc (.cells #[.int .i64 0, .int .i64 0, .string ⟨#[]⟩, .slice none 0 0] 28)).drew.heap.size (W4.alloc (.cells #[.int .i64 0, .int .i64 0, .string ⟨#[]⟩, .slice none 0 0] 28)).drew V5 := (by with_reducible exact hb); have BXV5 : Hid (Blk V5 W4.heap.size #[.int .i64 0, .int .i64 0, .string ⟨#[]⟩, .slice none 0 0] 28) := Blk.next (w := W4.alloc (.cells #[.int .i64 0, .int .i64 0, .string ⟨#[]⟩, .slice none 0 0] 28)) Blk.new ⟨hbA.os, hbA.tape, hbA.output, hbA.size, hbA.block⟩; clear hbA) | (have hbA : Below (W4.drew.alloc (.cells #[.int .i64 0, .int .i64 0, .string ⟨#[]⟩, .slice none 0 0] 28)).heap.size (W4.drew.alloc (.cells #[.int .i64 0, .int .i64 0, .string ⟨#[]⟩, .slice none 0 0] 28)) V5 := (by with_reducible exact hb); have BXV5 : Hid (Blk V5 W4.heap.size #[.int .i64 0, .int .i64 0, .string ⟨#[]⟩, .slice none 0 0] 28) := Blk.next (w := W4.alloc (.cells #[.int .i64 0, .int .i64 0, .string ⟨#[]⟩, .slice none 0 0] 28)) Blk.new ⟨hbA.os, hbA.tape, hbA.output, hbA.size, hbA.block⟩; clear hbA) | skip); have yV5_00 := cell_next GV5.out a00; have yV5_01 := cell_next GV5.out a01; have yV5_02 := cell_next GV5.out a02; have yV5_03 := cell_next GV5.out a03; have yV5_10 := cell_next GV5.out a10; have yV5_11 := cell_next GV5.out a11; have yV5_12 := cell_next GV5.out a12; have yV5_13 := cell_next GV5.out a13; clear hx)
        | (go_at_call_of 6 (Value.slice p1 l1 c1); refine (toVal_all d _ _ m1 ⟨_, rfl, H1 _ (by first | with_reducible exact B4.out.trans (GV5.out.mono B4.out.size) | with_reducible exact (B4.out.trans (GV5.out.mono B4.out.size)).alloc (Nat.le_trans B4.out.size GV5.out.size) _)⟩ HW1_.out).mono ?_; rintro e V6 ⟨u, rfl, ⟨cs, rfl, hx⟩, hb⟩; obtain ⟨ku51, nu51, su51, pu51, lu51, cu51, hsh⟩ := hx.shape; subst hsh; have U1 : ∀ w', Below V6.heap.size V6 w' → HVa w' All d [.int .i64 ku51, .int .i64 nu51, .string su51, .slice pu51 lu51 cu51] m1 := fun w' hw => hx.mono (SameOn.of_below hw) (fun _ _ => trivial); have gV : Below V5.heap.size V5 V6 := (by first | (have h1 : Below V5.heap.size V5 V6 := (by with_reducible exact hb); exact h1) | (have h1 : Below (V5.alloc (.cells #[.int .i64 0, .int .i64 0, .string ⟨#[]⟩, .slice none 0 0] 28)).heap.size (V5.alloc (.cells #[.int .i64 0, .int .i64 0, .string ⟨#[]⟩, .slice none 0 0] 28)) V6 := (by with_reducible exact hb); exact below_via ((Below.refl _ _).alloc (Nat.le_refl _) _) h1)); have GV6 : Hid (Below V5.heap.size V5 V6) := gV; clear gV; have zV6 := GV6.out.size; (first | (have BXV6 : Hid (Blk V6 W4.heap.size #[.int .i64 0, .int .i64 0, .string ⟨#[]⟩, .slice none 0 0] 28) := (show Blk _ _ _ _ from (by with_reducible exact Blk.next BXV5.out GV6.out))) | (have hbA : Below (V5.alloc (.cells #[.int .i64 0, .int .i64 0, .string ⟨#[]⟩, .slice none 0 0] 28)).heap.size (V5.alloc (.cells #[.int .i64 0, .int .i64 0, .string ⟨#[]⟩, .slice none 0 0] 28)) V6 := (by with_reducible exact hb); have BXV6 : Hid (Blk V6 V5.heap.size #[.int .i64 0, .int .i64 0, .string ⟨#[]⟩, .slice none 0 0] 28) := Blk.next (w := V5.alloc (.cells #[.int .i64 0, .int .i64 0, .string ⟨#[]⟩, .slice none 0 0] 28)) Blk.new ⟨hbA.os, hbA.tape, hbA.output, hbA.size, hbA.block⟩; clear hbA) | skip); have yV6_00 := cell_next GV6.out yV5_00; have yV6_01 := cell_next GV6.out yV5_01; have yV6_02 := cell_next GV6.out yV5_02; have yV6_03 := cell_next GV6.out yV5_03; have yV6_10 := cell_next GV6.out yV5_10; have yV6_11 := cell_next GV6.out yV5_11; have yV6_12 := cell_next GV6.out yV5_12; have yV6_13 := cell_next GV6.out yV5_13; clear hx)
        | (go_at_call 5; refine (SL.out _ _ _ (U0 _ (by first | with_reducible exact GV6.out | with_reducible exact GV6.out.alloc GV6.out.size _)) (U1 _ (by first | with_reducible exact Below.refl _ _ | with_reducible exact (Below.refl _ _).alloc (Nat.le_refl _) _))).mono ?_; rintro e V7 ⟨rfl, hb⟩; have gV : Below V6.heap.size V6 V7 := (by first | with_reducible exact hb | (have h1 : Below (V6.alloc (.cells #[.int .i64 0, .int .i64 0, .string ⟨#[]⟩, .slice none 0 0] 28)).heap.size (V6.alloc (.cells #[.int .i64 0, .int .i64 0, .string ⟨#[]⟩, .slice none 0 0] 28)) V7 := (by with_reducible exact hb); exact below_via ((Below.refl _ _).alloc (Nat.le_refl _) _) h1)); have GV7 : Hid (Below V6.heap.size V6 V7) := gV; clear gV; have zV7 := GV7.out.size; (first | (have BXV7 : Hid (Blk V7 W4.heap.size #[.int .i64 0, .int .i64 0, .string ⟨#[]⟩, .slice none 0 0] 28) := (show Blk _ _ _ _ from (by with_reducible exact Blk.next BXV6.out GV7.out))) | (have BXV7 : Hid (Blk V7 V5.heap.size #[.int .i64 0, .int .i64 0, .string ⟨#[]⟩, .slice none 0 0] 28) := (show Blk _ _ _ _ from (by with_reducible exact Blk.next BXV6.out GV7.out))) | (have hbA : Below (V6.alloc (.cells #[.int .i64 0, .int .i64 0, .string ⟨#[]⟩, .slice none 0 0] 28)).heap.size (V6.alloc (.cells #[.int .i64 0, .int .i64 0, .string ⟨#[]⟩, .slice none 0 0] 28)) V7 := (by with_reducible exact hb); have BXV7 : Hid (Blk V7 V6.heap.size #[.int .i64 0, .int .i64 0, .string ⟨#[]⟩, .slice none 0 0] 28) := Blk.next (w := V6.alloc (.cells #[.int .i64 0, .int .i64 0, .string ⟨#[]⟩, .slice none 0 0] 28)) Blk.new ⟨hbA.os, hbA.tape, hbA.output, hbA.size, hbA.block⟩; clear hbA) | skip); (try (have x0 := BXV7.out.cell 0 _ rfl; have g0 := BXV7.out.frozen 0; have x1 := BXV7.out.cell 1 _ rfl; have g1 := BXV7.out.frozen 1; have x2 := BXV7.out.cell 2 _ rfl; have g2 := BXV7.out.frozen 2; have x3 := BXV7.out.cell 3 _ rfl; have g3 := BXV7.out.frozen 3)); have yV7_00 := cell_next GV7.out yV6_00; have yV7_01 := cell_next GV7.out yV6_01; have yV7_02 := cell_next GV7.out yV6_02; have yV7_03 := cell_next GV7.out yV6_03; have yV7_10 := cell_next GV7.out yV6_10; have yV7_11 := cell_next GV7.out yV6_11; have yV7_12 := cell_next GV7.out yV6_12; have yV7_13 := cell_next GV7.out yV6_13; skip))
    · have way := True.intro
      try clear x0 x1 x2 x3 g0 g1 g2 g3
      clear yV5_00 yV5_01 yV5_02 yV5_03 yV5_10 yV5_11 yV5_12 yV5_13 yV6_00 yV6_01 yV6_02 yV6_03 yV6_10 yV6_11 yV6_12 yV6_13 yV7_00 yV7_01 yV7_02 yV7_03 yV7_10 yV7_11 yV7_12 yV7_13
      clear a00 a01 a02 a03 a10 a11 a12 a13
      obtain ⟨W8, hW⟩ : ∃ W, W = (V7.alloc (.cells #[.int .i64 rk, .int .i64 rn, .string rt, .slice none 0 0] 28)) := ⟨_, rfl⟩
      have kk := below_via (below_via GV5.out GV6.out) GV7.out
      have BW_8 : Hid (Blk W8 V7.heap.size #[.int .i64 rk, .int .i64 rn, .string rt, .slice none 0 0] 28) := by
        show Blk _ _ _ _
        rw [hW]; exact Blk.new
      have hb : Below W4.heap.size W4 W8 := by rw [hW]; exact kk.alloc kk.size _
      have HW8 : Hid (W8 = (V7.alloc (.cells #[.int .i64 rk, .int .i64 rn, .string rt, .slice none 0 0] 28))) := hW
      clear hW kk U0 U1 hzA zV5 zV6 zV7
      try clear BXV5
      try clear BXV6
      try clear BXV7
      have B8 : Hid (Below w.heap.size w W8) := B4.out.trans (hb.mono B4.out.size)
      have A0_8 : Hid (Blk W8 w.heap.size #[.int .i64 k0, .int .i64 n0, .string s0, .slice p0 l0 c0] 24) := A0_4.out.next hb
      have A1_8 : Hid (Blk W8 (w.heap.size + 1) #[.int .i64 k1, .int .i64 n1, .string s1, .slice p1 l1 c1] 24) := A1_4.out.next hb
      clear A0_4 A1_4
      clear hb
      have LA : Hid (w.heap.size + 1 < W8.heap.size) := A1_8.out.lt
      have LW : Hid (V7.heap.size < W8.heap.size) := BW_8.out.lt
      have e0 := A0_8.out.cell 0 _ rfl
      have e1 := A0_8.out.cell 1 _ rfl
      have e2 := A0_8.out.cell 2 _ rfl
      have e3 := A0_8.out.cell 3 _ rfl
      rw [HW8.out] at e0 e1 e2 e3
      go_wp2_with fail
      rw [← HW8.out]
      clear e0 e1 e2 e3
      refine (toVal_own d _ _ m0 ⟨_, rfl, H0 _ B8.out⟩ HW0_.out).mono ?_
      rintro e W9 ⟨u, fp0, rfl, ⟨cs, rfl, ox⟩, nd, rg, hb⟩
      obtain ⟨kx0, nx0, sx0, px0, lx0, cx0, hsh⟩ := ox.shape
      subst hsh
      have N0 : Hid fp0.Nodup := nd
      have R0 : Hid (∀ a ∈ fp0, W8.heap.size ≤ a ∧ a < W9.heap.size) := rg
      have S0 : Hid (W8.heap.size ≤ W9.heap.size) := hb.size
      have O0_9 : Hid (OVa W9 d [.int .i64 kx0, .int .i64 nx0, .string sx0, .slice px0 lx0 cx0] m0 fp0) := ox
      clear ox nd rg
      have B9 : Hid (Below w.heap.size w W9) := B8.out.trans (hb.mono B8.out.size)
      have A0_9 : Hid (Blk W9 w.heap.size #[.int .i64 k0, .int .i64 n0, .string s0, .slice p0 l0 c0] 24) := A0_8.out.next hb
      have A1_9 : Hid (Blk W9 (w.heap.size + 1) #[.int .i64 k1, .int .i64 n1, .string s1, .slice p1 l1 c1] 24) := A1_8.out.next hb
      have BW_9 : Hid (Blk W9 V7.heap.size #[.int .i64 rk, .int .i64 rn, .string rt, .slice none 0 0] 28) := BW_8.out.next hb
      clear A0_8 A1_8 BW_8
      clear hb
      obtain ⟨W10, hW⟩ : ∃ W, W = (W9.alloc (.cells #[.int .i64 kx0, .int .i64 nx0, .string sx0, .slice px0 lx0 cx0] 28)) := ⟨_, rfl⟩
      have hb : Below W9.heap.size W9 W10 := by rw [hW]; exact (Below.refl _ _).alloc (Nat.le_refl _) _
      have X0_10 : Hid (Blk W10 W9.heap.size #[.int .i64 kx0, .int .i64 nx0, .string sx0, .slice px0 lx0 cx0] 28) := by
        show Blk _ _ _ _
        rw [hW]; exact Blk.new
      have HSZ10 : Hid (W10.heap.size = W9.heap.size + 1) := by
        show _ = _
        rw [hW]; simp only [alloc_hs]
      have HW10 : Hid (W10 = (W9.alloc (.cells #[.int .i64 kx0, .int .i64 nx0, .string sx0, .slice px0 lx0 cx0] 28))) := hW
      have B10 : Hid (Below w.heap.size w W10) := B9.out.trans (hb.mono B9.out.size)
      have A0_10 : Hid (Blk W10 w.heap.size #[.int .i64 k0, .int .i64 n0, .string s0, .slice p0 l0 c0] 24) := A0_9.out.next hb
      have A1_10 : Hid (Blk W10 (w.heap.size + 1) #[.int .i64 k1, .int .i64 n1, .string s1, .slice p1 l1 c1] 24) := A1_9.out.next hb
      have BW_10 : Hid (Blk W10 V7.heap.size #[.int .i64 rk, .int .i64 rn, .string rt, .slice none 0 0] 28) := BW_9.out.next hb
      have O0_10 : Hid (OVa W10 d [.int .i64 kx0, .int .i64 nx0, .string sx0, .slice px0 lx0 cx0] m0 fp0) := O0_9.out.keep (KeepOn.below hb O0_9.out.lt)
      clear A0_9 A1_9 BW_9 O0_9
      clear hb
      have e0 := A1_10.out.cell 0 _ rfl
      have e1 := A1_10.out.cell 1 _ rfl
      have e2 := A1_10.out.cell 2 _ rfl
      have e3 := A1_10.out.cell 3 _ rfl
      rw [HW10.out] at e0 e1 e2 e3
      go_wp2_with fail
      rw [← HW10.out]
      clear e0 e1 e2 e3
      refine (toVal_own d _ _ m1 ⟨_, rfl, H1 _ B10.out⟩ HW1_.out).mono ?_
      rintro e W11 ⟨u, fp1, rfl, ⟨cs, rfl, ox⟩, nd, rg, hb⟩
      obtain ⟨kx1, nx1, sx1, px1, lx1, cx1, hsh⟩ := ox.shape
      subst hsh
      have N1 : Hid fp1.Nodup := nd
      have R1 : Hid (∀ a ∈ fp1, W10.heap.size ≤ a ∧ a < W11.heap.size) := rg
      have S1 : Hid (W10.heap.size ≤ W11.heap.size) := hb.size
      have O1_11 : Hid (OVa W11 d [.int .i64 kx1, .int .i64 nx1, .string sx1, .slice px1 lx1 cx1] m1 fp1) := ox
      clear ox nd rg
      have B11 : Hid (Below w.heap.size w W11) := B10.out.trans (hb.mono B10.out.size)
      have A0_11 : Hid (Blk W11 w.heap.size #[.int .i64 k0, .int .i64 n0, .string s0, .slice p0 l0 c0] 24) := A0_10.out.next hb
      have A1_11 : Hid (Blk W11 (w.heap.size + 1) #[.int .i64 k1, .int .i64 n1, .string s1, .slice p1 l1 c1] 24) := A1_10.out.next hb
      have BW_11 : Hid (Blk W11 V7.heap.size #[.int .i64 rk, .int .i64 rn, .string rt, .slice none 0 0] 28) := BW_10.out.next hb
      have O0_11 : Hid (OVa W11 d [.int .i64 kx0, .int .i64 nx0, .string sx0, .slice px0 lx0 cx0] m0 fp0) := O0_10.out.keep (KeepOn.below hb O0_10.out.lt)
      have X0_11 : Hid (Blk W11 W9.heap.size #[.int .i64 kx0, .int .i64 nx0, .string sx0, .slice px0 lx0 cx0] 28) := X0_10.out.next hb
      clear A0_10 A1_10 BW_10 O0_10 X0_10
      clear hb
      obtain ⟨W12, hW⟩ : ∃ W, W = (W11.alloc (.cells #[.int .i64 kx1, .int .i64 nx1, .string sx1, .slice px1 lx1 cx1] 28)) := ⟨_, rfl⟩
      have hb : Below W11.heap.size W11 W12 := by rw [hW]; exact (Below.refl _ _).alloc (Nat.le_refl _) _
      have X1_12 : Hid (Blk W12 W11.heap.size #[.int .i64 kx1, .int .i64 nx1, .string sx1, .slice px1 lx1 cx1] 28) := by
        show Blk _ _ _ _
        rw [hW]; exact Blk.new
      have HSZ12 : Hid (W12.heap.size = W11.heap.size + 1) := by
        show _ = _
        rw [hW]; simp only [alloc_hs]
      have HW12 : Hid (W12 = (W11.alloc (.cells #[.int .i64 kx1, .int .i64 nx1, .string sx1, .slice px1 lx1 cx1] 28))) := hW
      have B12 : Hid (Below w.heap.size w W12) := B11.out.trans (hb.mono B11.out.size)
      have A0_12 : Hid (Blk W12 w.heap.size #[.int .i64 k0, .int .i64 n0, .string s0, .slice p0 l0 c0] 24) := A0_11.out.next hb
      have A1_12 : Hid (Blk W12 (w.heap.size + 1) #[.int .i64 k1, .int .i64 n1, .string s1, .slice p1 l1 c1] 24) := A1_11.out.next hb
      have BW_12 : Hid (Blk W12 V7.heap.size #[.int .i64 rk, .int .i64 rn, .string rt, .slice none 0 0] 28) := BW_11.out.next hb
      have O0_12 : Hid (OVa W12 d [.int .i64 kx0, .int .i64 nx0, .string sx0, .slice px0 lx0 cx0] m0 fp0) := O0_11.out.keep (KeepOn.below hb O0_11.out.lt)
      have X0_12 : Hid (Blk W12 W9.heap.size #[.int .i64 kx0, .int .i64 nx0, .string sx0, .slice px0 lx0 cx0] 28) := X0_11.out.next hb
      have O1_12 : Hid (OVa W12 d [.int .i64 kx1, .int .i64 nx1, .string sx1, .slice px1 lx1 cx1] m1 fp1) := O1_11.out.keep (KeepOn.below hb O1_11.out.lt)
      clear A0_11 A1_11 BW_11 O0_11 X0_11 O1_11
      clear hb
      have e0 := X0_12.out.cell 0 _ rfl
      have e1 := X0_12.out.cell 1 _ rfl
      have e2 := X0_12.out.cell 2 _ rfl
      have e3 := X0_12.out.cell 3 _ rfl
      have e4 := X1_12.out.cell 0 _ rfl
      have e5 := X1_12.out.cell 1 _ rfl
      have e6 := X1_12.out.cell 2 _ rfl
      have e7 := X1_12.out.cell 3 _ rfl
      rw [HW12.out] at e0 e1 e2 e3 e4 e5 e6 e7
      go_wp2_with fail
      rw [← HW12.out]
      clear e0 e1 e2 e3 e4 e5 e6 e7
      refine (IL.out _ _ _ (O0_12.out.tree (fun _ _ => trivial)) (O1_12.out.tree (fun _ _ => trivial))).mono ?_
      rintro e W13 ⟨rfl, hb⟩
      have LG0 : W12.heap.size ≤ W13.heap.size := hb.size
      have B13 : Hid (Below w.heap.size w W13) := B12.out.trans (hb.mono B12.out.size)
      have A0_13 : Hid (Blk W13 w.heap.size #[.int .i64 k0, .int .i64 n0, .string s0, .slice p0 l0 c0] 24) := A0_12.out.next hb
      have A1_13 : Hid (Blk W13 (w.heap.size + 1) #[.int .i64 k1, .int .i64 n1, .string s1, .slice p1 l1 c1] 24) := A1_12.out.next hb
      have BW_13 : Hid (Blk W13 V7.heap.size #[.int .i64 rk, .int .i64 rn, .string rt, .slice none 0 0] 28) := BW_12.out.next hb
      have O0_13 : Hid (OVa W13 d [.int .i64 kx0, .int .i64 nx0, .string sx0, .slice px0 lx0 cx0] m0 fp0) := O0_12.out.keep (KeepOn.below hb O0_12.out.lt)
      have X0_13 : Hid (Blk W13 W9.heap.size #[.int .i64 kx0, .int .i64 nx0, .string sx0, .slice px0 lx0 cx0] 28) := X0_12.out.next hb
      have O1_13 : Hid (OVa W13 d [.int .i64 kx1, .int .i64 nx1, .string sx1, .slice px1 lx1 cx1] m1 fp1) := O1_12.out.keep (KeepOn.below hb O1_12.out.lt)
      have X1_13 : Hid (Blk W13 W11.heap.size #[.int .i64 kx1, .int .i64 nx1, .string sx1, .slice px1 lx1 cx1] 28) := X1_12.out.next hb
      clear A0_12 A1_12 BW_12 O0_12 X0_12 O1_12 X1_12
      clear hb
      obtain ⟨W14, hW⟩ : ∃ W, W = (W13.alloc (.cells #[.int .i64 rk, .int .i64 rn, .string rt, .slice none 0 0] 28)) := ⟨_, rfl⟩
      have hb : Below W13.heap.size W13 W14 := by rw [hW]; exact (Below.refl _ _).alloc (Nat.le_refl _) _
      have LG : Hid (W12.heap.size ≤ W13.heap.size) := LG0
      have BG_14 : Hid (Blk W14 W13.heap.size #[.int .i64 rk, .int .i64 rn, .string rt, .slice none 0 0] 28) := by
        show Blk _ _ _ _
        rw [hW]; exact Blk.new
      have HSZ14 : Hid (W14.heap.size = W13.heap.size + 1) := by
        show _ = _
        rw [hW]; simp only [alloc_hs]
      have HW14 : Hid (W14 = (W13.alloc (.cells #[.int .i64 rk, .int .i64 rn, .string rt, .slice none 0 0] 28))) := hW
      have B14 : Hid (Below w.heap.size w W14) := B13.out.trans (hb.mono B13.out.size)
      have A0_14 : Hid (Blk W14 w.heap.size #[.int .i64 k0, .int .i64 n0, .string s0, .slice p0 l0 c0] 24) := A0_13.out.next hb
      have A1_14 : Hid (Blk W14 (w.heap.size + 1) #[.int .i64 k1, .int .i64 n1, .string s1, .slice p1 l1 c1] 24) := A1_13.out.next hb
      have BW_14 : Hid (Blk W14 V7.heap.size #[.int .i64 rk, .int .i64 rn, .string rt, .slice none 0 0] 28) := BW_13.out.next hb
      have O0_14 : Hid (OVa W14 d [.int .i64 kx0, .int .i64 nx0, .string sx0, .slice px0 lx0 cx0] m0 fp0) := O0_13.out.keep (KeepOn.below hb O0_13.out.lt)
      have X0_14 : Hid (Blk W14 W9.heap.size #[.int .i64 kx0, .int .i64 nx0, .string sx0, .slice px0 lx0 cx0] 28) := X0_13.out.next hb
      have O1_14 : Hid (OVa W14 d [.int .i64 kx1, .int .i64 nx1, .string sx1, .slice px1 lx1 cx1] m1 fp1) := O1_13.out.keep (KeepOn.below hb O1_13.out.lt)
      have X1_14 : Hid (Blk W14 W11.heap.size #[.int .i64 kx1, .int .i64 nx1, .string sx1, .slice px1 lx1 cx1] 28) := X1_13.out.next hb
      clear A0_13 A1_13 BW_13 O0_13 X0_13 O1_13 X1_13
      clear hb
      have e0 := BG_14.out.cell 0 _ rfl
      have e1 := BG_14.out.cell 1 _ rfl
      have e2 := BG_14.out.cell 2 _ rfl
      have e3 := BG_14.out.cell 3 _ rfl
      have e4 := BW_14.out.cell 0 _ rfl
      have e5 := BW_14.out.cell 1 _ rfl
      have e6 := BW_14.out.cell 2 _ rfl
      have e7 := BW_14.out.cell 3 _ rfl
      rw [HW14.out] at e0 e1 e2 e3 e4 e5 e6 e7
      go_wp2_with fail
      rw [← HW14.out]
      clear e0 e1 e2 e3 e4 e5 e6 e7
      refine (eqVal_all 1 _ _ _ (flat ((rk, rn, rt), rb)) ⟨_, rfl, FL.out _⟩ ⟨_, rfl, FL.out _⟩).mono ?_
      rintro e W15 ⟨rfl, hb⟩
      have B15 : Hid (Below w.heap.size w W15) := B14.out.trans (hb.mono B14.out.size)
      have A0_15 : Hid (Blk W15 w.heap.size #[.int .i64 k0, .int .i64 n0, .string s0, .slice p0 l0 c0] 24) := A0_14.out.next hb
      have A1_15 : Hid (Blk W15 (w.heap.size + 1) #[.int .i64 k1, .int .i64 n1, .string s1, .slice p1 l1 c1] 24) := A1_14.out.next hb
      have BW_15 : Hid (Blk W15 V7.heap.size #[.int .i64 rk, .int .i64 rn, .string rt, .slice none 0 0] 28) := BW_14.out.next hb
      have O0_15 : Hid (OVa W15 d [.int .i64 kx0, .int .i64 nx0, .string sx0, .slice px0 lx0 cx0] m0 fp0) := O0_14.out.keep (KeepOn.below hb O0_14.out.lt)
      have X0_15 : Hid (Blk W15 W9.heap.size #[.int .i64 kx0, .int .i64 nx0, .string sx0, .slice px0 lx0 cx0] 28) := X0_14.out.next hb
      have O1_15 : Hid (OVa W15 d [.int .i64 kx1, .int .i64 nx1, .string sx1, .slice px1 lx1 cx1] m1 fp1) := O1_14.out.keep (KeepOn.below hb O1_14.out.lt)
      have X1_15 : Hid (Blk W15 W11.heap.size #[.int .i64 kx1, .int .i64 nx1, .string sx1, .slice px1 lx1 cx1] 28) := X1_14.out.next hb
      have BG_15 : Hid (Blk W15 W13.heap.size #[.int .i64 rk, .int .i64 rn, .string rt, .slice none 0 0] 28) := BG_14.out.next hb
      clear A0_14 A1_14 BW_14 O0_14 X0_14 O1_14 X1_14 BG_14
      clear hb
      have e0 := X0_15.out.cell 0 _ rfl
      have e1 := X0_15.out.cell 1 _ rfl
      have e2 := X0_15.out.cell 2 _ rfl
      have e3 := X0_15.out.cell 3 _ rfl
      have e4 := A0_15.out.cell 0 _ rfl
      have e5 := A0_15.out.cell 1 _ rfl
      have e6 := A0_15.out.cell 2 _ rfl
      have e7 := A0_15.out.cell 3 _ rfl
      go_wp2_with fail
      go_region_held3 (fun w' => w'.cell? ⟨W9.heap.size, 0, none⟩ = some (.int .i64 kx0) ∧ w'.cell? ⟨W9.heap.size, 1, none⟩ = some (.int .i64 nx0) ∧ w'.cell? ⟨W9.heap.size, 2, none⟩ = some (.string sx0) ∧ w'.cell? ⟨W9.heap.size, 3, none⟩ = some (.slice px0 lx0 cx0) ∧ w'.cell? ⟨w.heap.size, 0, none⟩ = some (.int .i64 k0) ∧ w'.cell? ⟨w.heap.size, 1, none⟩ = some (.int .i64 n0) ∧ w'.cell? ⟨w.heap.size, 2, none⟩ = some (.string s0) ∧ w'.cell? ⟨w.heap.size, 3, none⟩ = some (.slice p0 l0 c0))
        (first | assumption | (go_split_ands; exact ⟨by with_reducible exact cell_next hb (by assumption), by with_reducible exact cell_next hb (by assumption), by with_reducible exact cell_next hb (by assumption), by with_reducible exact cell_next hb (by assumption), by with_reducible exact cell_next hb (by assumption), by with_reducible exact cell_next hb (by assumption), by with_reducible exact cell_next hb (by assumption), by with_reducible exact cell_next hb (by assumption)⟩) | go_keep)
        (first
          | (go_at_call_of 6 (Value.slice p0 l0 c0); refine (toVal_all d _ _ m0 ⟨_, rfl, H0 _ (by exact B15.out.drew)⟩ HW0_.out).mono ?_; rintro e W16 ⟨u, rfl, ⟨cs, rfl, hx⟩, hb⟩; obtain ⟨kv0, nv0, sv0, pv0, lv0, cv0, hsh⟩ := hx.shape; subst hsh; have U0 : ∀ w', Below W16.heap.size W16 w' → HVa w' All d [.int .i64 kv0, .int .i64 nv0, .string sv0, .slice pv0 lv0 cv0] m0 := fun w' hw => hx.mono (SameOn.of_below hw) (fun _ _ => trivial); have K1 : Hid (Below W15.heap.size W15 W16) := ⟨hb.os, hb.tape, hb.output, hb.size, hb.block⟩; clear hx)
          | (go_at_call 8; refine (eqVal_all d _ _ _ m0 ⟨_, rfl, (O0_15.out.keep (KeepOn.below K1.out O0_15.out.lt)).tree (fun _ _ => trivial)⟩ ⟨_, rfl, U0 _ (Below.refl _ _)⟩).mono ?_; rintro e W17 ⟨rfl, hb⟩; have K2 : Hid (Below W15.heap.size W15 W17) := K1.out.trans (hb.mono K1.out.size)))
      go_split_ands
      clear hb
      have hb := K2.out
      clear K1 K2 U0
      clear e0 e1 e2 e3 e4 e5 e6 e7
      have B17 : Hid (Below w.heap.size w W17) := B15.out.trans (hb.mono B15.out.size)
      have A0_17 : Hid (Blk W17 w.heap.size #[.int .i64 k0, .int .i64 n0, .string s0, .slice p0 l0 c0] 24) := A0_15.out.next hb
      have A1_17 : Hid (Blk W17 (w.heap.size + 1) #[.int .i64 k1, .int .i64 n1, .string s1, .slice p1 l1 c1] 24) := A1_15.out.next hb
      have BW_17 : Hid (Blk W17 V7.heap.size #[.int .i64 rk, .int .i64 rn, .string rt, .slice none 0 0] 28) := BW_15.out.next hb
      have O0_17 : Hid (OVa W17 d [.int .i64 kx0, .int .i64 nx0, .string sx0, .slice px0 lx0 cx0] m0 fp0) := O0_15.out.keep (KeepOn.below hb O0_15.out.lt)
      have X0_17 : Hid (Blk W17 W9.heap.size #[.int .i64 kx0, .int .i64 nx0, .string sx0, .slice px0 lx0 cx0] 28) := X0_15.out.next hb
      have O1_17 : Hid (OVa W17 d [.int .i64 kx1, .int .i64 nx1, .string sx1, .slice px1 lx1 cx1] m1 fp1) := O1_15.out.keep (KeepOn.below hb O1_15.out.lt)
      have X1_17 : Hid (Blk W17 W11.heap.size #[.int .i64 kx1, .int .i64 nx1, .string sx1, .slice px1 lx1 cx1] 28) := X1_15.out.next hb
      have BG_17 : Hid (Blk W17 W13.heap.size #[.int .i64 rk, .int .i64 rn, .string rt, .slice none 0 0] 28) := BG_15.out.next hb
      clear A0_15 A1_15 BW_15 O0_15 X0_15 O1_15 X1_15 BG_15
      clear hb
      have e0 := X1_17.out.cell 0 _ rfl
      have e1 := X1_17.out.cell 1 _ rfl
      have e2 := X1_17.out.cell 2 _ rfl
      have e3 := X1_17.out.cell 3 _ rfl
      have e4 := A1_17.out.cell 0 _ rfl
      have e5 := A1_17.out.cell 1 _ rfl
      have e6 := A1_17.out.cell 2 _ rfl
      have e7 := A1_17.out.cell 3 _ rfl
      go_wp2_with fail
      go_region_held3 (fun w' => w'.cell? ⟨W11.heap.size, 0, none⟩ = some (.int .i64 kx1) ∧ w'.cell? ⟨W11.heap.size, 1, none⟩ = some (.int .i64 nx1) ∧ w'.cell? ⟨W11.heap.size, 2, none⟩ = some (.string sx1) ∧ w'.cell? ⟨W11.heap.size, 3, none⟩ = some (.slice px1 lx1 cx1) ∧ w'.cell? ⟨w.heap.size + 1, 0, none⟩ = some (.int .i64 k1) ∧ w'.cell? ⟨w.heap.size + 1, 1, none⟩ = some (.int .i64 n1) ∧ w'.cell? ⟨w.heap.size + 1, 2, none⟩ = some (.string s1) ∧ w'.cell? ⟨w.heap.size + 1, 3, none⟩ = some (.slice p1 l1 c1))
        (first | assumption | (go_split_ands; exact ⟨by with_reducible exact cell_next hb (by assumption), by with_reducible exact cell_next hb (by assumption), by with_reducible exact cell_next hb (by assumption), by with_reducible exact cell_next hb (by assumption), by with_reducible exact cell_next hb (by assumption), by with_reducible exact cell_next hb (by assumption), by with_reducible exact cell_next hb (by assumption), by with_reducible exact cell_next hb (by assumption)⟩) | go_keep)
        (first
          | (go_at_call_of 6 (Value.slice p1 l1 c1); refine (toVal_all d _ _ m1 ⟨_, rfl, H1 _ (by exact B17.out.drew)⟩ HW1_.out).mono ?_; rintro e W18 ⟨u, rfl, ⟨cs, rfl, hx⟩, hb⟩; obtain ⟨kz1, nz1, sz1, pz1, lz1, cz1, hsh⟩ := hx.shape; subst hsh; have U0 : ∀ w', Below W18.heap.size W18 w' → HVa w' All d [.int .i64 kz1, .int .i64 nz1, .string sz1, .slice pz1 lz1 cz1] m1 := fun w' hw => hx.mono (SameOn.of_below hw) (fun _ _ => trivial); have K1 : Hid (Below W17.heap.size W17 W18) := ⟨hb.os, hb.tape, hb.output, hb.size, hb.block⟩; clear hx)
          | (go_at_call 8; refine (eqVal_all d _ _ _ m1 ⟨_, rfl, (O1_17.out.keep (KeepOn.below K1.out O1_17.out.lt)).tree (fun _ _ => trivial)⟩ ⟨_, rfl, U0 _ (Below.refl _ _)⟩).mono ?_; rintro e W19 ⟨rfl, hb⟩; have K2 : Hid (Below W17.heap.size W17 W19) := K1.out.trans (hb.mono K1.out.size)))
      go_split_ands
      clear hb
      have hb := K2.out
      clear K1 K2 U0
      clear e0 e1 e2 e3 e4 e5 e6 e7
      have B19 : Hid (Below w.heap.size w W19) := B17.out.trans (hb.mono B17.out.size)
      have A0_19 : Hid (Blk W19 w.heap.size #[.int .i64 k0, .int .i64 n0, .string s0, .slice p0 l0 c0] 24) := A0_17.out.next hb
      have A1_19 : Hid (Blk W19 (w.heap.size + 1) #[.int .i64 k1, .int .i64 n1, .string s1, .slice p1 l1 c1] 24) := A1_17.out.next hb
      have BW_19 : Hid (Blk W19 V7.heap.size #[.int .i64 rk, .int .i64 rn, .string rt, .slice none 0 0] 28) := BW_17.out.next hb
      have O0_19 : Hid (OVa W19 d [.int .i64 kx0, .int .i64 nx0, .string sx0, .slice px0 lx0 cx0] m0 fp0) := O0_17.out.keep (KeepOn.below hb O0_17.out.lt)
      have X0_19 : Hid (Blk W19 W9.heap.size #[.int .i64 kx0, .int .i64 nx0, .string sx0, .slice px0 lx0 cx0] 28) := X0_17.out.next hb
      have O1_19 : Hid (OVa W19 d [.int .i64 kx1, .int .i64 nx1, .string sx1, .slice px1 lx1 cx1] m1 fp1) := O1_17.out.keep (KeepOn.below hb O1_17.out.lt)
      have X1_19 : Hid (Blk W19 W11.heap.size #[.int .i64 kx1, .int .i64 nx1, .string sx1, .slice px1 lx1 cx1] 28) := X1_17.out.next hb
      have BG_19 : Hid (Blk W19 W13.heap.size #[.int .i64 rk, .int .i64 rn, .string rt, .slice none 0 0] 28) := BG_17.out.next hb
      clear A0_17 A1_17 BW_17 O0_17 X0_17 O1_17 X1_17 BG_17
      clear hb
      have e0 := X0_19.out.cell 0 _ rfl
      have e1 := X0_19.out.cell 1 _ rfl
      have e2 := X0_19.out.cell 2 _ rfl
      have e3 := X0_19.out.cell 3 _ rfl
      go_wp2_with fail
      clear e0 e1 e2 e3
      have hcb0 := cnt_b HD.out HW0_.out
      have hcb1 := cnt_b HD.out HW1_.out
      have HC0 : Hid (1 + (m0.kids.map (cntV dd)).sum ≤ 4194304) := by show _ ≤ _; omega
      have HC1 : Hid ((m1.kids.map (cntV dd)).sum ≤ 4194304) := by show _ ≤ _; omega
      clear hcb0 hcb1
      refine (markVal_any dd _ _ _ _ _ m0.kids fp0 1 (OVa.kids1 HD.out O0_19.out) N0.out (by omega) (by have := HC0.out; omega)).mono ?_
      rintro e W20 ⟨rfl, -, hb⟩
      have B20 : Hid (Below w.heap.size w W20) := B19.out.trans (hb.below (fun a ha => by have h1 := R0.out a ha; have h9 := B8.out.size; omega) B19.out.size)
      clear O0_19
      have A0_20 : Hid (Blk W20 w.heap.size #[.int .i64 k0, .int .i64 n0, .string s0, .slice p0 l0 c0] 24) := (hb.block _ A0_19.out.lt (fun hm => by have h1 := R0.out _ hm; have h9 := B8.out.size; have hA := LA.out; have hS0 := S0.out; have hS1 := S1.out; have hX0 := HSZ10.out; have hX1 := HSZ12.out; omega)).trans A0_19.out
      have A1_20 : Hid (Blk W20 (w.heap.size + 1) #[.int .i64 k1, .int .i64 n1, .string s1, .slice p1 l1 c1] 24) := (hb.block _ A1_19.out.lt (fun hm => by have h1 := R0.out _ hm; have h9 := B8.out.size; have hA := LA.out; have hS0 := S0.out; have hS1 := S1.out; have hX0 := HSZ10.out; have hX1 := HSZ12.out; omega)).trans A1_19.out
      have BW_20 : Hid (Blk W20 V7.heap.size #[.int .i64 rk, .int .i64 rn, .string rt, .slice none 0 0] 28) := (hb.block _ BW_19.out.lt (fun hm => by have h1 := R0.out _ hm; have h9 := B8.out.size; have hA := LA.out; have hS0 := S0.out; have hS1 := S1.out; have hX0 := HSZ10.out; have hX1 := HSZ12.out; have hW_ := LW.out; omega)).trans BW_19.out
      have X0_20 : Hid (Blk W20 W9.heap.size #[.int .i64 kx0, .int .i64 nx0, .string sx0, .slice px0 lx0 cx0] 28) := (hb.block _ X0_19.out.lt (fun hm => by have h1 := R0.out _ hm; have h9 := B8.out.size; have hA := LA.out; have hS0 := S0.out; have hS1 := S1.out; have hX0 := HSZ10.out; have hX1 := HSZ12.out; omega)).trans X0_19.out
      have O1_20 : Hid (OVa W20 d [.int .i64 kx1, .int .i64 nx1, .string sx1, .slice px1 lx1 cx1] m1 fp1) := O1_19.out.keep (hb.keep (fun a ha => ⟨O1_19.out.lt a ha, fun hm => by have h1 := R0.out a hm; have h2 := R1.out a ha; have hX0 := HSZ10.out; omega⟩))
      have X1_20 : Hid (Blk W20 W11.heap.size #[.int .i64 kx1, .int .i64 nx1, .string sx1, .slice px1 lx1 cx1] 28) := (hb.block _ X1_19.out.lt (fun hm => by have h1 := R0.out _ hm; have h9 := B8.out.size; have hA := LA.out; have hS0 := S0.out; have hS1 := S1.out; have hX0 := HSZ10.out; have hX1 := HSZ12.out; omega)).trans X1_19.out
      have BG_20 : Hid (Blk W20 W13.heap.size #[.int .i64 rk, .int .i64 rn, .string rt, .slice none 0 0] 28) := (hb.block _ BG_19.out.lt (fun hm => by have h1 := R0.out _ hm; have h9 := B8.out.size; have hA := LA.out; have hS0 := S0.out; have hS1 := S1.out; have hX0 := HSZ10.out; have hX1 := HSZ12.out; have hG_ := LG.out; omega)).trans BG_19.out
      clear A0_19 A1_19 BW_19 X0_19 O1_19 X1_19 BG_19
      clear hb
      have KP : Hid (1 ≤ 1 + (m0.kids.map (cntV dd)).sum) := by show _ ≤ _; omega
      generalize hk1 : 1 + (m0.kids.map (cntV dd)).sum = kk1 at *
      clear hk1
      have hkk1 := HC0.out
      have e0 := X1_20.out.cell 0 _ rfl
      have e1 := X1_20.out.cell 1 _ rfl
      have e2 := X1_20.out.cell 2 _ rfl
      have e3 := X1_20.out.cell 3 _ rfl
      go_wp2_with fail
      clear e0 e1 e2 e3
      refine (markVal_at dd _ _ _ _ _ m1.kids fp1 kk1 _ rfl (OVa.kids1 HD.out O1_20.out) N1.out KP.out (by have := HC0.out; have := HC1.out; omega)).mono ?_
      rintro e W21 ⟨rfl, -, hb⟩
      have B21 : Hid (Below w.heap.size w W21) := B20.out.trans (hb.below (fun a ha => by have h1 := R1.out a ha; have h9 := B10.out.size; omega) B20.out.size)
      clear X0_20
      clear O1_20
      clear X1_20
      have A0_21 : Hid (Blk W21 w.heap.size #[.int .i64 k0, .int .i64 n0, .string s0, .slice p0 l0 c0] 24) := (hb.block _ A0_20.out.lt (fun hm => by have h1 := R1.out _ hm; have h9 := B8.out.size; have hA := LA.out; have hS0 := S0.out; have hS1 := S1.out; have hX0 := HSZ10.out; have hX1 := HSZ12.out; omega)).trans A0_20.out
      have A1_21 : Hid (Blk W21 (w.heap.size + 1) #[.int .i64 k1, .int .i64 n1, .string s1, .slice p1 l1 c1] 24) := (hb.block _ A1_20.out.lt (fun hm => by have h1 := R1.out _ hm; have h9 := B8.out.size; have hA := LA.out; have hS0 := S0.out; have hS1 := S1.out; have hX0 := HSZ10.out; have hX1 := HSZ12.out; omega)).trans A1_20.out
      have BW_21 : Hid (Blk W21 V7.heap.size #[.int .i64 rk, .int .i64 rn, .string rt, .slice none 0 0] 28) := (hb.block _ BW_20.out.lt (fun hm => by have h1 := R1.out _ hm; have h9 := B8.out.size; have hA := LA.out; have hS0 := S0.out; have hS1 := S1.out; have hX0 := HSZ10.out; have hX1 := HSZ12.out; have hW_ := LW.out; omega)).trans BW_20.out
      have BG_21 : Hid (Blk W21 W13.heap.size #[.int .i64 rk, .int .i64 rn, .string rt, .slice none 0 0] 28) := (hb.block _ BG_20.out.lt (fun hm => by have h1 := R1.out _ hm; have h9 := B8.out.size; have hA := LA.out; have hS0 := S0.out; have hS1 := S1.out; have hX0 := HSZ10.out; have hX1 := HSZ12.out; have hG_ := LG.out; omega)).trans BG_20.out
      clear A0_20 A1_20 BW_20 BG_20
      clear hb
      have hkk2 : kk1 + (m1.kids.map (cntV dd)).sum ≤ 8388608 := by have := HC0.out; have := HC1.out; omega
      generalize hk2 : kk1 + (m1.kids.map (cntV dd)).sum = kk2 at *
      clear hk2
      have e0 := BG_21.out.cell 0 _ rfl
      have e1 := BG_21.out.cell 1 _ rfl
      have e2 := BG_21.out.cell 2 _ rfl
      have e3 := BG_21.out.cell 3 _ rfl
      have e4 := BW_21.out.cell 0 _ rfl
      have e5 := BW_21.out.cell 1 _ rfl
      have e6 := BW_21.out.cell 2 _ rfl
      have e7 := BW_21.out.cell 3 _ rfl
      go_wp2_with fail
      clear e0 e1 e2 e3 e4 e5 e6 e7
      refine (eqVal_all 1 _ _ _ (flat ((rk, rn, rt), rb)) ⟨_, rfl, FL.out _⟩ ⟨_, rfl, FL.out _⟩).mono ?_
      rintro e W22 ⟨rfl, hb⟩
      have B22 : Hid (Below w.heap.size w W22) := B21.out.trans (hb.mono B21.out.size)
      have A0_22 : Hid (Blk W22 w.heap.size #[.int .i64 k0, .int .i64 n0, .string s0, .slice p0 l0 c0] 24) := A0_21.out.next hb
      have A1_22 : Hid (Blk W22 (w.heap.size + 1) #[.int .i64 k1, .int .i64 n1, .string s1, .slice p1 l1 c1] 24) := A1_21.out.next hb
      have BW_22 : Hid (Blk W22 V7.heap.size #[.int .i64 rk, .int .i64 rn, .string rt, .slice none 0 0] 28) := BW_21.out.next hb
      have BG_22 : Hid (Blk W22 W13.heap.size #[.int .i64 rk, .int .i64 rn, .string rt, .slice none 0 0] 28) := BG_21.out.next hb
      clear A0_21 A1_21 BW_21 BG_21
      clear hb
      have e0 := BG_22.out.cell 0 _ rfl
      have e1 := BG_22.out.cell 1 _ rfl
      have e2 := BG_22.out.cell 2 _ rfl
      have e3 := BG_22.out.cell 3 _ rfl
      go_wp2_with fail
      clear e0 e1 e2 e3
      refine (markVal_any 0 _ _ _ _ _ [] [] 1 (.inl ⟨rfl, rfl, _, _, rfl, Nat.zero_le _⟩) (by simp) (by omega) (by simp)).mono ?_
      rintro e W23 ⟨rfl, -, ho⟩
      have hb := ho.below (N := W22.heap.size) (fun a ha => by simp at ha) (Nat.le_refl _)
      clear ho
      have B23 : Hid (Below w.heap.size w W23) := B22.out.trans (hb.mono B22.out.size)
      have A0_23 : Hid (Blk W23 w.heap.size #[.int .i64 k0, .int .i64 n0, .string s0, .slice p0 l0 c0] 24) := A0_22.out.next hb
      have A1_23 : Hid (Blk W23 (w.heap.size + 1) #[.int .i64 k1, .int .i64 n1, .string s1, .slice p1 l1 c1] 24) := A1_22.out.next hb
      have BW_23 : Hid (Blk W23 V7.heap.size #[.int .i64 rk, .int .i64 rn, .string rt, .slice none 0 0] 28) := BW_22.out.next hb
      have BG_23 : Hid (Blk W23 W13.heap.size #[.int .i64 rk, .int .i64 rn, .string rt, .slice none 0 0] 28) := BG_22.out.next hb
      clear A0_22 A1_22 BW_22 BG_22
      clear hb
      simp only [List.map_nil, List.sum_nil, Nat.add_zero]
      have e0 := BG_23.out.cell 0 _ rfl
      have e1 := BG_23.out.cell 1 _ rfl
      have e2 := BG_23.out.cell 2 _ rfl
      have e3 := BG_23.out.cell 3 _ rfl
      go_wp2_with fail
      clear e0 e1 e2 e3
      refine (heldVal_any 0 _ _ _ _ _ [] 1 (Rows.nil (Nat.zero_le _)) (by omega) (by simp)).mono ?_
      rintro e W24 ⟨rfl, hb⟩
      simp only [List.map_nil, List.sum_nil, Nat.add_zero]
      have B24 : Hid (Below w.heap.size w W24) := B23.out.trans (hb.mono B23.out.size)
      have A0_24 : Hid (Blk W24 w.heap.size #[.int .i64 k0, .int .i64 n0, .string s0, .slice p0 l0 c0] 24) := A0_23.out.next hb
      have A1_24 : Hid (Blk W24 (w.heap.size + 1) #[.int .i64 k1, .int .i64 n1, .string s1, .slice p1 l1 c1] 24) := A1_23.out.next hb
      have BW_24 : Hid (Blk W24 V7.heap.size #[.int .i64 rk, .int .i64 rn, .string rt, .slice none 0 0] 28) := BW_23.out.next hb
      have BG_24 : Hid (Blk W24 W13.heap.size #[.int .i64 rk, .int .i64 rn, .string rt, .slice none 0 0] 28) := BG_23.out.next hb
      clear A0_23 A1_23 BW_23 BG_23
      clear hb
      have a00 := A0_24.out.cell 0 _ rfl
      have a01 := A0_24.out.cell 1 _ rfl
      have a02 := A0_24.out.cell 2 _ rfl
      have a03 := A0_24.out.cell 3 _ rfl
      have a10 := A1_24.out.cell 0 _ rfl
      have a11 := A1_24.out.cell 1 _ rfl
      have a12 := A1_24.out.cell 2 _ rfl
      have a13 := A1_24.out.cell 3 _ rfl
      have hzA := A1_24.out.lt
      go_wp2_with fail
      go_region_held3 (fun w' => w'.cell? ⟨w.heap.size, 0, none⟩ = some (.int .i64 k0) ∧ w'.cell? ⟨w.heap.size, 1, none⟩ = some (.int .i64 n0) ∧ w'.cell? ⟨w.heap.size, 2, none⟩ = some (.string s0) ∧ w'.cell? ⟨w.heap.size, 3, none⟩ = some (.slice p0 l0 c0) ∧ w'.cell? ⟨w.heap.size + 1, 0, none⟩ = some (.int .i64 k1) ∧ w'.cell? ⟨w.heap.size + 1, 1, none⟩ = some (.int .i64 n1) ∧ w'.cell? ⟨w.heap.size + 1, 2, none⟩ = some (.string s1) ∧ w'.cell? ⟨w.heap.size + 1, 3, none⟩ = some (.slice p1 l1 c1))
        (first | assumption | (go_split_ands; exact ⟨by with_reducible exact keep_set4 (N := w.heap.size + 2) (by omega) (by show w.heap.size < w.heap.size + 2; omega) (by assumption), by with_reducible exact keep_set4 (N := w.heap.size + 2) (by omega) (by show w.heap.size < w.heap.size + 2; omega) (by assumption), by with_reducible exact keep_set4 (N := w.heap.size + 2) (by omega) (by show w.heap.size < w.heap.size + 2; omega) (by assumption), by with_reducible exact keep_set4 (N := w.heap.size + 2) (by omega) (by show w.heap.size < w.heap.size + 2; omega) (by assumption), by with_reducible exact keep_set4 (N := w.heap.size + 2) (by omega) (by show w.heap.size + 1 < w.heap.size + 2; omega) (by assumption), by with_reducible exact keep_set4 (N := w.heap.size + 2) (by omega) (by show w.heap.size + 1 < w.heap.size + 2; omega) (by assumption), by with_reducible exact keep_set4 (N := w.heap.size + 2) (by omega) (by show w.heap.size + 1 < w.heap.size + 2; omega) (by assumption), by with_reducible exact keep_set4 (N := w.heap.size + 2) (by omega) (by show w.heap.size + 1 < w.heap.size + 2; omega) (by assumption)⟩) | (go_split_ands; exact ⟨by with_reducible exact cell_next hb (by assumption), by with_reducible exact cell_next hb (by assumption), by with_reducible exact cell_next hb (by assumption), by with_reducible exact cell_next hb (by assumption), by with_reducible exact cell_next hb (by assumption), by with_reducible exact cell_next hb (by assumption), by with_reducible exact cell_next hb (by assumption), by with_reducible exact cell_next hb (by assumption)⟩) | (go_split_ands; exact ⟨by with_reducible exact cell_next ((Below.refl _ _).alloc (Nat.le_refl _) _) (by assumption), by with_reducible exact cell_next ((Below.refl _ _).alloc (Nat.le_refl _) _) (by assumption), by with_reducible exact cell_next ((Below.refl _ _).alloc (Nat.le_refl _) _) (by assumption), by with_reducible exact cell_next ((Below.refl _ _).alloc (Nat.le_refl _) _) (by assumption), by with_reducible exact cell_next ((Below.refl _ _).alloc (Nat.le_refl _) _) (by assumption), by with_reducible exact cell_next ((Below.refl _ _).alloc (Nat.le_refl _) _) (by assumption), by with_reducible exact cell_next ((Below.refl _ _).alloc (Nat.le_refl _) _) (by assumption), by with_reducible exact cell_next ((Below.refl _ _).alloc (Nat.le_refl _) _) (by assumption)⟩) | (go_split_ands; exact ⟨by with_reducible exact cell_next (Below.drew ((Below.refl _ _).alloc (Nat.le_refl _) _)) (by assumption), by with_reducible exact cell_next (Below.drew ((Below.refl _ _).alloc (Nat.le_refl _) _)) (by assumption), by with_reducible exact cell_next (Below.drew ((Below.refl _ _).alloc (Nat.le_refl _) _)) (by assumption), by with_reducible exact cell_next (Below.drew ((Below.refl _ _).alloc (Nat.le_refl _) _)) (by assumption), by with_reducible exact cell_next (Below.drew ((Below.refl _ _).alloc (Nat.le_refl _) _)) (by assumption), by with_reducible exact cell_next (Below.drew ((Below.refl _ _).alloc (Nat.le_refl _) _)) (by assumption), by with_reducible exact cell_next (Below.drew ((Below.refl _ _).alloc (Nat.le_refl _) _)) (by assumption), by with_reducible exact cell_next (Below.drew ((Below.refl _ _).alloc (Nat.le_refl _) _)) (by assumption)⟩) | go_keep)
        (first
          | (go_at_call_of 6 (Value.slice p0 l0 c0); refine (toVal_all d _ _ m0 ⟨_, rfl, H0 _ (by first | with_reducible exact B24.out.drew | with_reducible exact (B24.out.alloc B24.out.size _).drew | with_reducible exact (B24.out.drew.alloc B24.out.size _))⟩ HW0_.out).mono ?_; rintro e V40 ⟨u, rfl, ⟨cs, rfl, hx⟩, hb⟩; obtain ⟨ku400, nu400, su400, pu400, lu400, cu400, hsh⟩ := hx.shape; subst hsh; have U0 : ∀ w', Below V40.heap.size V40 w' → HVa w' All d [.int .i64 ku400, .int .i64 nu400, .string su400, .slice pu400 lu400 cu400] m0 := fun w' hw => hx.mono (SameOn.of_below hw) (fun _ _ => trivial); have gV : Below W24.heap.size W24 V40 := (by first | (have h1 : Below W24.drew.heap.size W24.drew V40 := (by with_reducible exact hb); exact ⟨h1.os, h1.tape, h1.output, h1.size, h1.block⟩) | (have h1 : Below (W24.alloc (.cells #[.int .i64 0, .int .i64 0, .string ⟨#[]⟩, .slice none 0 0] 28)).drew.heap.size (W24.alloc (.cells #[.int .i64 0, .int .i64 0, .string ⟨#[]⟩, .slice none 0 0] 28)).drew V40 := (by with_reducible exact hb); exact below_via (b := W24.alloc (.cells #[.int .i64 0, .int .i64 0, .string ⟨#[]⟩, .slice none 0 0] 28)) ((Below.refl _ _).alloc (Nat.le_refl _) _) ⟨h1.os, h1.tape, h1.output, h1.size, h1.block⟩) | (have h1 : Below (W24.drew.alloc (.cells #[.int .i64 0, .int .i64 0, .string ⟨#[]⟩, .slice none 0 0] 28)).heap.size (W24.drew.alloc (.cells #[.int .i64 0, .int .i64 0, .string ⟨#[]⟩, .slice none 0 0] 28)) V40 := (by with_reducible exact hb); exact below_via (b := W24.alloc (.cells #[.int .i64 0, .int .i64 0, .string ⟨#[]⟩, .slice none 0 0] 28)) ((Below.refl _ _).alloc (Nat.le_refl _) _) ⟨h1.os, h1.tape, h1.output, h1.size, h1.block⟩)); have GV40 : Hid (Below W24.heap.size W24 V40) := gV; clear gV; have zV40 := GV40.out.size; (first | (have hbA : Below (W24.alloc (.cells #[.int .i64 0, .int .i64 0, .string ⟨#[]⟩, .slice none 0 0] 28)).drew.heap.size (W24.alloc (.cells #[.int .i64 0, .int .i64 0, .string ⟨#[]⟩, .slice none 0 0] 28)).drew V40 := (by with_reducible exact hb); have BXV40 : Hid (Blk V40 W24.heap.size #[.int .i64 0, .int .i64 0, .string ⟨#[]⟩, .slice none 0 0] 28) := Blk.next (w := W24.alloc (.cells #[.int .i64 0, .int .i64 0, .string ⟨#[]⟩, .slice none 0 0] 28)) Blk.new ⟨hbA.os, hbA.tape, hbA.output, hbA.size, hbA.block⟩; clear hbA) | (have hbA : Below (W24.drew.alloc (.cells #[.int .i64 0, .int .i64 0, .string ⟨#[]⟩, .slice none 0 0] 28)).heap.size (W24.drew.alloc (.cells #[.int .i64 0, .int .i64 0, .string ⟨#[]⟩, .slice none 0 0] 28)) V40 := (by with_reducible exact hb); have BXV40 : Hid (Blk V40 W24.heap.size #[.int .i64 0, .int .i64 0, .string ⟨#[]⟩, .slice none 0 0] 28) := Blk.next (w := W24.alloc (.cells #[.int .i64 0, .int .i64 0, .string ⟨#[]⟩, .slice none 0 0] 28)) Blk.new ⟨hbA.os, hbA.tape, hbA.output, hbA.size, hbA.block⟩; clear hbA) | skip); have yV40_00 := cell_next GV40.out a00; have yV40_01 := cell_next GV40.out a01; have yV40_02 := cell_next GV40.out a02; have yV40_03 := cell_next GV40.out a03; have yV40_10 := cell_next GV40.out a10; have yV40_11 := cell_next GV40.out a11; have yV40_12 := cell_next GV40.out a12; have yV40_13 := cell_next GV40.out a13; clear hx)
          | (go_at_call_of 6 (Value.slice p1 l1 c1); refine (toVal_all d _ _ m1 ⟨_, rfl, H1 _ (by first | with_reducible exact B24.out.trans (GV40.out.mono B24.out.size) | with_reducible exact (B24.out.trans (GV40.out.mono B24.out.size)).alloc (Nat.le_trans B24.out.size GV40.out.size) _)⟩ HW1_.out).mono ?_; rintro e V41 ⟨u, rfl, ⟨cs, rfl, hx⟩, hb⟩; obtain ⟨ku401, nu401, su401, pu401, lu401, cu401, hsh⟩ := hx.shape; subst hsh; have U1 : ∀ w', Below V41.heap.size V41 w' → HVa w' All d [.int .i64 ku401, .int .i64 nu401, .string su401, .slice pu401 lu401 cu401] m1 := fun w' hw => hx.mono (SameOn.of_below hw) (fun _ _ => trivial); have gV : Below V40.heap.size V40 V41 := (by first | (have h1 : Below V40.heap.size V40 V41 := (by with_reducible exact hb); exact h1) | (have h1 : Below (V40.alloc (.cells #[.int .i64 0, .int .i64 0, .string ⟨#[]⟩, .slice none 0 0] 28)).heap.size (V40.alloc (.cells #[.int .i64 0, .int .i64 0, .string ⟨#[]⟩, .slice none 0 0] 28)) V41 := (by with_reducible exact hb); exact below_via ((Below.refl _ _).alloc (Nat.le_refl _) _) h1)); have GV41 : Hid (Below V40.heap.size V40 V41) := gV; clear gV; have zV41 := GV41.out.size; (first | (have BXV41 : Hid (Blk V41 W24.heap.size #[.int .i64 0, .int .i64 0, .string ⟨#[]⟩, .slice none 0 0] 28) := (show Blk _ _ _ _ from (by with_reducible exact Blk.next BXV40.out GV41.out))) | (have hbA : Below (V40.alloc (.cells #[.int .i64 0, .int .i64 0, .string ⟨#[]⟩, .slice none 0 0] 28)).heap.size (V40.alloc (.cells #[.int .i64 0, .int .i64 0, .string ⟨#[]⟩, .slice none 0 0] 28)) V41 := (by with_reducible exact hb); have BXV41 : Hid (Blk V41 V40.heap.size #[.int .i64 0, .int .i64 0, .string ⟨#[]⟩, .slice none 0 0] 28) := Blk.next (w := V40.alloc (.cells #[.int .i64 0, .int .i64 0, .string ⟨#[]⟩, .slice none 0 0] 28)) Blk.new ⟨hbA.os, hbA.tape, hbA.output, hbA.size, hbA.block⟩; clear hbA) | skip); have yV41_00 := cell_next GV41.out yV40_00; have yV41_01 := cell_next GV41.out yV40_01; have yV41_02 := cell_next GV41.out yV40_02; have yV41_03 := cell_next GV41.out yV40_03; have yV41_10 := cell_next GV41.out yV40_10; have yV41_11 := cell_next GV41.out yV40_11; have yV41_12 := cell_next GV41.out yV40_12; have yV41_13 := cell_next GV41.out yV40_13; clear hx)
          | (go_at_call 7; refine (IL.out _ _ _ (U0 _ (by first | with_reducible exact GV41.out | with_reducible exact GV41.out.alloc GV41.out.size _)) (U1 _ (by first | with_reducible exact Below.refl _ _ | with_reducible exact (Below.refl _ _).alloc (Nat.le_refl _) _))).mono ?_; rintro e V42 ⟨rfl, hb⟩; have gV : Below V41.heap.size V41 V42 := (by first | with_reducible exact hb | (have h1 : Below (V41.alloc (.cells #[.int .i64 0, .int .i64 0, .string ⟨#[]⟩, .slice none 0 0] 28)).heap.size (V41.alloc (.cells #[.int .i64 0, .int .i64 0, .string ⟨#[]⟩, .slice none 0 0] 28)) V42 := (by with_reducible exact hb); exact below_via ((Below.refl _ _).alloc (Nat.le_refl _) _) h1)); have GV42 : Hid (Below V41.heap.size V41 V42) := gV; clear gV; have zV42 := GV42.out.size; (first | (have BXV42 : Hid (Blk V42 W24.heap.size #[.int .i64 0, .int .i64 0, .string ⟨#[]⟩, .slice none 0 0] 28) := (show Blk _ _ _ _ from (by with_reducible exact Blk.next BXV41.out GV42.out))) | (have BXV42 : Hid (Blk V42 V40.heap.size #[.int .i64 0, .int .i64 0, .string ⟨#[]⟩, .slice none 0 0] 28) := (show Blk _ _ _ _ from (by with_reducible exact Blk.next BXV41.out GV42.out))) | (have hbA : Below (V41.alloc (.cells #[.int .i64 0, .int .i64 0, .string ⟨#[]⟩, .slice none 0 0] 28)).heap.size (V41.alloc (.cells #[.int .i64 0, .int .i64 0, .string ⟨#[]⟩, .slice none 0 0] 28)) V42 := (by with_reducible exact hb); have BXV42 : Hid (Blk V42 V41.heap.size #[.int .i64 0, .int .i64 0, .string ⟨#[]⟩, .slice none 0 0] 28) := Blk.next (w := V41.alloc (.cells #[.int .i64 0, .int .i64 0, .string ⟨#[]⟩, .slice none 0 0] 28)) Blk.new ⟨hbA.os, hbA.tape, hbA.output, hbA.size, hbA.block⟩; clear hbA) | skip); (try (have x0 := BXV42.out.cell 0 _ rfl; have g0 := BXV42.out.frozen 0; have x1 := BXV42.out.cell 1 _ rfl; have g1 := BXV42.out.frozen 1; have x2 := BXV42.out.cell 2 _ rfl; have g2 := BXV42.out.frozen 2; have x3 := BXV42.out.cell 3 _ rfl; have g3 := BXV42.out.frozen 3)); have yV42_00 := cell_next GV42.out yV41_00; have yV42_01 := cell_next GV42.out yV41_01; have yV42_02 := cell_next GV42.out yV41_02; have yV42_03 := cell_next GV42.out yV41_03; have yV42_10 := cell_next GV42.out yV41_10; have yV42_11 := cell_next GV42.out yV41_11; have yV42_12 := cell_next GV42.out yV41_12; have yV42_13 := cell_next GV42.out yV41_13; skip))
      · have way := True.intro
        try clear x0 x1 x2 x3 g0 g1 g2 g3
        clear yV40_00 yV40_01 yV40_02 yV40_03 yV40_10 yV40_11 yV40_12 yV40_13 yV41_00 yV41_01 yV41_02 yV41_03 yV41_10 yV41_11 yV41_12 yV41_13 yV42_00 yV42_01 yV42_02 yV42_03 yV42_10 yV42_11 yV42_12 yV42_13
        clear a00 a01 a02 a03 a10 a11 a12 a13
        obtain ⟨W25, hW⟩ : ∃ W, W = (V42.alloc (.cells #[.int .i64 rk, .int .i64 rn, .string rt, .slice none 0 0] 28)) := ⟨_, rfl⟩
        have kk := below_via (below_via GV40.out GV41.out) GV42.out
        have BH_25 : Hid (Blk W25 V42.heap.size #[.int .i64 rk, .int .i64 rn, .string rt, .slice none 0 0] 28) := by
          show Blk _ _ _ _
          rw [hW]; exact Blk.new
        have hb : Below W24.heap.size W24 W25 := by rw [hW]; exact kk.alloc kk.size _
        have HW25 : Hid (W25 = (V42.alloc (.cells #[.int .i64 rk, .int .i64 rn, .string rt, .slice none 0 0] 28))) := hW
        clear hW kk U0 U1 hzA zV40 zV41 zV42
        try clear BXV40
        try clear BXV41
        try clear BXV42
        have B25 : Hid (Below w.heap.size w W25) := B24.out.trans (hb.mono B24.out.size)
        have A0_25 : Hid (Blk W25 w.heap.size #[.int .i64 k0, .int .i64 n0, .string s0, .slice p0 l0 c0] 24) := A0_24.out.next hb
        have A1_25 : Hid (Blk W25 (w.heap.size + 1) #[.int .i64 k1, .int .i64 n1, .string s1, .slice p1 l1 c1] 24) := A1_24.out.next hb
        have BW_25 : Hid (Blk W25 V7.heap.size #[.int .i64 rk, .int .i64 rn, .string rt, .slice none 0 0] 28) := BW_24.out.next hb
        have BG_25 : Hid (Blk W25 W13.heap.size #[.int .i64 rk, .int .i64 rn, .string rt, .slice none 0 0] 28) := BG_24.out.next hb
        clear A0_24 A1_24 BW_24 BG_24
        clear hb
        have e0 := BH_25.out.cell 0 _ rfl
        have e1 := BH_25.out.cell 1 _ rfl
        have e2 := BH_25.out.cell 2 _ rfl
        have e3 := BH_25.out.cell 3 _ rfl
        have e4 := BW_25.out.cell 0 _ rfl
        have e5 := BW_25.out.cell 1 _ rfl
        have e6 := BW_25.out.cell 2 _ rfl
        have e7 := BW_25.out.cell 3 _ rfl
        rw [HW25.out] at e0 e1 e2 e3 e4 e5 e6 e7
        go_wp2_with fail
        rw [← HW25.out]
        clear e0 e1 e2 e3 e4 e5 e6 e7
        refine (eqVal_all 1 _ _ _ (flat ((rk, rn, rt), rb)) ⟨_, rfl, FL.out _⟩ ⟨_, rfl, FL.out _⟩).mono ?_
        rintro e W26 ⟨rfl, hb⟩
        have B26 : Hid (Below w.heap.size w W26) := B25.out.trans (hb.mono B25.out.size)
        have A0_26 : Hid (Blk W26 w.heap.size #[.int .i64 k0, .int .i64 n0, .string s0, .slice p0 l0 c0] 24) := A0_25.out.next hb
        have A1_26 : Hid (Blk W26 (w.heap.size + 1) #[.int .i64 k1, .int .i64 n1, .string s1, .slice p1 l1 c1] 24) := A1_25.out.next hb
        have BW_26 : Hid (Blk W26 V7.heap.size #[.int .i64 rk, .int .i64 rn, .string rt, .slice none 0 0] 28) := BW_25.out.next hb
        have BG_26 : Hid (Blk W26 W13.heap.size #[.int .i64 rk, .int .i64 rn, .string rt, .slice none 0 0] 28) := BG_25.out.next hb
        have BH_26 : Hid (Blk W26 V42.heap.size #[.int .i64 rk, .int .i64 rn, .string rt, .slice none 0 0] 28) := BH_25.out.next hb
        clear A0_25 A1_25 BW_25 BG_25 BH_25
        clear hb
        have e0 := BG_26.out.cell 0 _ rfl
        have e1 := BG_26.out.cell 1 _ rfl
        have e2 := BG_26.out.cell 2 _ rfl
        have e3 := BG_26.out.cell 3 _ rfl
        go_wp2_with fail
        clear e0 e1 e2 e3
        refine (heldVal_any 0 _ _ _ _ _ [] 1 (Rows.nil (Nat.zero_le _)) (by omega) (by simp)).mono ?_
        rintro e W27 ⟨rfl, hb⟩
        simp only [List.map_nil, List.sum_nil, Nat.add_zero]
        have B27 : Hid (Below w.heap.size w W27) := B26.out.trans (hb.mono B26.out.size)
        have A0_27 : Hid (Blk W27 w.heap.size #[.int .i64 k0, .int .i64 n0, .string s0, .slice p0 l0 c0] 24) := A0_26.out.next hb
        have A1_27 : Hid (Blk W27 (w.heap.size + 1) #[.int .i64 k1, .int .i64 n1, .string s1, .slice p1 l1 c1] 24) := A1_26.out.next hb
        have BW_27 : Hid (Blk W27 V7.heap.size #[.int .i64 rk, .int .i64 rn, .string rt, .slice none 0 0] 28) := BW_26.out.next hb
        have BG_27 : Hid (Blk W27 W13.heap.size #[.int .i64 rk, .int .i64 rn, .string rt, .slice none 0 0] 28) := BG_26.out.next hb
        have BH_27 : Hid (Blk W27 V42.heap.size #[.int .i64 rk, .int .i64 rn, .string rt, .slice none 0 0] 28) := BH_26.out.next hb
        clear A0_26 A1_26 BW_26 BG_26 BH_26
        clear hb
        go_wp2_with fail
        go_ret
        exact ⟨rfl, B27.out⟩
      · have way := True.intro
        try clear x0 x1 x2 x3 g0 g1 g2 g3
        clear yV40_00 yV40_01 yV40_02 yV40_03 yV40_10 yV40_11 yV40_12 yV40_13 yV41_00 yV41_01 yV41_02 yV41_03 yV41_10 yV41_11 yV41_12 yV41_13 yV42_00 yV42_01 yV42_02 yV42_03 yV42_10 yV42_11 yV42_12 yV42_13
        clear a00 a01 a02 a03 a10 a11 a12 a13
        obtain ⟨W25, hW⟩ : ∃ W, W = ((((V42.setCell ⟨V41.heap.size, 0, none⟩ (.int .i64 rk)).setCell ⟨V41.heap.size, 1, none⟩ (.int .i64 rn)).setCell ⟨V41.heap.size, 2, none⟩ (.string rt)).setCell ⟨V41.heap.size, 3, none⟩ (.slice none 0 0)) := ⟨_, rfl⟩
        have kk := below_via (below_via GV40.out GV41.out) GV42.out
        have BH_25 : Hid (Blk W25 V41.heap.size #[.int .i64 rk, .int .i64 rn, .string rt, .slice none 0 0] 28) := by
          show Blk _ _ _ _
          rw [hW]; exact (((BXV42.out.same (j := 0) (v := .int .i64 rk) rfl).same (j := 1) (v := .int .i64 rn) rfl).same (j := 2) (v := .string rt) rfl).same (j := 3) (v := .slice none 0 0) rfl
        have hb : Below W24.heap.size W24 W25 := by
          rw [hW]
          exact Below.setCell (Below.setCell (Below.setCell (Below.setCell kk (by show W24.heap.size ≤ V41.heap.size; omega) _) (by show W24.heap.size ≤ V41.heap.size; omega) _) (by show W24.heap.size ≤ V41.heap.size; omega) _) (by show W24.heap.size ≤ V41.heap.size; omega) _
        have HW25 : Hid (W25 = ((((V42.setCell ⟨V41.heap.size, 0, none⟩ (.int .i64 rk)).setCell ⟨V41.heap.size, 1, none⟩ (.int .i64 rn)).setCell ⟨V41.heap.size, 2, none⟩ (.string rt)).setCell ⟨V41.heap.size, 3, none⟩ (.slice none 0 0))) := hW
        clear hW kk U0 U1 hzA zV40 zV41 zV42
        try clear BXV40
        try clear BXV41
        try clear BXV42
        have B25 : Hid (Below w.heap.size w W25) := B24.out.trans (hb.mono B24.out.size)
        have A0_25 : Hid (Blk W25 w.heap.size #[.int .i64 k0, .int .i64 n0, .string s0, .slice p0 l0 c0] 24) := A0_24.out.next hb
        have A1_25 : Hid (Blk W25 (w.heap.size + 1) #[.int .i64 k1, .int .i64 n1, .string s1, .slice p1 l1 c1] 24) := A1_24.out.next hb
        have BW_25 : Hid (Blk W25 V7.heap.size #[.int .i64 rk, .int .i64 rn, .string rt, .slice none 0 0] 28) := BW_24.out.next hb
        have BG_25 : Hid (Blk W25 W13.heap.size #[.int .i64 rk, .int .i64 rn, .string rt, .slice none 0 0] 28) := BG_24.out.next hb
        clear A0_24 A1_24 BW_24 BG_24
        clear hb
        have e0 := BH_25.out.cell 0 _ rfl
        have e1 := BH_25.out.cell 1 _ rfl
        have e2 := BH_25.out.cell 2 _ rfl
        have e3 := BH_25.out.cell 3 _ rfl
        have e4 := BW_25.out.cell 0 _ rfl
        have e5 := BW_25.out.cell 1 _ rfl
        have e6 := BW_25.out.cell 2 _ rfl
        have e7 := BW_25.out.cell 3 _ rfl
        rw [HW25.out] at e0 e1 e2 e3 e4 e5 e6 e7
        go_wp2_with fail
        rw [← HW25.out]
        clear e0 e1 e2 e3 e4 e5 e6 e7
        refine (eqVal_all 1 _ _ _ (flat ((rk, rn, rt), rb)) ⟨_, rfl, FL.out _⟩ ⟨_, rfl, FL.out _⟩).mono ?_
        rintro e W26 ⟨rfl, hb⟩
        have B26 : Hid (Below w.heap.size w W26) := B25.out.trans (hb.mono B25.out.size)
        have A0_26 : Hid (Blk W26 w.heap.size #[.int .i64 k0, .int .i64 n0, .string s0, .slice p0 l0 c0] 24) := A0_25.out.next hb
        have A1_26 : Hid (Blk W26 (w.heap.size + 1) #[.int .i64 k1, .int .i64 n1, .string s1, .slice p1 l1 c1] 24) := A1_25.out.next hb
        have BW_26 : Hid (Blk W26 V7.heap.size #[.int .i64 rk, .int .i64 rn, .string rt, .slice none 0 0] 28) := BW_25.out.next hb
        have BG_26 : Hid (Blk W26 W13.heap.size #[.int .i64 rk, .int .i64 rn, .string rt, .slice none 0 0] 28) := BG_25.out.next hb
        have BH_26 : Hid (Blk W26 V41.heap.size #[.int .i64 rk, .int .i64 rn, .string rt, .slice none 0 0] 28) := BH_25.out.next hb
        clear A0_25 A1_25 BW_25 BG_25 BH_25
        clear hb
        have e0 := BG_26.out.cell 0 _ rfl
        have e1 := BG_26.out.cell 1 _ rfl
        have e2 := BG_26.out.cell 2 _ rfl
        have e3 := BG_26.out.cell 3 _ rfl
        go_wp2_with fail
        clear e0 e1 e2 e3
        refine (heldVal_any 0 _ _ _ _ _ [] 1 (Rows.nil (Nat.zero_le _)) (by omega) (by simp)).mono ?_
        rintro e W27 ⟨rfl, hb⟩
        simp only [List.map_nil, List.sum_nil, Nat.add_zero]
        have B27 : Hid (Below w.heap.size w W27) := B26.out.trans (hb.mono B26.out.size)
        have A0_27 : Hid (Blk W27 w.heap.size #[.int .i64 k0, .int .i64 n0, .string s0, .slice p0 l0 c0] 24) := A0_26.out.next hb
        have A1_27 : Hid (Blk W27 (w.heap.size + 1) #[.int .i64 k1, .int .i64 n1, .string s1, .slice p1 l1 c1] 24) := A1_26.out.next hb
        have BW_27 : Hid (Blk W27 V7.heap.size #[.int .i64 rk, .int .i64 rn, .string rt, .slice none 0 0] 28) := BW_26.out.next hb
        have BG_27 : Hid (Blk W27 W13.heap.size #[.int .i64 rk, .int .i64 rn, .string rt, .slice none 0 0] 28) := BG_26.out.next hb
        have BH_27 : Hid (Blk W27 V41.heap.size #[.int .i64 rk, .int .i64 rn, .string rt, .slice none 0 0] 28) := BH_26.out.next hb
        clear A0_26 A1_26 BW_26 BG_26 BH_26
        clear hb
        go_wp2_with fail
        go_ret
        exact ⟨rfl, B27.out⟩
      · have way := True.intro
        try clear x0 x1 x2 x3 g0 g1 g2 g3
        clear yV40_00 yV40_01 yV40_02 yV40_03 yV40_10 yV40_11 yV40_12 yV40_13 yV41_00 yV41_01 yV41_02 yV41_03 yV41_10 yV41_11 yV41_12 yV41_13 yV42_00 yV42_01 yV42_02 yV42_03 yV42_10 yV42_11 yV42_12 yV42_13
        clear a00 a01 a02 a03 a10 a11 a12 a13
        obtain ⟨W25, hW⟩ : ∃ W, W = ((((V42.setCell ⟨V40.heap.size, 0, none⟩ (.int .i64 rk)).setCell ⟨V40.heap.size, 1, none⟩ (.int .i64 rn)).setCell ⟨V40.heap.size, 2, none⟩ (.string rt)).setCell ⟨V40.heap.size, 3, none⟩ (.slice none 0 0)) := ⟨_, rfl⟩
        have kk := below_via (below_via GV40.out GV41.out) GV42.out
        have BH_25 : Hid (Blk W25 V40.heap.size #[.int .i64 rk, .int .i64 rn, .string rt, .slice none 0 0] 28) := by
          show Blk _ _ _ _
          rw [hW]; exact (((BXV42.out.same (j := 0) (v := .int .i64 rk) rfl).same (j := 1) (v := .int .i64 rn) rfl).same (j := 2) (v := .string rt) rfl).same (j := 3) (v := .slice none 0 0) rfl
        have hb : Below W24.heap.size W24 W25 := by
          rw [hW]
          exact Below.setCell (Below.setCell (Below.setCell (Below.setCell kk (by show W24.heap.size ≤ V40.heap.size; omega) _) (by show W24.heap.size ≤ V40.heap.size; omega) _) (by show W24.heap.size ≤ V40.heap.size; omega) _) (by show W24.heap.size ≤ V40.heap.size; omega) _
        have HW25 : Hid (W25 = ((((V42.setCell ⟨V40.heap.size, 0, none⟩ (.int .i64 rk)).setCell ⟨V40.heap.size, 1, none⟩ (.int .i64 rn)).setCell ⟨V40.heap.size, 2, none⟩ (.string rt)).setCell ⟨V40.heap.size, 3, none⟩ (.slice none 0 0))) := hW
        clear hW kk U0 U1 hzA zV40 zV41 zV42
        try clear BXV40
        try clear BXV41
        try clear BXV42
        have B25 : Hid (Below w.heap.size w W25) := B24.out.trans (hb.mono B24.out.size)
        have A0_25 : Hid (Blk W25 w.heap.size #[.int .i64 k0, .int .i64 n0, .string s0, .slice p0 l0 c0] 24) := A0_24.out.next hb
        have A1_25 : Hid (Blk W25 (w.heap.size + 1) #[.int .i64 k1, .int .i64 n1, .string s1, .slice p1 l1 c1] 24) := A1_24.out.next hb
        have BW_25 : Hid (Blk W25 V7.heap.size #[.int .i64 rk, .int .i64 rn, .string rt, .slice none 0 0] 28) := BW_24.out.next hb
        have BG_25 : Hid (Blk W25 W13.heap.size #[.int .i64 rk, .int .i64 rn, .string rt, .slice none 0 0] 28) := BG_24.out.next hb
        clear A0_24 A1_24 BW_24 BG_24
        clear hb
        have e0 := BH_25.out.cell 0 _ rfl
        have e1 := BH_25.out.cell 1 _ rfl
        have e2 := BH_25.out.cell 2 _ rfl
        have e3 := BH_25.out.cell 3 _ rfl
        have e4 := BW_25.out.cell 0 _ rfl
        have e5 := BW_25.out.cell 1 _ rfl
        have e6 := BW_25.out.cell 2 _ rfl
        have e7 := BW_25.out.cell 3 _ rfl
        rw [HW25.out] at e0 e1 e2 e3 e4 e5 e6 e7
        go_wp2_with fail
        rw [← HW25.out]
        clear e0 e1 e2 e3 e4 e5 e6 e7
        refine (eqVal_all 1 _ _ _ (flat ((rk, rn, rt), rb)) ⟨_, rfl, FL.out _⟩ ⟨_, rfl, FL.out _⟩).mono ?_
        rintro e W26 ⟨rfl, hb⟩
        have B26 : Hid (Below w.heap.size w W26) := B25.out.trans (hb.mono B25.out.size)
        have A0_26 : Hid (Blk W26 w.heap.size #[.int .i64 k0, .int .i64 n0, .string s0, .slice p0 l0 c0] 24) := A0_25.out.next hb
        have A1_26 : Hid (Blk W26 (w.heap.size + 1) #[.int .i64 k1, .int .i64 n1, .string s1, .slice p1 l1 c1] 24) := A1_25.out.next hb
        have BW_26 : Hid (Blk W26 V7.heap.size #[.int .i64 rk, .int .i64 rn, .string rt, .slice none 0 0] 28) := BW_25.out.next hb
        have BG_26 : Hid (Blk W26 W13.heap.size #[.int .i64 rk, .int .i64 rn, .string rt, .slice none 0 0] 28) := BG_25.out.next hb
        have BH_26 : Hid (Blk W26 V40.heap.size #[.int .i64 rk, .int .i64 rn, .string rt, .slice none 0 0] 28) := BH_25.out.next hb
        clear A0_25 A1_25 BW_25 BG_25 BH_25
        clear hb
        have e0 := BG_26.out.cell 0 _ rfl
        have e1 := BG_26.out.cell 1 _ rfl
        have e2 := BG_26.out.cell 2 _ rfl
        have e3 := BG_26.out.cell 3 _ rfl
        go_wp2_with fail
        clear e0 e1 e2 e3
        refine (heldVal_any 0 _ _ _ _ _ [] 1 (Rows.nil (Nat.zero_le _)) (by omega) (by simp)).mono ?_
        rintro e W27 ⟨rfl, hb⟩
        simp only [List.map_nil, List.sum_nil, Nat.add_zero]
        have B27 : Hid (Below w.heap.size w W27) := B26.out.trans (hb.mono B26.out.size)
        have A0_27 : Hid (Blk W27 w.heap.size #[.int .i64 k0, .int .i64 n0, .string s0, .slice p0 l0 c0] 24) := A0_26.out.next hb
        have A1_27 : Hid (Blk W27 (w.heap.size + 1) #[.int .i64 k1, .int .i64 n1, .string s1, .slice p1 l1 c1] 24) := A1_26.out.next hb
        have BW_27 : Hid (Blk W27 V7.heap.size #[.int .i64 rk, .int .i64 rn, .string rt, .slice none 0 0] 28) := BW_26.out.next hb
        have BG_27 : Hid (Blk W27 W13.heap.size #[.int .i64 rk, .int .i64 rn, .string rt, .slice none 0 0] 28) := BG_26.out.next hb
        have BH_27 : Hid (Blk W27 V40.heap.size #[.int .i64 rk, .int .i64 rn, .string rt, .slice none 0 0] 28) := BH_26.out.next hb
        clear A0_26 A1_26 BW_26 BG_26 BH_26
        clear hb
        go_wp2_with fail
        go_ret
        exact ⟨rfl, B27.out⟩
      · have way := True.intro
        try clear x0 x1 x2 x3 g0 g1 g2 g3
        clear yV40_00 yV40_01 yV40_02 yV40_03 yV40_10 yV40_11 yV40_12 yV40_13 yV41_00 yV41_01 yV41_02 yV41_03 yV41_10 yV41_11 yV41_12 yV41_13 yV42_00 yV42_01 yV42_02 yV42_03 yV42_10 yV42_11 yV42_12 yV42_13
        clear a00 a01 a02 a03 a10 a11 a12 a13
        obtain ⟨W25, hW⟩ : ∃ W, W = ((((V42.setCell ⟨W24.heap.size, 0, none⟩ (.int .i64 rk)).setCell ⟨W24.heap.size, 1, none⟩ (.int .i64 rn)).setCell ⟨W24.heap.size, 2, none⟩ (.string rt)).setCell ⟨W24.heap.size, 3, none⟩ (.slice none 0 0)) := ⟨_, rfl⟩
        have kk := below_via (below_via GV40.out GV41.out) GV42.out
        have BH_25 : Hid (Blk W25 W24.heap.size #[.int .i64 rk, .int .i64 rn, .string rt, .slice none 0 0] 28) := by
          show Blk _ _ _ _
          rw [hW]; exact (((BXV42.out.same (j := 0) (v := .int .i64 rk) rfl).same (j := 1) (v := .int .i64 rn) rfl).same (j := 2) (v := .string rt) rfl).same (j := 3) (v := .slice none 0 0) rfl
        have hb : Below W24.heap.size W24 W25 := by
          rw [hW]
          exact Below.setCell (Below.setCell (Below.setCell (Below.setCell kk (by show W24.heap.size ≤ W24.heap.size; omega) _) (by show W24.heap.size ≤ W24.heap.size; omega) _) (by show W24.heap.size ≤ W24.heap.size; omega) _) (by show W24.heap.size ≤ W24.heap.size; omega) _
        have HW25 : Hid (W25 = ((((V42.setCell ⟨W24.heap.size, 0, none⟩ (.int .i64 rk)).setCell ⟨W24.heap.size, 1, none⟩ (.int .i64 rn)).setCell ⟨W24.heap.size, 2, none⟩ (.string rt)).setCell ⟨W24.heap.size, 3, none⟩ (.slice none 0 0))) := hW
        clear hW kk U0 U1 hzA zV40 zV41 zV42
        try clear BXV40
        try clear BXV41
        try clear BXV42
        have B25 : Hid (Below w.heap.size w W25) := B24.out.trans (hb.mono B24.out.size)
        have A0_25 : Hid (Blk W25 w.heap.size #[.int .i64 k0, .int .i64 n0, .string s0, .slice p0 l0 c0] 24) := A0_24.out.next hb
        have A1_25 : Hid (Blk W25 (w.heap.size + 1) #[.int .i64 k1, .int .i64 n1, .string s1, .slice p1 l1 c1] 24) := A1_24.out.next hb
        have BW_25 : Hid (Blk W25 V7.heap.size #[.int .i64 rk, .int .i64 rn, .string rt, .slice none 0 0] 28) := BW_24.out.next hb
        have BG_25 : Hid (Blk W25 W13.heap.size #[.int .i64 rk, .int .i64 rn, .string rt, .slice none 0 0] 28) := BG_24.out.next hb
        clear A0_24 A1_24 BW_24 BG_24
        clear hb
        have e0 := BH_25.out.cell 0 _ rfl
        have e1 := BH_25.out.cell 1 _ rfl
        have e2 := BH_25.out.cell 2 _ rfl
        have e3 := BH_25.out.cell 3 _ rfl
        have e4 := BW_25.out.cell 0 _ rfl
        have e5 := BW_25.out.cell 1 _ rfl
        have e6 := BW_25.out.cell 2 _ rfl
        have e7 := BW_25.out.cell 3 _ rfl
        rw [HW25.out] at e0 e1 e2 e3 e4 e5 e6 e7
        go_wp2_with fail
        rw [← HW25.out]
        clear e0 e1 e2 e3 e4 e5 e6 e7
        refine (eqVal_all 1 _ _ _ (flat ((rk, rn, rt), rb)) ⟨_, rfl, FL.out _⟩ ⟨_, rfl, FL.out _⟩).mono ?_
        rintro e W26 ⟨rfl, hb⟩
        have B26 : Hid (Below w.heap.size w W26) := B25.out.trans (hb.mono B25.out.size)
        have A0_26 : Hid (Blk W26 w.heap.size #[.int .i64 k0, .int .i64 n0, .string s0, .slice p0 l0 c0] 24) := A0_25.out.next hb
        have A1_26 : Hid (Blk W26 (w.heap.size + 1) #[.int .i64 k1, .int .i64 n1, .string s1, .slice p1 l1 c1] 24) := A1_25.out.next hb
        have BW_26 : Hid (Blk W26 V7.heap.size #[.int .i64 rk, .int .i64 rn, .string rt, .slice none 0 0] 28) := BW_25.out.next hb
        have BG_26 : Hid (Blk W26 W13.heap.size #[.int .i64 rk, .int .i64 rn, .string rt, .slice none 0 0] 28) := BG_25.out.next hb
        have BH_26 : Hid (Blk W26 W24.heap.size #[.int .i64 rk, .int .i64 rn, .string rt, .slice none 0 0] 28) := BH_25.out.next hb
        clear A0_25 A1_25 BW_25 BG_25 BH_25
        clear hb
        have e0 := BG_26.out.cell 0 _ rfl
        have e1 := BG_26.out.cell 1 _ rfl
        have e2 := BG_26.out.cell 2 _ rfl
        have e3 := BG_26.out.cell 3 _ rfl
        go_wp2_with fail
        clear e0 e1 e2 e3
        refine (heldVal_any 0 _ _ _ _ _ [] 1 (Rows.nil (Nat.zero_le _)) (by omega) (by simp)).mono ?_
        rintro e W27 ⟨rfl, hb⟩
        simp only [List.map_nil, List.sum_nil, Nat.add_zero]
        have B27 : Hid (Below w.heap.size w W27) := B26.out.trans (hb.mono B26.out.size)
        have A0_27 : Hid (Blk W27 w.heap.size #[.int .i64 k0, .int .i64 n0, .string s0, .slice p0 l0 c0] 24) := A0_26.out.next hb
        have A1_27 : Hid (Blk W27 (w.heap.size + 1) #[.int .i64 k1, .int .i64 n1, .string s1, .slice p1 l1 c1] 24) := A1_26.out.next hb
        have BW_27 : Hid (Blk W27 V7.heap.size #[.int .i64 rk, .int .i64 rn, .string rt, .slice none 0 0] 28) := BW_26.out.next hb
        have BG_27 : Hid (Blk W27 W13.heap.size #[.int .i64 rk, .int .i64 rn, .string rt, .slice none 0 0] 28) := BG_26.out.next hb
        have BH_27 : Hid (Blk W27 W24.heap.size #[.int .i64 rk, .int .i64 rn, .string rt, .slice none 0 0] 28) := BH_26.out.next hb
        clear A0_26 A1_26 BW_26 BG_26 BH_26
        clear hb
        go_wp2_with fail
        go_ret
        exact ⟨rfl, B27.out⟩
    · have way := True.intro
      try clear x0 x1 x2 x3 g0 g1 g2 g3
      clear yV5_00 yV5_01 yV5_02 yV5_03 yV5_10 yV5_11 yV5_12 yV5_13 yV6_00 yV6_01 yV6_02 yV6_03 yV6_10 yV6_11 yV6_12 yV6_13 yV7_00 yV7_01 yV7_02 yV7_03 yV7_10 yV7_11 yV7_12 yV7_13
      clear a00 a01 a02 a03 a10 a11 a12 a13
      obtain ⟨W8, hW⟩ : ∃ W, W = ((((V7.setCell ⟨V6.heap.size, 0, none⟩ (.int .i64 rk)).setCell ⟨V6.heap.size, 1, none⟩ (.int .i64 rn)).setCell ⟨V6.heap.size, 2, none⟩ (.string rt)).setCell ⟨V6.heap.size, 3, none⟩ (.slice none 0 0)) := ⟨_, rfl⟩
      have kk := below_via (below_via GV5.out GV6.out) GV7.out
      have BW_8 : Hid (Blk W8 V6.heap.size #[.int .i64 rk, .int .i64 rn, .string rt, .slice none 0 0] 28) := by
        show Blk _ _ _ _
        rw [hW]; exact (((BXV7.out.same (j := 0) (v := .int .i64 rk) rfl).same (j := 1) (v := .int .i64 rn) rfl).same (j := 2) (v := .string rt) rfl).same (j := 3) (v := .slice none 0 0) rfl
      have hb : Below W4.heap.size W4 W8 := by
        rw [hW]
        exact Below.setCell (Below.setCell (Below.setCell (Below.setCell kk (by show W4.heap.size ≤ V6.heap.size; omega) _) (by show W4.heap.size ≤ V6.heap.size; omega) _) (by show W4.heap.size ≤ V6.heap.size; omega) _) (by show W4.heap.size ≤ V6.heap.size; omega) _
      have HW8 : Hid (W8 = ((((V7.setCell ⟨V6.heap.size, 0, none⟩ (.int .i64 rk)).setCell ⟨V6.heap.size, 1, none⟩ (.int .i64 rn)).setCell ⟨V6.heap.size, 2, none⟩ (.string rt)).setCell ⟨V6.heap.size, 3, none⟩ (.slice none 0 0))) := hW
      clear hW kk U0 U1 hzA zV5 zV6 zV7
      try clear BXV5
      try clear BXV6
      try clear BXV7
      have B8 : Hid (Below w.heap.size w W8) := B4.out.trans (hb.mono B4.out.size)
      have A0_8 : Hid (Blk W8 w.heap.size #[.int .i64 k0, .int .i64 n0, .string s0, .slice p0 l0 c0] 24) := A0_4.out.next hb
      have A1_8 : Hid (Blk W8 (w.heap.size + 1) #[.int .i64 k1, .int .i64 n1, .string s1, .slice p1 l1 c1] 24) := A1_4.out.next hb
      clear A0_4 A1_4
      clear hb
      have LA : Hid (w.heap.size + 1 < W8.heap.size) := A1_8.out.lt
      have LW : Hid (V6.heap.size < W8.heap.size) := BW_8.out.lt
      have e0 := A0_8.out.cell 0 _ rfl
      have e1 := A0_8.out.cell 1 _ rfl
      have e2 := A0_8.out.cell 2 _ rfl
      have e3 := A0_8.out.cell 3 _ rfl
      rw [HW8.out] at e0 e1 e2 e3
      go_wp2_with fail
      rw [← HW8.out]
      clear e0 e1 e2 e3
      refine (toVal_own d _ _ m0 ⟨_, rfl, H0 _ B8.out⟩ HW0_.out).mono ?_
      rintro e W9 ⟨u, fp0, rfl, ⟨cs, rfl, ox⟩, nd, rg, hb⟩
      obtain ⟨kx0, nx0, sx0, px0, lx0, cx0, hsh⟩ := ox.shape
      subst hsh
      have N0 : Hid fp0.Nodup := nd
      have R0 : Hid (∀ a ∈ fp0, W8.heap.size ≤ a ∧ a < W9.heap.size) := rg
      have S0 : Hid (W8.heap.size ≤ W9.heap.size) := hb.size
      have O0_9 : Hid (OVa W9 d [.int .i64 kx0, .int .i64 nx0, .string sx0, .slice px0 lx0 cx0] m0 fp0) := ox
      clear ox nd rg
      have B9 : Hid (Below w.heap.size w W9) := B8.out.trans (hb.mono B8.out.size)
      have A0_9 : Hid (Blk W9 w.heap.size #[.int .i64 k0, .int .i64 n0, .string s0, .slice p0 l0 c0] 24) := A0_8.out.next hb
      have A1_9 : Hid (Blk W9 (w.heap.size + 1) #[.int .i64 k1, .int .i64 n1, .string s1, .slice p1 l1 c1] 24) := A1_8.out.next hb
      have BW_9 : Hid (Blk W9 V6.heap.size #[.int .i64 rk, .int .i64 rn, .string rt, .slice none 0 0] 28) := BW_8.out.next hb
      clear A0_8 A1_8 BW_8
      clear hb
      obtain ⟨W10, hW⟩ : ∃ W, W = (W9.alloc (.cells #[.int .i64 kx0, .int .i64 nx0, .string sx0, .slice px0 lx0 cx0] 28)) := ⟨_, rfl⟩
      have hb : Below W9.heap.size W9 W10 := by rw [hW]; exact (Below.refl _ _).alloc (Nat.le_refl _) _
      have X0_10 : Hid (Blk W10 W9.heap.size #[.int .i64 kx0, .int .i64 nx0, .string sx0, .slice px0 lx0 cx0] 28) := by
        show Blk _ _ _ _
        rw [hW]; exact Blk.new
      have HSZ10 : Hid (W10.heap.size = W9.heap.size + 1) := by
        show _ = _
        rw [hW]; simp only [alloc_hs]
      have HW10 : Hid (W10 = (W9.alloc (.cells #[.int .i64 kx0, .int .i64 nx0, .string sx0, .slice px0 lx0 cx0] 28))) := hW
      have B10 : Hid (Below w.heap.size w W10) := B9.out.trans (hb.mono B9.out.size)
      have A0_10 : Hid (Blk W10 w.heap.size #[.int .i64 k0, .int .i64 n0, .string s0, .slice p0 l0 c0] 24) := A0_9.out.next hb
      have A1_10 : Hid (Blk W10 (w.heap.size + 1) #[.int .i64 k1, .int .i64 n1, .string s1, .slice p1 l1 c1] 24) := A1_9.out.next hb
      have BW_10 : Hid (Blk W10 V6.heap.size #[.int .i64 rk, .int .i64 rn, .string rt, .slice none 0 0] 28) := BW_9.out.next hb
      have O0_10 : Hid (OVa W10 d [.int .i64 kx0, .int .i64 nx0, .string sx0, .slice px0 lx0 cx0] m0 fp0) := O0_9.out.keep (KeepOn.below hb O0_9.out.lt)
      clear A0_9 A1_9 BW_9 O0_9
      clear hb
      have e0 := A1_10.out.cell 0 _ rfl
      have e1 := A1_10.out.cell 1 _ rfl
      have e2 := A1_10.out.cell 2 _ rfl
      have e3 := A1_10.out.cell 3 _ rfl
      rw [HW10.out] at e0 e1 e2 e3
      go_wp2_with fail
      rw [← HW10.out]
      clear e0 e1 e2 e3
      refine (toVal_own d _ _ m1 ⟨_, rfl, H1 _ B10.out⟩ HW1_.out).mono ?_
      rintro e W11 ⟨u, fp1, rfl, ⟨cs, rfl, ox⟩, nd, rg, hb⟩
      obtain ⟨kx1, nx1, sx1, px1, lx1, cx1, hsh⟩ := ox.shape
      subst hsh
      have N1 : Hid fp1.Nodup := nd
      have R1 : Hid (∀ a ∈ fp1, W10.heap.size ≤ a ∧ a < W11.heap.size) := rg
      have S1 : Hid (W10.heap.size ≤ W11.heap.size) := hb.size
      have O1_11 : Hid (OVa W11 d [.int .i64 kx1, .int .i64 nx1, .string sx1, .slice px1 lx1 cx1] m1 fp1) := ox
      clear ox nd rg
      have B11 : Hid (Below w.heap.size w W11) := B10.out.trans (hb.mono B10.out.size)
      have A0_11 : Hid (Blk W11 w.heap.size #[.int .i64 k0, .int .i64 n0, .string s0, .slice p0 l0 c0] 24) := A0_10.out.next hb
      have A1_11 : Hid (Blk W11 (w.heap.size + 1) #[.int .i64 k1, .int .i64 n1, .string s1, .slice p1 l1 c1] 24) := A1_10.out.next hb
      have BW_11 : Hid (Blk W11 V6.heap.size #[.int .i64 rk, .int .i64 rn, .string rt, .slice none 0 0] 28) := BW_10.out.next hb
      have O0_11 : Hid (OVa W11 d [.int .i64 kx0, .int .i64 nx0, .string sx0, .slice px0 lx0 cx0] m0 fp0) := O0_10.out.keep (KeepOn.below hb O0_10.out.lt)
      have X0_11 : Hid (Blk W11 W9.heap.size #[.int .i64 kx0, .int .i64 nx0, .string sx0, .slice px0 lx0 cx0] 28) := X0_10.out.next hb
      clear A0_10 A1_10 BW_10 O0_10 X0_10
      clear hb
      obtain ⟨W12, hW⟩ : ∃ W, W = (W11.alloc (.cells #[.int .i64 kx1, .int .i64 nx1, .string sx1, .slice px1 lx1 cx1] 28)) := ⟨_, rfl⟩
      have hb : Below W11.heap.size W11 W12 := by rw [hW]; exact (Below.refl _ _).alloc (Nat.le_refl _) _
      have X1_12 : Hid (Blk W12 W11.heap.size #[.int .i64 kx1, .int .i64 nx1, .string sx1, .slice px1 lx1 cx1] 28) := by
        show Blk _ _ _ _
        rw [hW]; exact Blk.new
      have HSZ12 : Hid (W12.heap.size = W11.heap.size + 1) := by
        show _ = _
        rw [hW]; simp only [alloc_hs]
      have HW12 : Hid (W12 = (W11.alloc (.cells #[.int .i64 kx1, .int .i64 nx1, .string sx1, .slice px1 lx1 cx1] 28))) := hW
      have B12 : Hid (Below w.heap.size w W12) := B11.out.trans (hb.mono B11.out.size)
      have A0_12 : Hid (Blk W12 w.heap.size #[.int .i64 k0, .int .i64 n0, .string s0, .slice p0 l0 c0] 24) := A0_11.out.next hb
      have A1_12 : Hid (Blk W12 (w.heap.size + 1) #[.int .i64 k1, .int .i64 n1, .string s1, .slice p1 l1 c1] 24) := A1_11.out.next hb
      have BW_12 : Hid (Blk W12 V6.heap.size #[.int .i64 rk, .int .i64 rn, .string rt, .slice none 0 0] 28) := BW_11.out.next hb
      have O0_12 : Hid (OVa W12 d [.int .i64 kx0, .int .i64 nx0, .string sx0, .slice px0 lx0 cx0] m0 fp0) := O0_11.out.keep (KeepOn.below hb O0_11.out.lt)
      have X0_12 : Hid (Blk W12 W9.heap.size #[.int .i64 kx0, .int .i64 nx0, .string sx0, .slice px0 lx0 cx0] 28) := X0_11.out.next hb
      have O1_12 : Hid (OVa W12 d [.int .i64 kx1, .int .i64 nx1, .string sx1, .slice px1 lx1 cx1] m1 fp1) := O1_11.out.keep (KeepOn.below hb O1_11.out.lt)
      clear A0_11 A1_11 BW_11 O0_11 X0_11 O1_11
      clear hb
      have e0 := X0_12.out.cell 0 _ rfl
      have e1 := X0_12.out.cell 1 _ rfl
      have e2 := X0_12.out.cell 2 _ rfl
      have e3 := X0_12.out.cell 3 _ rfl
      have e4 := X1_12.out.cell 0 _ rfl
      have e5 := X1_12.out.cell 1 _ rfl
      have e6 := X1_12.out.cell 2 _ rfl
      have e7 := X1_12.out.cell 3 _ rfl
      rw [HW12.out] at e0 e1 e2 e3 e4 e5 e6 e7
      go_wp2_with fail
      rw [← HW12.out]
      clear e0 e1 e2 e3 e4 e5 e6 e7
      refine (IL.out _ _ _ (O0_12.out.tree (fun _ _ => trivial)) (O1_12.out.tree (fun _ _ => trivial))).mono ?_
      rintro e W13 ⟨rfl, hb⟩
      have LG0 : W12.heap.size ≤ W13.heap.size := hb.size
      have B13 : Hid (Below w.heap.size w W13) := B12.out.trans (hb.mono B12.out.size)
      have A0_13 : Hid (Blk W13 w.heap.size #[.int .i64 k0, .int .i64 n0, .string s0, .slice p0 l0 c0] 24) := A0_12.out.next hb
      have A1_13 : Hid (Blk W13 (w.heap.size + 1) #[.int .i64 k1, .int .i64 n1, .string s1, .slice p1 l1 c1] 24) := A1_12.out.next hb
      have BW_13 : Hid (Blk W13 V6.heap.size #[.int .i64 rk, .int .i64 rn, .string rt, .slice none 0 0] 28) := BW_12.out.next hb
      have O0_13 : Hid (OVa W13 d [.int .i64 kx0, .int .i64 nx0, .string sx0, .slice px0 lx0 cx0] m0 fp0) := O0_12.out.keep (KeepOn.below hb O0_12.out.lt)
      have X0_13 : Hid (Blk W13 W9.heap.size #[.int .i64 kx0, .int .i64 nx0, .string sx0, .slice px0 lx0 cx0] 28) := X0_12.out.next hb
      have O1_13 : Hid (OVa W13 d [.int .i64 kx1, .int .i64 nx1, .string sx1, .slice px1 lx1 cx1] m1 fp1) := O1_12.out.keep (KeepOn.below hb O1_12.out.lt)
      have X1_13 : Hid (Blk W13 W11.heap.size #[.int .i64 kx1, .int .i64 nx1, .string sx1, .slice px1 lx1 cx1] 28) := X1_12.out.next hb
      clear A0_12 A1_12 BW_12 O0_12 X0_12 O1_12 X1_12
      clear hb
      obtain ⟨W14, hW⟩ : ∃ W, W = (W13.alloc (.cells #[.int .i64 rk, .int .i64 rn, .string rt, .slice none 0 0] 28)) := ⟨_, rfl⟩
      have hb : Below W13.heap.size W13 W14 := by rw [hW]; exact (Below.refl _ _).alloc (Nat.le_refl _) _
      have LG : Hid (W12.heap.size ≤ W13.heap.size) := LG0
      have BG_14 : Hid (Blk W14 W13.heap.size #[.int .i64 rk, .int .i64 rn, .string rt, .slice none 0 0] 28) := by
        show Blk _ _ _ _
        rw [hW]; exact Blk.new
      have HSZ14 : Hid (W14.heap.size = W13.heap.size + 1) := by
        show _ = _
        rw [hW]; simp only [alloc_hs]
      have HW14 : Hid (W14 = (W13.alloc (.cells #[.int .i64 rk, .int .i64 rn, .string rt, .slice none 0 0] 28))) := hW
      have B14 : Hid (Below w.heap.size w W14) := B13.out.trans (hb.mono B13.out.size)
      have A0_14 : Hid (Blk W14 w.heap.size #[.int .i64 k0, .int .i64 n0, .string s0, .slice p0 l0 c0] 24) := A0_13.out.next hb
      have A1_14 : Hid (Blk W14 (w.heap.size + 1) #[.int .i64 k1, .int .i64 n1, .string s1, .slice p1 l1 c1] 24) := A1_13.out.next hb
      have BW_14 : Hid (Blk W14 V6.heap.size #[.int .i64 rk, .int .i64 rn, .string rt, .slice none 0 0] 28) := BW_13.out.next hb
      have O0_14 : Hid (OVa W14 d [.int .i64 kx0, .int .i64 nx0, .string sx0, .slice px0 lx0 cx0] m0 fp0) := O0_13.out.keep (KeepOn.below hb O0_13.out.lt)
      have X0_14 : Hid (Blk W14 W9.heap.size #[.int .i64 kx0, .int .i64 nx0, .string sx0, .slice px0 lx0 cx0] 28) := X0_13.out.next hb
      have O1_14 : Hid (OVa W14 d [.int .i64 kx1, .int .i64 nx1, .string sx1, .slice px1 lx1 cx1] m1 fp1) := O1_13.out.keep (KeepOn.below hb O1_13.out.lt)
      have X1_14 : Hid (Blk W14 W11.heap.size #[.int .i64 kx1, .int .i64 nx1, .string sx1, .slice px1 lx1 cx1] 28) := X1_13.out.next hb
      clear A0_13 A1_13 BW_13 O0_13 X0_13 O1_13 X1_13
      clear hb
      have e0 := BG_14.out.cell 0 _ rfl
      have e1 := BG_14.out.cell 1 _ rfl
      have e2 := BG_14.out.cell 2 _ rfl
      have e3 := BG_14.out.cell 3 _ rfl
      have e4 := BW_14.out.cell 0 _ rfl
      have e5 := BW_14.out.cell 1 _ rfl
      have e6 := BW_14.out.cell 2 _ rfl
      have e7 := BW_14.out.cell 3 _ rfl
      rw [HW14.out] at e0 e1 e2 e3 e4 e5 e6 e7
      go_wp2_with fail
      rw [← HW14.out]
      clear e0 e1 e2 e3 e4 e5 e6 e7
      refine (eqVal_all 1 _ _ _ (flat ((rk, rn, rt), rb)) ⟨_, rfl, FL.out _⟩ ⟨_, rfl, FL.out _⟩).mono ?_
      rintro e W15 ⟨rfl, hb⟩
      have B15 : Hid (Below w.heap.size w W15) := B14.out.trans (hb.mono B14.out.size)
      have A0_15 : Hid (Blk W15 w.heap.size #[.int .i64 k0, .int .i64 n0, .string s0, .slice p0 l0 c0] 24) := A0_14.out.next hb
      have A1_15 : Hid (Blk W15 (w.heap.size + 1) #[.int .i64 k1, .int .i64 n1, .string s1, .slice p1 l1 c1] 24) := A1_14.out.next hb
      have BW_15 : Hid (Blk W15 V6.heap.size #[.int .i64 rk, .int .i64 rn, .string rt, .slice none 0 0] 28) := BW_14.out.next hb
      have O0_15 : Hid (OVa W15 d [.int .i64 kx0, .int .i64 nx0, .string sx0, .slice px0 lx0 cx0] m0 fp0) := O0_14.out.keep (KeepOn.below hb O0_14.out.lt)
      have X0_15 : Hid (Blk W15 W9.heap.size #[.int .i64 kx0, .int .i64 nx0, .string sx0, .slice px0 lx0 cx0] 28) := X0_14.out.next hb
      have O1_15 : Hid (OVa W15 d [.int .i64 kx1, .int .i64 nx1, .string sx1, .slice px1 lx1 cx1] m1 fp1) := O1_14.out.keep (KeepOn.below hb O1_14.out.lt)
      have X1_15 : Hid (Blk W15 W11.heap.size #[.int .i64 kx1, .int .i64 nx1, .string sx1, .slice px1 lx1 cx1] 28) := X1_14.out.next hb
      have BG_15 : Hid (Blk W15 W13.heap.size #[.int .i64 rk, .int .i64 rn, .string rt, .slice none 0 0] 28) := BG_14.out.next hb
      clear A0_14 A1_14 BW_14 O0_14 X0_14 O1_14 X1_14 BG_14
      clear hb
      have e0 := X0_15.out.cell 0 _ rfl
      have e1 := X0_15.out.cell 1 _ rfl
      have e2 := X0_15.out.cell 2 _ rfl
      have e3 := X0_15.out.cell 3 _ rfl
      have e4 := A0_15.out.cell 0 _ rfl
      have e5 := A0_15.out.cell 1 _ rfl
      have e6 := A0_15.out.cell 2 _ rfl
      have e7 := A0_15.out.cell 3 _ rfl
      go_wp2_with fail
      go_region_held3 (fun w' => w'.cell? ⟨W9.heap.size, 0, none⟩ = some (.int .i64 kx0) ∧ w'.cell? ⟨W9.heap.size, 1, none⟩ = some (.int .i64 nx0) ∧ w'.cell? ⟨W9.heap.size, 2, none⟩ = some (.string sx0) ∧ w'.cell? ⟨W9.heap.size, 3, none⟩ = some (.slice px0 lx0 cx0) ∧ w'.cell? ⟨w.heap.size, 0, none⟩ = some (.int .i64 k0) ∧ w'.cell? ⟨w.heap.size, 1, none⟩ = some (.int .i64 n0) ∧ w'.cell? ⟨w.heap.size, 2, none⟩ = some (.string s0) ∧ w'.cell? ⟨w.heap.size, 3, none⟩ = some (.slice p0 l0 c0))
        (first | assumption | (go_split_ands; exact ⟨by with_reducible exact cell_next hb (by assumption), by with_reducible exact cell_next hb (by assumption), by with_reducible exact cell_next hb (by assumption), by with_reducible exact cell_next hb (by assumption), by with_reducible exact cell_next hb (by assumption), by with_reducible exact cell_next hb (by assumption), by with_reducible exact cell_next hb (by assumption), by with_reducible exact cell_next hb (by assumption)⟩) | go_keep)
        (first
          | (go_at_call_of 6 (Value.slice p0 l0 c0); refine (toVal_all d _ _ m0 ⟨_, rfl, H0 _ (by exact B15.out.drew)⟩ HW0_.out).mono ?_; rintro e W16 ⟨u, rfl, ⟨cs, rfl, hx⟩, hb⟩; obtain ⟨kv0, nv0, sv0, pv0, lv0, cv0, hsh⟩ := hx.shape; subst hsh; have U0 : ∀ w', Below W16.heap.size W16 w' → HVa w' All d [.int .i64 kv0, .int .i64 nv0, .string sv0, .slice pv0 lv0 cv0] m0 := fun w' hw => hx.mono (SameOn.of_below hw) (fun _ _ => trivial); have K1 : Hid (Below W15.heap.size W15 W16) := ⟨hb.os, hb.tape, hb.output, hb.size, hb.block⟩; clear hx)
          | (go_at_call 8; refine (eqVal_all d _ _ _ m0 ⟨_, rfl, (O0_15.out.keep (KeepOn.below K1.out O0_15.out.lt)).tree (fun _ _ => trivial)⟩ ⟨_, rfl, U0 _ (Below.refl _ _)⟩).mono ?_; rintro e W17 ⟨rfl, hb⟩; have K2 : Hid (Below W15.heap.size W15 W17) := K1.out.trans (hb.mono K1.out.size)))
      go_split_ands
      clear hb
      have hb := K2.out
      clear K1 K2 U0
      clear e0 e1 e2 e3 e4 e5 e6 e7
      have B17 : Hid (Below w.heap.size w W17) := B15.out.trans (hb.mono B15.out.size)
      have A0_17 : Hid (Blk W17 w.heap.size #[.int .i64 k0, .int .i64 n0, .string s0, .slice p0 l0 c0] 24) := A0_15.out.next hb
      have A1_17 : Hid (Blk W17 (w.heap.size + 1) #[.int .i64 k1, .int .i64 n1, .string s1, .slice p1 l1 c1] 24) := A1_15.out.next hb
      have BW_17 : Hid (Blk W17 V6.heap.size #[.int .i64 rk, .int .i64 rn, .string rt, .slice none 0 0] 28) := BW_15.out.next hb
      have O0_17 : Hid (OVa W17 d [.int .i64 kx0, .int .i64 nx0, .string sx0, .slice px0 lx0 cx0] m0 fp0) := O0_15.out.keep (KeepOn.below hb O0_15.out.lt)
      have X0_17 : Hid (Blk W17 W9.heap.size #[.int .i64 kx0, .int .i64 nx0, .string sx0, .slice px0 lx0 cx0] 28) := X0_15.out.next hb
      have O1_17 : Hid (OVa W17 d [.int .i64 kx1, .int .i64 nx1, .string sx1, .slice px1 lx1 cx1] m1 fp1) := O1_15.out.keep (KeepOn.below hb O1_15.out.lt)
      have X1_17 : Hid (Blk W17 W11.heap.size #[.int .i64 kx1, .int .i64 nx1, .string sx1, .slice px1 lx1 cx1] 28) := X1_15.out.next hb
      have BG_17 : Hid (Blk W17 W13.heap.size #[.int .i64 rk, .int .i64 rn, .string rt, .slice none 0 0] 28) := BG_15.out.next hb
      clear A0_15 A1_15 BW_15 O0_15 X0_15 O1_15 X1_15 BG_15
      clear hb
      have e0 := X1_17.out.cell 0 _ rfl
      have e1 := X1_17.out.cell 1 _ rfl
      have e2 := X1_17.out.cell 2 _ rfl
      have e3 := X1_17.out.cell 3 _ rfl
      have e4 := A1_17.out.cell 0 _ rfl
      have e5 := A1_17.out.cell 1 _ rfl
      have e6 := A1_17.out.cell 2 _ rfl
      have e7 := A1_17.out.cell 3 _ rfl
      go_wp2_with fail
      go_region_held3 (fun w' => w'.cell? ⟨W11.heap.size, 0, none⟩ = some (.int .i64 kx1) ∧ w'.cell? ⟨W11.heap.size, 1, none⟩ = some (.int .i64 nx1) ∧ w'.cell? ⟨W11.heap.size, 2, none⟩ = some (.string sx1) ∧ w'.cell? ⟨W11.heap.size, 3, none⟩ = some (.slice px1 lx1 cx1) ∧ w'.cell? ⟨w.heap.size + 1, 0, none⟩ = some (.int .i64 k1) ∧ w'.cell? ⟨w.heap.size + 1, 1, none⟩ = some (.int .i64 n1) ∧ w'.cell? ⟨w.heap.size + 1, 2, none⟩ = some (.string s1) ∧ w'.cell? ⟨w.heap.size + 1, 3, none⟩ = some (.slice p1 l1 c1))
        (first | assumption | (go_split_ands; exact ⟨by with_reducible exact cell_next hb (by assumption), by with_reducible exact cell_next hb (by assumption), by with_reducible exact cell_next hb (by assumption), by with_reducible exact cell_next hb (by assumption), by with_reducible exact cell_next hb (by assumption), by with_reducible exact cell_next hb (by assumption), by with_reducible exact cell_next hb (by assumption), by with_reducible exact cell_next hb (by assumption)⟩) | go_keep)
        (first
          | (go_at_call_of 6 (Value.slice p1 l1 c1); refine (toVal_all d _ _ m1 ⟨_, rfl, H1 _ (by exact B17.out.drew)⟩ HW1_.out).mono ?_; rintro e W18 ⟨u, rfl, ⟨cs, rfl, hx⟩, hb⟩; obtain ⟨kz1, nz1, sz1, pz1, lz1, cz1, hsh⟩ := hx.shape; subst hsh; have U0 : ∀ w', Below W18.heap.size W18 w' → HVa w' All d [.int .i64 kz1, .int .i64 nz1, .string sz1, .slice pz1 lz1 cz1] m1 := fun w' hw => hx.mono (SameOn.of_below hw) (fun _ _ => trivial); have K1 : Hid (Below W17.heap.size W17 W18) := ⟨hb.os, hb.tape, hb.output, hb.size, hb.block⟩; clear hx)
          | (go_at_call 8; refine (eqVal_all d _ _ _ m1 ⟨_, rfl, (O1_17.out.keep (KeepOn.below K1.out O1_17.out.lt)).tree (fun _ _ => trivial)⟩ ⟨_, rfl, U0 _ (Below.refl _ _)⟩).mono ?_; rintro e W19 ⟨rfl, hb⟩; have K2 : Hid (Below W17.heap.size W17 W19) := K1.out.trans (hb.mono K1.out.size)))
      go_split_ands
      clear hb
      have hb := K2.out
      clear K1 K2 U0
      clear e0 e1 e2 e3 e4 e5 e6 e7
      have B19 : Hid (Below w.heap.size w W19) := B17.out.trans (hb.mono B17.out.size)
      have A0_19 : Hid (Blk W19 w.heap.size #[.int .i64 k0, .int .i64 n0, .string s0, .slice p0 l0 c0] 24) := A0_17.out.next hb
      have A1_19 : Hid (Blk W19 (w.heap.size + 1) #[.int .i64 k1, .int .i64 n1, .string s1, .slice p1 l1 c1] 24) := A1_17.out.next hb
      have BW_19 : Hid (Blk W19 V6.heap.size #[.int .i64 rk, .int .i64 rn, .string rt, .slice none 0 0] 28) := BW_17.out.next hb
      have O0_19 : Hid (OVa W19 d [.int .i64 kx0, .int .i64 nx0, .string sx0, .slice px0 lx0 cx0] m0 fp0) := O0_17.out.keep (KeepOn.below hb O0_17.out.lt)
      have X0_19 : Hid (Blk W19 W9.heap.size #[.int .i64 kx0, .int .i64 nx0, .string sx0, .slice px0 lx0 cx0] 28) := X0_17.out.next hb
      have O1_19 : Hid (OVa W19 d [.int .i64 kx1, .int .i64 nx1, .string sx1, .slice px1 lx1 cx1] m1 fp1) := O1_17.out.keep (KeepOn.below hb O1_17.out.lt)
      have X1_19 : Hid (Blk W19 W11.heap.size #[.int .i64 kx1, .int .i64 nx1, .string sx1, .slice px1 lx1 cx1] 28) := X1_17.out.next hb
      have BG_19 : Hid (Blk W19 W13.heap.size #[.int .i64 rk, .int .i64 rn, .string rt, .slice none 0 0] 28) := BG_17.out.next hb
      clear A0_17 A1_17 BW_17 O0_17 X0_17 O1_17 X1_17 BG_17
      clear hb
      have e0 := X0_19.out.cell 0 _ rfl
      have e1 := X0_19.out.cell 1 _ rfl
      have e2 := X0_19.out.cell 2 _ rfl
      have e3 := X0_19.out.cell 3 _ rfl
      go_wp2_with fail
      clear e0 e1 e2 e3
      have hcb0 := cnt_b HD.out HW0_.out
      have hcb1 := cnt_b HD.out HW1_.out
      have HC0 : Hid (1 + (m0.kids.map (cntV dd)).sum ≤ 4194304) := by show _ ≤ _; omega
      have HC1 : Hid ((m1.kids.map (cntV dd)).sum ≤ 4194304) := by show _ ≤ _; omega
      clear hcb0 hcb1
      refine (markVal_any dd _ _ _ _ _ m0.kids fp0 1 (OVa.kids1 HD.out O0_19.out) N0.out (by omega) (by have := HC0.out; omega)).mono ?_
      rintro e W20 ⟨rfl, -, hb⟩
      have B20 : Hid (Below w.heap.size w W20) := B19.out.trans (hb.below (fun a ha => by have h1 := R0.out a ha; have h9 := B8.out.size; omega) B19.out.size)
      clear O0_19
      have A0_20 : Hid (Blk W20 w.heap.size #[.int .i64 k0, .int .i64 n0, .string s0, .slice p0 l0 c0] 24) := (hb.block _ A0_19.out.lt (fun hm => by have h1 := R0.out _ hm; have h9 := B8.out.size; have hA := LA.out; have hS0 := S0.out; have hS1 := S1.out; have hX0 := HSZ10.out; have hX1 := HSZ12.out; omega)).trans A0_19.out
      have A1_20 : Hid (Blk W20 (w.heap.size + 1) #[.int .i64 k1, .int .i64 n1, .string s1, .slice p1 l1 c1] 24) := (hb.block _ A1_19.out.lt (fun hm => by have h1 := R0.out _ hm; have h9 := B8.out.size; have hA := LA.out; have hS0 := S0.out; have hS1 := S1.out; have hX0 := HSZ10.out; have hX1 := HSZ12.out; omega)).trans A1_19.out
      have BW_20 : Hid (Blk W20 V6.heap.size #[.int .i64 rk, .int .i64 rn, .string rt, .slice none 0 0] 28) := (hb.block _ BW_19.out.lt (fun hm => by have h1 := R0.out _ hm; have h9 := B8.out.size; have hA := LA.out; have hS0 := S0.out; have hS1 := S1.out; have hX0 := HSZ10.out; have hX1 := HSZ12.out; have hW_ := LW.out; omega)).trans BW_19.out
      have X0_20 : Hid (Blk W20 W9.heap.size #[.int .i64 kx0, .int .i64 nx0, .string sx0, .slice px0 lx0 cx0] 28) := (hb.block _ X0_19.out.lt (fun hm => by have h1 := R0.out _ hm; have h9 := B8.out.size; have hA := LA.out; have hS0 := S0.out; have hS1 := S1.out; have hX0 := HSZ10.out; have hX1 := HSZ12.out; omega)).trans X0_19.out
      have O1_20 : Hid (OVa W20 d [.int .i64 kx1, .int .i64 nx1, .string sx1, .slice px1 lx1 cx1] m1 fp1) := O1_19.out.keep (hb.keep (fun a ha => ⟨O1_19.out.lt a ha, fun hm => by have h1 := R0.out a hm; have h2 := R1.out a ha; have hX0 := HSZ10.out; omega⟩))
      have X1_20 : Hid (Blk W20 W11.heap.size #[.int .i64 kx1, .int .i64 nx1, .string sx1, .slice px1 lx1 cx1] 28) := (hb.block _ X1_19.out.lt (fun hm => by have h1 := R0.out _ hm; have h9 := B8.out.size; have hA := LA.out; have hS0 := S0.out; have hS1 := S1.out; have hX0 := HSZ10.out; have hX1 := HSZ12.out; omega)).trans X1_19.out
      have BG_20 : Hid (Blk W20 W13.heap.size #[.int .i64 rk, .int .i64 rn, .string rt, .slice none 0 0] 28) := (hb.block _ BG_19.out.lt (fun hm => by have h1 := R0.out _ hm; have h9 := B8.out.size; have hA := LA.out; have hS0 := S0.out; have hS1 := S1.out; have hX0 := HSZ10.out; have hX1 := HSZ12.out; have hG_ := LG.out; omega)).trans BG_19.out
      clear A0_19 A1_19 BW_19 X0_19 O1_19 X1_19 BG_19
      clear hb
      have KP : Hid (1 ≤ 1 + (m0.kids.map (cntV dd)).sum) := by show _ ≤ _; omega
      generalize hk1 : 1 + (m0.kids.map (cntV dd)).sum = kk1 at *
      clear hk1
      have hkk1 := HC0.out
      have e0 := X1_20.out.cell 0 _ rfl
      have e1 := X1_20.out.cell 1 _ rfl
      have e2 := X1_20.out.cell 2 _ rfl
      have e3 := X1_20.out.cell 3 _ rfl
      go_wp2_with fail
      clear e0 e1 e2 e3
      refine (markVal_at dd _ _ _ _ _ m1.kids fp1 kk1 _ rfl (OVa.kids1 HD.out O1_20.out) N1.out KP.out (by have := HC0.out; have := HC1.out; omega)).mono ?_
      rintro e W21 ⟨rfl, -, hb⟩
      have B21 : Hid (Below w.heap.size w W21) := B20.out.trans (hb.below (fun a ha => by have h1 := R1.out a ha; have h9 := B10.out.size; omega) B20.out.size)
      clear X0_20
      clear O1_20
      clear X1_20
      have A0_21 : Hid (Blk W21 w.heap.size #[.int .i64 k0, .int .i64 n0, .string s0, .slice p0 l0 c0] 24) := (hb.block _ A0_20.out.lt (fun hm => by have h1 := R1.out _ hm; have h9 := B8.out.size; have hA := LA.out; have hS0 := S0.out; have hS1 := S1.out; have hX0 := HSZ10.out; have hX1 := HSZ12.out; omega)).trans A0_20.out
      have A1_21 : Hid (Blk W21 (w.heap.size + 1) #[.int .i64 k1, .int .i64 n1, .string s1, .slice p1 l1 c1] 24) := (hb.block _ A1_20.out.lt (fun hm => by have h1 := R1.out _ hm; have h9 := B8.out.size; have hA := LA.out; have hS0 := S0.out; have hS1 := S1.out; have hX0 := HSZ10.out; have hX1 := HSZ12.out; omega)).trans A1_20.out
      have BW_21 : Hid (Blk W21 V6.heap.size #[.int .i64 rk, .int .i64 rn, .string rt, .slice none 0 0] 28) := (hb.block _ BW_20.out.lt (fun hm => by have h1 := R1.out _ hm; have h9 := B8.out.size; have hA := LA.out; have hS0 := S0.out; have hS1 := S1.out; have hX0 := HSZ10.out; have hX1 := HSZ12.out; have hW_ := LW.out; omega)).trans BW_20.out
      have BG_21 : Hid (Blk W21 W13.heap.size #[.int .i64 rk, .int .i64 rn, .string rt, .slice none 0 0] 28) := (hb.block _ BG_20.out.lt (fun hm => by have h1 := R1.out _ hm; have h9 := B8.out.size; have hA := LA.out; have hS0 := S0.out; have hS1 := S1.out; have hX0 := HSZ10.out; have hX1 := HSZ12.out; have hG_ := LG.out; omega)).trans BG_20.out
      clear A0_20 A1_20 BW_20 BG_20
      clear hb
      have hkk2 : kk1 + (m1.kids.map (cntV dd)).sum ≤ 8388608 := by have := HC0.out; have := HC1.out; omega
      generalize hk2 : kk1 + (m1.kids.map (cntV dd)).sum = kk2 at *
      clear hk2
      have e0 := BG_21.out.cell 0 _ rfl
      have e1 := BG_21.out.cell 1 _ rfl
      have e2 := BG_21.out.cell 2 _ rfl
      have e3 := BG_21.out.cell 3 _ rfl
      have e4 := BW_21.out.cell 0 _ rfl
      have e5 := BW_21.out.cell 1 _ rfl
      have e6 := BW_21.out.cell 2 _ rfl
      have e7 := BW_21.out.cell 3 _ rfl
      go_wp2_with fail
      clear e0 e1 e2 e3 e4 e5 e6 e7
      refine (eqVal_all 1 _ _ _ (flat ((rk, rn, rt), rb)) ⟨_, rfl, FL.out _⟩ ⟨_, rfl, FL.out _⟩).mono ?_
      rintro e W22 ⟨rfl, hb⟩
      have B22 : Hid (Below w.heap.size w W22) := B21.out.trans (hb.mono B21.out.size)
      have A0_22 : Hid (Blk W22 w.heap.size #[.int .i64 k0, .int .i64 n0, .string s0, .slice p0 l0 c0] 24) := A0_21.out.next hb
      have A1_22 : Hid (Blk W22 (w.heap.size + 1) #[.int .i64 k1, .int .i64 n1, .string s1, .slice p1 l1 c1] 24) := A1_21.out.next hb
      have BW_22 : Hid (Blk W22 V6.heap.size #[.int .i64 rk, .int .i64 rn, .string rt, .slice none 0 0] 28) := BW_21.out.next hb
      have BG_22 : Hid (Blk W22 W13.heap.size #[.int .i64 rk, .int .i64 rn, .string rt, .slice none 0 0] 28) := BG_21.out.next hb
      clear A0_21 A1_21 BW_21 BG_21
      clear hb
      have e0 := BG_22.out.cell 0 _ rfl
      have e1 := BG_22.out.cell 1 _ rfl
      have e2 := BG_22.out.cell 2 _ rfl
      have e3 := BG_22.out.cell 3 _ rfl
      go_wp2_with fail
      clear e0 e1 e2 e3
      refine (markVal_any 0 _ _ _ _ _ [] [] 1 (.inl ⟨rfl, rfl, _, _, rfl, Nat.zero_le _⟩) (by simp) (by omega) (by simp)).mono ?_
      rintro e W23 ⟨rfl, -, ho⟩
      have hb := ho.below (N := W22.heap.size) (fun a ha => by simp at ha) (Nat.le_refl _)
      clear ho
      have B23 : Hid (Below w.heap.size w W23) := B22.out.trans (hb.mono B22.out.size)
      have A0_23 : Hid (Blk W23 w.heap.size #[.int .i64 k0, .int .i64 n0, .string s0, .slice p0 l0 c0] 24) := A0_22.out.next hb
      have A1_23 : Hid (Blk W23 (w.heap.size + 1) #[.int .i64 k1, .int .i64 n1, .string s1, .slice p1 l1 c1] 24) := A1_22.out.next hb
      have BW_23 : Hid (Blk W23 V6.heap.size #[.int .i64 rk, .int .i64 rn, .string rt, .slice none 0 0] 28) := BW_22.out.next hb
      have BG_23 : Hid (Blk W23 W13.heap.size #[.int .i64 rk, .int .i64 rn, .string rt, .slice none 0 0] 28) := BG_22.out.next hb
      clear A0_22 A1_22 BW_22 BG_22
      clear hb
      simp only [List.map_nil, List.sum_nil, Nat.add_zero]
      have e0 := BG_23.out.cell 0 _ rfl
      have e1 := BG_23.out.cell 1 _ rfl
      have e2 := BG_23.out.cell 2 _ rfl
      have e3 := BG_23.out.cell 3 _ rfl
      go_wp2_with fail
      clear e0 e1 e2 e3
      refine (heldVal_any 0 _ _ _ _ _ [] 1 (Rows.nil (Nat.zero_le _)) (by omega) (by simp)).mono ?_
      rintro e W24 ⟨rfl, hb⟩
      simp only [List.map_nil, List.sum_nil, Nat.add_zero]
      have B24 : Hid (Below w.heap.size w W24) := B23.out.trans (hb.mono B23.out.size)
      have A0_24 : Hid (Blk W24 w.heap.size #[.int .i64 k0, .int .i64 n0, .string s0, .slice p0 l0 c0] 24) := A0_23.out.next hb
      have A1_24 : Hid (Blk W24 (w.heap.size + 1) #[.int .i64 k1, .int .i64 n1, .string s1, .slice p1 l1 c1] 24) := A1_23.out.next hb
      have BW_24 : Hid (Blk W24 V6.heap.size #[.int .i64 rk, .int .i64 rn, .string rt, .slice none 0 0] 28) := BW_23.out.next hb
      have BG_24 : Hid (Blk W24 W13.heap.size #[.int .i64 rk, .int .i64 rn, .string rt, .slice none 0 0] 28) := BG_23.out.next hb
      clear A0_23 A1_23 BW_23 BG_23
      clear hb
      have a00 := A0_24.out.cell 0 _ rfl
      have a01 := A0_24.out.cell 1 _ rfl
      have a02 := A0_24.out.cell 2 _ rfl
      have a03 := A0_24.out.cell 3 _ rfl
      have a10 := A1_24.out.cell 0 _ rfl
      have a11 := A1_24.out.cell 1 _ rfl
      have a12 := A1_24.out.cell 2 _ rfl
      have a13 := A1_24.out.cell 3 _ rfl
      have hzA := A1_24.out.lt
      go_wp2_with fail
      go_region_held3 (fun w' => w'.cell? ⟨w.heap.size, 0, none⟩ = some (.int .i64 k0) ∧ w'.cell? ⟨w.heap.size, 1, none⟩ = some (.int .i64 n0) ∧ w'.cell? ⟨w.heap.size, 2, none⟩ = some (.string s0) ∧ w'.cell? ⟨w.heap.size, 3, none⟩ = some (.slice p0 l0 c0) ∧ w'.cell? ⟨w.heap.size + 1, 0, none⟩ = some (.int .i64 k1) ∧ w'.cell? ⟨w.heap.size + 1, 1, none⟩ = some (.int .i64 n1) ∧ w'.cell? ⟨w.heap.size + 1, 2, none⟩ = some (.string s1) ∧ w'.cell? ⟨w.heap.size + 1, 3, none⟩ = some (.slice p1 l1 c1))
        (first | assumption | (go_split_ands; exact ⟨by with_reducible exact keep_set4 (N := w.heap.size + 2) (by omega) (by show w.heap.size < w.heap.size + 2; omega) (by assumption), by with_reducible exact keep_set4 (N := w.heap.size + 2) (by omega) (by show w.heap.size < w.heap.size + 2; omega) (by assumption), by with_reducible exact keep_set4 (N := w.heap.size + 2) (by omega) (by show w.heap.size < w.heap.size + 2; omega) (by assumption), by with_reducible exact keep_set4 (N := w.heap.size + 2) (by omega) (by show w.heap.size < w.heap.size + 2; omega) (by assumption), by with_reducible exact keep_set4 (N := w.heap.size + 2) (by omega) (by show w.heap.size + 1 < w.heap.size + 2; omega) (by assumption), by with_reducible exact keep_set4 (N := w.heap.size + 2) (by omega) (by show w.heap.size + 1 < w.heap.size + 2; omega) (by assumption), by with_reducible exact keep_set4 (N := w.heap.size + 2) (by omega) (by show w.heap.size + 1 < w.heap.size + 2; omega) (by assumption), by with_reducible exact keep_set4 (N := w.heap.size + 2) (by omega) (by show w.heap.size + 1 < w.heap.size + 2; omega) (by assumption)⟩) | (go_split_ands; exact ⟨by with_reducible exact cell_next hb (by assumption), by with_reducible exact cell_next hb (by assumption), by with_reducible exact cell_next hb (by assumption), by with_reducible exact cell_next hb (by assumption), by with_reducible exact cell_next hb (by assumption), by with_reducible exact cell_next hb (by assumption), by with_reducible exact cell_next hb (by assumption), by with_reducible exact cell_next hb (by assumption)⟩) | (go_split_ands; exact ⟨by with_reducible exact cell_next ((Below.refl _ _).alloc (Nat.le_refl _) _) (by assumption), by with_reducible exact cell_next ((Below.refl _ _).alloc (Nat.le_refl _) _) (by assumption), by with_reducible exact cell_next ((Below.refl _ _).alloc (Nat.le_refl _) _) (by assumption), by with_reducible exact cell_next ((Below.refl _ _).alloc (Nat.le_refl _) _) (by assumption), by with_reducible exact cell_next ((Below.refl _ _).alloc (Nat.le_refl _) _) (by assumption), by with_reducible exact cell_next ((Below.refl _ _).alloc (Nat.le_refl _) _) (by assumption), by with_reducible exact cell_next ((Below.refl _ _).alloc (Nat.le_refl _) _) (by assumption), by with_reducible exact cell_next ((Below.refl _ _).alloc (Nat.le_refl _) _) (by assumption)⟩) | (go_split_ands; exact ⟨by with_reducible exact cell_next (Below.drew ((Below.refl _ _).alloc (Nat.le_refl _) _)) (by assumption), by with_reducible exact cell_next (Below.drew ((Below.refl _ _).alloc (Nat.le_refl _) _)) (by assumption), by with_reducible exact cell_next (Below.drew ((Below.refl _ _).alloc (Nat.le_refl _) _)) (by assumption), by with_reducible exact cell_next (Below.drew ((Below.refl _ _).alloc (Nat.le_refl _) _)) (by assumption), by with_reducible exact cell_next (Below.drew ((Below.refl _ _).alloc (Nat.le_refl _) _)) (by assumption), by with_reducible exact cell_next (Below.drew ((Below.refl _ _).alloc (Nat.le_refl _) _)) (by assumption), by with_reducible exact cell_next (Below.drew ((Below.refl _ _).alloc (Nat.le_refl _) _)) (by assumption), by with_reducible exact cell_next (Below.drew ((Below.refl _ _).alloc (Nat.le_refl _) _)) (by assumption)⟩) | go_keep)
        (first
          | (go_at_call_of 6 (Value.slice p0 l0 c0); refine (toVal_all d _ _ m0 ⟨_, rfl, H0 _ (by first | with_reducible exact B24.out.drew | with_reducible exact (B24.out.alloc B24.out.size _).drew | with_reducible exact (B24.out.drew.alloc B24.out.size _))⟩ HW0_.out).mono ?_; rintro e V40 ⟨u, rfl, ⟨cs, rfl, hx⟩, hb⟩; obtain ⟨ku400, nu400, su400, pu400, lu400, cu400, hsh⟩ := hx.shape; subst hsh; have U0 : ∀ w', Below V40.heap.size V40 w' → HVa w' All d [.int .i64 ku400, .int .i64 nu400, .string su400, .slice pu400 lu400 cu400] m0 := fun w' hw => hx.mono (SameOn.of_below hw) (fun _ _ => trivial); have gV : Below W24.heap.size W24 V40 := (by first | (have h1 : Below W24.drew.heap.size W24.drew V40 := (by with_reducible exact hb); exact ⟨h1.os, h1.tape, h1.output, h1.size, h1.block⟩) | (have h1 : Below (W24.alloc (.cells #[.int .i64 0, .int .i64 0, .string ⟨#[]⟩, .slice none 0 0] 28)).drew.heap.size (W24.alloc (.cells #[.int .i64 0, .int .i64 0, .string ⟨#[]⟩, .slice none 0 0] 28)).drew V40 := (by with_reducible exact hb); exact below_via (b := W24.alloc (.cells #[.int .i64 0, .int .i64 0, .string ⟨#[]⟩, .slice none 0 0] 28)) ((Below.refl _ _).alloc (Nat.le_refl _) _) ⟨h1.os, h1.tape, h1.output, h1.size, h1.block⟩) | (have h1 : Below (W24.drew.alloc (.cells #[.int .i64 0, .int .i64 0, .string ⟨#[]⟩, .slice none 0 0] 28)).heap.size (W24.drew.alloc (.cells #[.int .i64 0, .int .i64 0, .string ⟨#[]⟩, .slice none 0 0] 28)) V40 := (by with_reducible exact hb); exact below_via (b := W24.alloc (.cells #[.int .i64 0, .int .i64 0, .string ⟨#[]⟩, .slice none 0 0] 28)) ((Below.refl _ _).alloc (Nat.le_refl _) _) ⟨h1.os, h1.tape, h1.output, h1.size, h1.block⟩)); have GV40 : Hid (Below W24.heap.size W24 V40) := gV; clear gV; have zV40 := GV40.out.size; (first | (have hbA : Below (W24.alloc (.cells #[.int .i64 0, .int .i64 0, .string ⟨#[]⟩, .slice none 0 0] 28)).drew.heap.size (W24.alloc (.cells #[.int .i64 0, .int .i64 0, .string ⟨#[]⟩, .slice none 0 0] 28)).drew V40 := (by with_reducible exact hb); have BXV40 : Hid (Blk V40 W24.heap.size #[.int .i64 0, .int .i64 0, .string ⟨#[]⟩, .slice none 0 0] 28) := Blk.next (w := W24.alloc (.cells #[.int .i64 0, .int .i64 0, .string ⟨#[]⟩, .slice none 0 0] 28)) Blk.new ⟨hbA.os, hbA.tape, hbA.output, hbA.size, hbA.block⟩; clear hbA) | (have hbA : Below (W24.drew.alloc (.cells #[.int .i64 0, .int .i64 0, .string ⟨#[]⟩, .slice none 0 0] 28)).heap.size (W24.drew.alloc (.cells #[.int .i64 0, .int .i64 0, .string ⟨#[]⟩, .slice none 0 0] 28)) V40 := (by with_reducible exact hb); have BXV40 : Hid (Blk V40 W24.heap.size #[.int .i64 0, .int .i64 0, .string ⟨#[]⟩, .slice none 0 0] 28) := Blk.next (w := W24.alloc (.cells #[.int .i64 0, .int .i64 0, .string ⟨#[]⟩, .slice none 0 0] 28)) Blk.new ⟨hbA.os, hbA.tape, hbA.output, hbA.size, hbA.block⟩; clear hbA) | skip); have yV40_00 := cell_next GV40.out a00; have yV40_01 := cell_next GV40.out a01; have yV40_02 := cell_next GV40.out a02; have yV40_03 := cell_next GV40.out a03; have yV40_10 := cell_next GV40.out a10; have yV40_11 := cell_next GV40.out a11; have yV40_12 := cell_next GV40.out a12; have yV40_13 := cell_next GV40.out a13; clear hx)
          | (go_at_call_of 6 (Value.slice p1 l1 c1); refine (toVal_all d _ _ m1 ⟨_, rfl, H1 _ (by first | with_reducible exact B24.out.trans (GV40.out.mono B24.out.size) | with_reducible exact (B24.out.trans (GV40.out.mono B24.out.size)).alloc (Nat.le_trans B24.out.size GV40.out.size) _)⟩ HW1_.out).mono ?_; rintro e V41 ⟨u, rfl, ⟨cs, rfl, hx⟩, hb⟩; obtain ⟨ku401, nu401, su401, pu401, lu401, cu401, hsh⟩ := hx.shape; subst hsh; have U1 : ∀ w', Below V41.heap.size V41 w' → HVa w' All d [.int .i64 ku401, .int .i64 nu401, .string su401, .slice pu401 lu401 cu401] m1 := fun w' hw => hx.mono (SameOn.of_below hw) (fun _ _ => trivial); have gV : Below V40.heap.size V40 V41 := (by first | (have h1 : Below V40.heap.size V40 V41 := (by with_reducible exact hb); exact h1) | (have h1 : Below (V40.alloc (.cells #[.int .i64 0, .int .i64 0, .string ⟨#[]⟩, .slice none 0 0] 28)).heap.size (V40.alloc (.cells #[.int .i64 0, .int .i64 0, .string ⟨#[]⟩, .slice none 0 0] 28)) V41 := (by with_reducible exact hb); exact below_via ((Below.refl _ _).alloc (Nat.le_refl _) _) h1)); have GV41 : Hid (Below V40.heap.size V40 V41) := gV; clear gV; have zV41 := GV41.out.size; (first | (have BXV41 : Hid (Blk V41 W24.heap.size #[.int .i64 0, .int .i64 0, .string ⟨#[]⟩, .slice none 0 0] 28) := (show Blk _ _ _ _ from (by with_reducible exact Blk.next BXV40.out GV41.out))) | (have hbA : Below (V40.alloc (.cells #[.int .i64 0, .int .i64 0, .string ⟨#[]⟩, .slice none 0 0] 28)).heap.size (V40.alloc (.cells #[.int .i64 0, .int .i64 0, .string ⟨#[]⟩, .slice none 0 0] 28)) V41 := (by with_reducible exact hb); have BXV41 : Hid (Blk V41 V40.heap.size #[.int .i64 0, .int .i64 0, .string ⟨#[]⟩, .slice none 0 0] 28) := Blk.next (w := V40.alloc (.cells #[.int .i64 0, .int .i64 0, .string ⟨#[]⟩, .slice none 0 0] 28)) Blk.new ⟨hbA.os, hbA.tape, hbA.output, hbA.size, hbA.block⟩; clear hbA) | skip); have yV41_00 := cell_next GV41.out yV40_00; have yV41_01 := cell_next GV41.out yV40_01; have yV41_02 := cell_next GV41.out yV40_02; have yV41_03 := cell_next GV41.out yV40_03; have yV41_10 := cell_next GV41.out yV40_10; have yV41_11 := cell_next GV41.out yV40_11; have yV41_12 := cell_next GV41.out yV40_12; have yV41_13 := cell_next GV41.out yV40_13; clear hx)
          | (go_at_call 7; refine (IL.out _ _ _ (U0 _ (by first | with_reducible exact GV41.out | with_reducible exact GV41.out.alloc GV41.out.size _)) (U1 _ (by first | with_reducible exact Below.refl _ _ | with_reducible exact (Below.refl _ _).alloc (Nat.le_refl _) _))).mono ?_; rintro e V42 ⟨rfl, hb⟩; have gV : Below V41.heap.size V41 V42 := (by first | with_reducible exact hb | (have h1 : Below (V41.alloc (.cells #[.int .i64 0, .int .i64 0, .string ⟨#[]⟩, .slice none 0 0] 28)).heap.size (V41.alloc (.cells #[.int .i64 0, .int .i64 0, .string ⟨#[]⟩, .slice none 0 0] 28)) V42 := (by with_reducible exact hb); exact below_via ((Below.refl _ _).alloc (Nat.le_refl _) _) h1)); have GV42 : Hid (Below V41.heap.size V41 V42) := gV; clear gV; have zV42 := GV42.out.size; (first | (have BXV42 : Hid (Blk V42 W24.heap.size #[.int .i64 0, .int .i64 0, .string ⟨#[]⟩, .slice none 0 0] 28) := (show Blk _ _ _ _ from (by with_reducible exact Blk.next BXV41.out GV42.out))) | (have BXV42 : Hid (Blk V42 V40.heap.size #[.int .i64 0, .int .i64 0, .string ⟨#[]⟩, .slice none 0 0] 28) := (show Blk _ _ _ _ from (by with_reducible exact Blk.next BXV41.out GV42.out))) | (have hbA : Below (V41.alloc (.cells #[.int .i64 0, .int .i64 0, .string ⟨#[]⟩, .slice none 0 0] 28)).heap.size (V41.alloc (.cells #[.int .i64 0, .int .i64 0, .string ⟨#[]⟩, .slice none 0 0] 28)) V42 := (by with_reducible exact hb); have BXV42 : Hid (Blk V42 V41.heap.size #[.int .i64 0, .int .i64 0, .string ⟨#[]⟩, .slice none 0 0] 28) := Blk.next (w := V41.alloc (.cells #[.int .i64 0, .int .i64 0, .string ⟨#[]⟩, .slice none 0 0] 28)) Blk.new ⟨hbA.os, hbA.tape, hbA.output, hbA.size, hbA.block⟩; clear hbA) | skip); (try (have x0 := BXV42.out.cell 0 _ rfl; have g0 := BXV42.out.frozen 0; have x1 := BXV42.out.cell 1 _ rfl; have g1 := BXV42.out.frozen 1; have x2 := BXV42.out.cell 2 _ rfl; have g2 := BXV42.out.frozen 2; have x3 := BXV42.out.cell 3 _ rfl; have g3 := BXV42.out.frozen 3)); have yV42_00 := cell_next GV42.out yV41_00; have yV42_01 := cell_next GV42.out yV41_01; have yV42_02 := cell_next GV42.out yV41_02; have yV42_03 := cell_next GV42.out yV41_03; have yV42_10 := cell_next GV42.out yV41_10; have yV42_11 := cell_next GV42.out yV41_11; have yV42_12 := cell_next GV42.out yV41_12; have yV42_13 := cell_next GV42.out yV41_13; skip))
      · have way := True.intro
        try clear x0 x1 x2 x3 g0 g1 g2 g3
        clear yV40_00 yV40_01 yV40_02 yV40_03 yV40_10 yV40_11 yV40_12 yV40_13 yV41_00 yV41_01 yV41_02 yV41_03 yV41_10 yV41_11 yV41_12 yV41_13 yV42_00 yV42_01 yV42_02 yV42_03 yV42_10 yV42_11 yV42_12 yV42_13
        clear a00 a01 a02 a03 a10 a11 a12 a13
        obtain ⟨W25, hW⟩ : ∃ W, W = (V42.alloc (.cells #[.int .i64 rk, .int .i64 rn, .string rt, .slice none 0 0] 28)) := ⟨_, rfl⟩
        have kk := below_via (below_via GV40.out GV41.out) GV42.out
        have BH_25 : Hid (Blk W25 V42.heap.size #[.int .i64 rk, .int .i64 rn, .string rt, .slice none 0 0] 28) := by
          show Blk _ _ _ _
          rw [hW]; exact Blk.new
        have hb : Below W24.heap.size W24 W25 := by rw [hW]; exact kk.alloc kk.size _
        have HW25 : Hid (W25 = (V42.alloc (.cells #[.int .i64 rk, .int .i64 rn, .string rt, .slice none 0 0] 28))) := hW
        clear hW kk U0 U1 hzA zV40 zV41 zV42
        try clear BXV40
        try clear BXV41
        try clear BXV42
        have B25 : Hid (Below w.heap.size w W25) := B24.out.trans (hb.mono B24.out.size)
        have A0_25 : Hid (Blk W25 w.heap.size #[.int .i64 k0, .int .i64 n0, .string s0, .slice p0 l0 c0] 24) := A0_24.out.next hb
        have A1_25 : Hid (Blk W25 (w.heap.size + 1) #[.int .i64 k1, .int .i64 n1, .string s1, .slice p1 l1 c1] 24) := A1_24.out.next hb
        have BW_25 : Hid (Blk W25 V6.heap.size #[.int .i64 rk, .int .i64 rn, .string rt, .slice none 0 0] 28) := BW_24.out.next hb
        have BG_25 : Hid (Blk W25 W13.heap.size #[.int .i64 rk, .int .i64 rn, .string rt, .slice none 0 0] 28) := BG_24.out.next hb
        clear A0_24 A1_24 BW_24 BG_24
        clear hb
        have e0 := BH_25.out.cell 0 _ rfl
        have e1 := BH_25.out.cell 1 _ rfl
        have e2 := BH_25.out.cell 2 _ rfl
        have e3 := BH_25.out.cell 3 _ rfl
        have e4 := BW_25.out.cell 0 _ rfl
        have e5 := BW_25.out.cell 1 _ rfl
        have e6 := BW_25.out.cell 2 _ rfl
        have e7 := BW_25.out.cell 3 _ rfl
        rw [HW25.out] at e0 e1 e2 e3 e4 e5 e6 e7
        go_wp2_with fail
        rw [← HW25.out]
        clear e0 e1 e2 e3 e4 e5 e6 e7
        refine (eqVal_all 1 _ _ _ (flat ((rk, rn, rt), rb)) ⟨_, rfl, FL.out _⟩ ⟨_, rfl, FL.out _⟩).mono ?_
        rintro e W26 ⟨rfl, hb⟩
        have B26 : Hid (Below w.heap.size w W26) := B25.out.trans (hb.mono B25.out.size)
        have A0_26 : Hid (Blk W26 w.heap.size #[.int .i64 k0, .int .i64 n0, .string s0, .slice p0 l0 c0] 24) := A0_25.out.next hb
        have A1_26 : Hid (Blk W26 (w.heap.size + 1) #[.int .i64 k1, .int .i64 n1, .string s1, .slice p1 l1 c1] 24) := A1_25.out.next hb
        have BW_26 : Hid (Blk W26 V6.heap.size #[.int .i64 rk, .int .i64 rn, .string rt, .slice none 0 0] 28) := BW_25.out.next hb
        have BG_26 : Hid (Blk W26 W13.heap.size #[.int .i64 rk, .int .i64 rn, .string rt, .slice none 0 0] 28) := BG_25.out.next hb
        have BH_26 : Hid (Blk W26 V42.heap.size #[.int .i64 rk, .int .i64 rn, .string rt, .slice none 0 0] 28) := BH_25.out.next hb
        clear A0_25 A1_25 BW_25 BG_25 BH_25
        clear hb
        have e0 := BG_26.out.cell 0 _ rfl
        have e1 := BG_26.out.cell 1 _ rfl
        have e2 := BG_26.out.cell 2 _ rfl
        have e3 := BG_26.out.cell 3 _ rfl
        go_wp2_with fail
        clear e0 e1 e2 e3
        refine (heldVal_any 0 _ _ _ _ _ [] 1 (Rows.nil (Nat.zero_le _)) (by omega) (by simp)).mono ?_
        rintro e W27 ⟨rfl, hb⟩
        simp only [List.map_nil, List.sum_nil, Nat.add_zero]
        have B27 : Hid (Below w.heap.size w W27) := B26.out.trans (hb.mono B26.out.size)
        have A0_27 : Hid (Blk W27 w.heap.size #[.int .i64 k0, .int .i64 n0, .string s0, .slice p0 l0 c0] 24) := A0_26.out.next hb
        have A1_27 : Hid (Blk W27 (w.heap.size + 1) #[.int .i64 k1, .int .i64 n1, .string s1, .slice p1 l1 c1] 24) := A1_26.out.next hb
        have BW_27 : Hid (Blk W27 V6.heap.size #[.int .i64 rk, .int .i64 rn, .string rt, .slice none 0 0] 28) := BW_26.out.next hb
        have BG_27 : Hid (Blk W27 W13.heap.size #[.int .i64 rk, .int .i64 rn, .string rt, .slice none 0 0] 28) := BG_26.out.next hb
        have BH_27 : Hid (Blk W27 V42.heap.size #[.int .i64 rk, .int .i64 rn, .string rt, .slice none 0 0] 28) := BH_26.out.next hb
        clear A0_26 A1_26 BW_26 BG_26 BH_26
        clear hb
        go_wp2_with fail
        go_ret
        exact ⟨rfl, B27.out⟩
      · have way := True.intro
        try clear x0 x1 x2 x3 g0 g1 g2 g3
        clear yV40_00 yV40_01 yV40_02 yV40_03 yV40_10 yV40_11 yV40_12 yV40_13 yV41_00 yV41_01 yV41_02 yV41_03 yV41_10 yV41_11 yV41_12 yV41_13 yV42_00 yV42_01 yV42_02 yV42_03 yV42_10 yV42_11 yV42_12 yV42_13
        clear a00 a01 a02 a03 a10 a11 a12 a13
        obtain ⟨W25, hW⟩ : ∃ W, W = ((((V42.setCell ⟨V41.heap.size, 0, none⟩ (.int .i64 rk)).setCell ⟨V41.heap.size, 1, none⟩ (.int .i64 rn)).setCell ⟨V41.heap.size, 2, none⟩ (.string rt)).setCell ⟨V41.heap.size, 3, none⟩ (.slice none 0 0)) := ⟨_, rfl⟩
        have kk := below_via (below_via GV40.out GV41.out) GV42.out
        have BH_25 : Hid (Blk W25 V41.heap.size #[.int .i64 rk, .int .i64 rn, .string rt, .slice none 0 0] 28) := by
          show Blk _ _ _ _
          rw [hW]; exact (((BXV42.out.same (j := 0) (v := .int .i64 rk) rfl).same (j := 1) (v := .int .i64 rn) rfl).same (j := 2) (v := .string rt) rfl).same (j := 3) (v := .slice none 0 0) rfl
        have hb : Below W24.heap.size W24 W25 := by
          rw [hW]
          exact Below.setCell (Below.setCell (Below.setCell (Below.setCell kk (by show W24.heap.size ≤ V41.heap.size; omega) _) (by show W24.heap.size ≤ V41.heap.size; omega) _) (by show W24.heap.size ≤ V41.heap.size; omega) _) (by show W24.heap.size ≤ V41.heap.size; omega) _
        have HW25 : Hid (W25 = ((((V42.setCell ⟨V41.heap.size, 0, none⟩ (.int .i64 rk)).setCell ⟨V41.heap.size, 1, none⟩ (.int .i64 rn)).setCell ⟨V41.heap.size, 2, none⟩ (.string rt)).setCell ⟨V41.heap.size, 3, none⟩ (.slice none 0 0))) := hW
        clear hW kk U0 U1 hzA zV40 zV41 zV42
        try clear BXV40
        try clear BXV41
        try clear BXV42
        have B25 : Hid (Below w.heap.size w W25) := B24.out.trans (hb.mono B24.out.size)
        have A0_25 : Hid (Blk W25 w.heap.size #[.int .i64 k0, .int .i64 n0, .string s0, .slice p0 l0 c0] 24) := A0_24.out.next hb
        have A1_25 : Hid (Blk W25 (w.heap.size + 1) #[.int .i64 k1, .int .i64 n1, .string s1, .slice p1 l1 c1] 24) := A1_24.out.next hb
        have BW_25 : Hid (Blk W25 V6.heap.size #[.int .i64 rk, .int .i64 rn, .string rt, .slice none 0 0] 28) := BW_24.out.next hb
        have BG_25 : Hid (Blk W25 W13.heap.size #[.int .i64 rk, .int .i64 rn, .string rt, .slice none 0 0] 28) := BG_24.out.next hb
        clear A0_24 A1_24 BW_24 BG_24
        clear hb
        have e0 := BH_25.out.cell 0 _ rfl
        have e1 := BH_25.out.cell 1 _ rfl
        have e2 := BH_25.out.cell 2 _ rfl
        have e3 := BH_25.out.cell 3 _ rfl
        have e4 := BW_25.out.cell 0 _ rfl
        have e5 := BW_25.out.cell 1 _ rfl
        have e6 := BW_25.out.cell 2 _ rfl
        have e7 := BW_25.out.cell 3 _ rfl
        rw [HW25.out] at e0 e1 e2 e3 e4 e5 e6 e7
        go_wp2_with fail
        rw [← HW25.out]
        clear e0 e1 e2 e3 e4 e5 e6 e7
        refine (eqVal_all 1 _ _ _ (flat ((rk, rn, rt), rb)) ⟨_, rfl, FL.out _⟩ ⟨_, rfl, FL.out _⟩).mono ?_
        rintro e W26 ⟨rfl, hb⟩
        have B26 : Hid (Below w.heap.size w W26) := B25.out.trans (hb.mono B25.out.size)
        have A0_26 : Hid (Blk W26 w.heap.size #[.int .i64 k0, .int .i64 n0, .string s0, .slice p0 l0 c0] 24) := A0_25.out.next hb
        have A1_26 : Hid (Blk W26 (w.heap.size + 1) #[.int .i64 k1, .int .i64 n1, .string s1, .slice p1 l1 c1] 24) := A1_25.out.next hb
        have BW_26 : Hid (Blk W26 V6.heap.size #[.int .i64 rk, .int .i64 rn, .string rt, .slice none 0 0] 28) := BW_25.out.next hb
        have BG_26 : Hid (Blk W26 W13.heap.size #[.int .i64 rk, .int .i64 rn, .string rt, .slice none 0 0] 28) := BG_25.out.next hb
        have BH_26 : Hid (Blk W26 V41.heap.size #[.int .i64 rk, .int .i64 rn, .string rt, .slice none 0 0] 28) := BH_25.out.next hb
        clear A0_25 A1_25 BW_25 BG_25 BH_25
        clear hb
        have e0 := BG_26.out.cell 0 _ rfl
        have e1 := BG_26.out.cell 1 _ rfl
        have e2 := BG_26.out.cell 2 _ rfl
        have e3 := BG_26.out.cell 3 _ rfl
        go_wp2_with fail
        clear e0 e1 e2 e3
        refine (heldVal_any 0 _ _ _ _ _ [] 1 (Rows.nil (Nat.zero_le _)) (by omega) (by simp)).mono ?_
        rintro e W27 ⟨rfl, hb⟩
        simp only [List.map_nil, List.sum_nil, Nat.add_zero]
        have B27 : Hid (Below w.heap.size w W27) := B26.out.trans (hb.mono B26.out.size)
        have A0_27 : Hid (Blk W27 w.heap.size #[.int .i64 k0, .int .i64 n0, .string s0, .slice p0 l0 c0] 24) := A0_26.out.next hb
        have A1_27 : Hid (Blk W27 (w.heap.size + 1) #[.int .i64 k1, .int .i64 n1, .string s1, .slice p1 l1 c1] 24) := A1_26.out.next hb
        have BW_27 : Hid (Blk W27 V6.heap.size #[.int .i64 rk, .int .i64 rn, .string rt, .slice none 0 0] 28) := BW_26.out.next hb
        have BG_27 : Hid (Blk W27 W13.heap.size #[.int .i64 rk, .int .i64 rn, .string rt, .slice none 0 0] 28) := BG_26.out.next hb
        have BH_27 : Hid (Blk W27 V41.heap.size #[.int .i64 rk, .int .i64 rn, .string rt, .slice none 0 0] 28) := BH_26.out.next hb
        clear A0_26 A1_26 BW_26 BG_26 BH_26
        clear hb
        go_wp2_with fail
        go_ret
        exact ⟨rfl, B27.out⟩
      · have way := True.intro
        try clear x0 x1 x2 x3 g0 g1 g2 g3
        clear yV40_00 yV40_01 yV40_02 yV40_03 yV40_10 yV40_11 yV40_12 yV40_13 yV41_00 yV41_01 yV41_02 yV41_03 yV41_10 yV41_11 yV41_12 yV41_13 yV42_00 yV42_01 yV42_02 yV42_03 yV42_10 yV42_11 yV42_12 yV42_13
        clear a00 a01 a02 a03 a10 a11 a12 a13
        obtain ⟨W25, hW⟩ : ∃ W, W = ((((V42.setCell ⟨V40.heap.size, 0, none⟩ (.int .i64 rk)).setCell ⟨V40.heap.size, 1, none⟩ (.int .i64 rn)).setCell ⟨V40.heap.size, 2, none⟩ (.string rt)).setCell ⟨V40.heap.size, 3, none⟩ (.slice none 0 0)) := ⟨_, rfl⟩
        have kk := below_via (below_via GV40.out GV41.out) GV42.out
        have BH_25 : Hid (Blk W25 V40.heap.size #[.int .i64 rk, .int .i64 rn, .string rt, .slice none 0 0] 28) := by
          show Blk _ _ _ _
          rw [hW]; exact (((BXV42.out.same (j := 0) (v := .int .i64 rk) rfl).same (j := 1) (v := .int .i64 rn) rfl).same (j := 2) (v := .string rt) rfl).same (j := 3) (v := .slice none 0 0) rfl
        have hb : Below W24.heap.size W24 W25 := by
          rw [hW]
          exact Below.setCell (Below.setCell (Below.setCell (Below.setCell kk (by show W24.heap.size ≤ V40.heap.size; omega) _) (by show W24.heap.size ≤ V40.heap.size; omega) _) (by show W24.heap.size ≤ V40.heap.size; omega) _) (by show W24.heap.size ≤ V40.heap.size; omega) _
        have HW25 : Hid (W25 = ((((V42.setCell ⟨V40.heap.size, 0, none⟩ (.int .i64 rk)).setCell ⟨V40.heap.size, 1, none⟩ (.int .i64 rn)).setCell ⟨V40.heap.size, 2, none⟩ (.string rt)).setCell ⟨V40.heap.size, 3, none⟩ (.slice none 0 0))) := hW
        clear hW kk U0 U1 hzA zV40 zV41 zV42
        try clear BXV40
        try clear BXV41
        try clear BXV42
        have B25 : Hid (Below w.heap.size w W25) := B24.out.trans (hb.mono B24.out.size)
        have A0_25 : Hid (Blk W25 w.heap.size #[.int .i64 k0, .int .i64 n0, .string s0, .slice p0 l0 c0] 24) := A0_24.out.next hb
        have A1_25 : Hid (Blk W25 (w.heap.size + 1) #[.int .i64 k1, .int .i64 n1, .string s1, .slice p1 l1 c1] 24) := A1_24.out.next hb
        have BW_25 : Hid (Blk W25 V6.heap.size #[.int .i64 rk, .int .i64 rn, .string rt, .slice none 0 0] 28) := BW_24.out.next hb
        have BG_25 : Hid (Blk W25 W13.heap.size #[.int .i64 rk, .int .i64 rn, .string rt, .slice none 0 0] 28) := BG_24.out.next hb
        clear A0_24 A1_24 BW_24 BG_24
        clear hb
        have e0 := BH_25.out.cell 0 _ rfl
        have e1 := BH_25.out.cell 1 _ rfl
        have e2 := BH_25.out.cell 2 _ rfl
        have e3 := BH_25.out.cell 3 _ rfl
        have e4 := BW_25.out.cell 0 _ rfl
        have e5 := BW_25.out.cell 1 _ rfl
        have e6 := BW_25.out.cell 2 _ rfl
        have e7 := BW_25.out.cell 3 _ rfl
        rw [HW25.out] at e0 e1 e2 e3 e4 e5 e6 e7
        go_wp2_with fail
        rw [← HW25.out]
        clear e0 e1 e2 e3 e4 e5 e6 e7
        refine (eqVal_all 1 _ _ _ (flat ((rk, rn, rt), rb)) ⟨_, rfl, FL.out _⟩ ⟨_, rfl, FL.out _⟩).mono ?_
        rintro e W26 ⟨rfl, hb⟩
        have B26 : Hid (Below w.heap.size w W26) := B25.out.trans (hb.mono B25.out.size)
        have A0_26 : Hid (Blk W26 w.heap.size #[.int .i64 k0, .int .i64 n0, .string s0, .slice p0 l0 c0] 24) := A0_25.out.next hb
        have A1_26 : Hid (Blk W26 (w.heap.size + 1) #[.int .i64 k1, .int .i64 n1, .string s1, .slice p1 l1 c1] 24) := A1_25.out.next hb
        have BW_26 : Hid (Blk W26 V6.heap.size #[.int .i64 rk, .int .i64 rn, .string rt, .slice none 0 0] 28) := BW_25.out.next hb
        have BG_26 : Hid (Blk W26 W13.heap.size #[.int .i64 rk, .int .i64 rn, .string rt, .slice none 0 0] 28) := BG_25.out.next hb
        have BH_26 : Hid (Blk W26 V40.heap.size #[.int .i64 rk, .int .i64 rn, .string rt, .slice none 0 0] 28) := BH_25.out.next hb
        clear A0_25 A1_25 BW_25 BG_25 BH_25
        clear hb
        have e0 := BG_26.out.cell 0 _ rfl
        have e1 := BG_26.out.cell 1 _ rfl
        have e2 := BG_26.out.cell 2 _ rfl
        have e3 := BG_26.out.cell 3 _ rfl
        go_wp2_with fail
        clear e0 e1 e2 e3
        refine (heldVal_any 0 _ _ _ _ _ [] 1 (Rows.nil (Nat.zero_le _)) (by omega) (by simp)).mono ?_
        rintro e W27 ⟨rfl, hb⟩
        simp only [List.map_nil, List.sum_nil, Nat.add_zero]
        have B27 : Hid (Below w.heap.size w W27) := B26.out.trans (hb.mono B26.out.size)
        have A0_27 : Hid (Blk W27 w.heap.size #[.int .i64 k0, .int .i64 n0, .string s0, .slice p0 l0 c0] 24) := A0_26.out.next hb
        have A1_27 : Hid (Blk W27 (w.heap.size + 1) #[.int .i64 k1, .int .i64 n1, .string s1, .slice p1 l1 c1] 24) := A1_26.out.next hb
        have BW_27 : Hid (Blk W27 V6.heap.size #[.int .i64 rk, .int .i64 rn, .string rt, .slice none 0 0] 28) := BW_26.out.next hb
        have BG_27 : Hid (Blk W27 W13.heap.size #[.int .i64 rk, .int .i64 rn, .string rt, .slice none 0 0] 28) := BG_26.out.next hb
        have BH_27 : Hid (Blk W27 V40.heap.size #[.int .i64 rk, .int .i64 rn, .string rt, .slice none 0 0] 28) := BH_26.out.next hb
        clear A0_26 A1_26 BW_26 BG_26 BH_26
        clear hb
        go_wp2_with fail
        go_ret
        exact ⟨rfl, B27.out⟩
      · have way := True.intro
        try clear x0 x1 x2 x3 g0 g1 g2 g3
        clear yV40_00 yV40_01 yV40_02 yV40_03 yV40_10 yV40_11 yV40_12 yV40_13 yV41_00 yV41_01 yV41_02 yV41_03 yV41_10 yV41_11 yV41_12 yV41_13 yV42_00 yV42_01 yV42_02 yV42_03 yV42_10 yV42_11 yV42_12 yV42_13
        clear a00 a01 a02 a03 a10 a11 a12 a13
        obtain ⟨W25, hW⟩ : ∃ W, W = ((((V42.setCell ⟨W24.heap.size, 0, none⟩ (.int .i64 rk)).setCell ⟨W24.heap.size, 1, none⟩ (.int .i64 rn)).setCell ⟨W24.heap.size, 2, none⟩ (.string rt)).setCell ⟨W24.heap.size, 3, none⟩ (.slice none 0 0)) := ⟨_, rfl⟩
        have kk := below_via (below_via GV40.out GV41.out) GV42.out
        have BH_25 : Hid (Blk W25 W24.heap.size #[.int .i64 rk, .int .i64 rn, .string rt, .slice none 0 0] 28) := by
          show Blk _ _ _ _
          rw [hW]; exact (((BXV42.out.same (j := 0) (v := .int .i64 rk) rfl).same (j := 1) (v := .int .i64 rn) rfl).same (j := 2) (v := .string rt) rfl).same (j := 3) (v := .slice none 0 0) rfl
        have hb : Below W24.heap.size W24 W25 := by
          rw [hW]
          exact Below.setCell (Below.setCell (Below.setCell (Below.setCell kk (by show W24.heap.size ≤ W24.heap.size; omega) _) (by show W24.heap.size ≤ W24.heap.size; omega) _) (by show W24.heap.size ≤ W24.heap.size; omega) _) (by show W24.heap.size ≤ W24.heap.size; omega) _
        have HW25 : Hid (W25 = ((((V42.setCell ⟨W24.heap.size, 0, none⟩ (.int .i64 rk)).setCell ⟨W24.heap.size, 1, none⟩ (.int .i64 rn)).setCell ⟨W24.heap.size, 2, none⟩ (.string rt)).setCell ⟨W24.heap.size, 3, none⟩ (.slice none 0 0))) := hW
        clear hW kk U0 U1 hzA zV40 zV41 zV42
        try clear BXV40
        try clear BXV41
        try clear BXV42
        have B25 : Hid (Below w.heap.size w W25) := B24.out.trans (hb.mono B24.out.size)
        have A0_25 : Hid (Blk W25 w.heap.size #[.int .i64 k0, .int .i64 n0, .string s0, .slice p0 l0 c0] 24) := A0_24.out.next hb
        have A1_25 : Hid (Blk W25 (w.heap.size + 1) #[.int .i64 k1, .int .i64 n1, .string s1, .slice p1 l1 c1] 24) := A1_24.out.next hb
        have BW_25 : Hid (Blk W25 V6.heap.size #[.int .i64 rk, .int .i64 rn, .string rt, .slice none 0 0] 28) := BW_24.out.next hb
        have BG_25 : Hid (Blk W25 W13.heap.size #[.int .i64 rk, .int .i64 rn, .string rt, .slice none 0 0] 28) := BG_24.out.next hb
        clear A0_24 A1_24 BW_24 BG_24
        clear hb
        have e0 := BH_25.out.cell 0 _ rfl
        have e1 := BH_25.out.cell 1 _ rfl
        have e2 := BH_25.out.cell 2 _ rfl
        have e3 := BH_25.out.cell 3 _ rfl
        have e4 := BW_25.out.cell 0 _ rfl
        have e5 := BW_25.out.cell 1 _ rfl
        have e6 := BW_25.out.cell 2 _ rfl
        have e7 := BW_25.out.cell 3 _ rfl
        rw [HW25.out] at e0 e1 e2 e3 e4 e5 e6 e7
        go_wp2_with fail
        rw [← HW25.out]
        clear e0 e1 e2 e3 e4 e5 e6 e7
        refine (eqVal_all 1 _ _ _ (flat ((rk, rn, rt), rb)) ⟨_, rfl, FL.out _⟩ ⟨_, rfl, FL.out _⟩).mono ?_
        rintro e W26 ⟨rfl, hb⟩
        have B26 : Hid (Below w.heap.size w W26) := B25.out.trans (hb.mono B25.out.size)
        have A0_26 : Hid (Blk W26 w.heap.size #[.int .i64 k0, .int .i64 n0, .string s0, .slice p0 l0 c0] 24) := A0_25.out.next hb
        have A1_26 : Hid (Blk W26 (w.heap.size + 1) #[.int .i64 k1, .int .i64 n1, .string s1, .slice p1 l1 c1] 24) := A1_25.out.next hb
        have BW_26 : Hid (Blk W26 V6.heap.size #[.int .i64 rk, .int .i64 rn, .string rt, .slice none 0 0] 28) := BW_25.out.next hb
        have BG_26 : Hid (Blk W26 W13.heap.size #[.int .i64 rk, .int .i64 rn, .string rt, .slice none 0 0] 28) := BG_25.out.next hb
        have BH_26 : Hid (Blk W26 W24.heap.size #[.int .i64 rk, .int .i64 rn, .string rt, .slice none 0 0] 28) := BH_25.out.next hb
        clear A0_25 A1_25 BW_25 BG_25 BH_25
        clear hb
        have e0 := BG_26.out.cell 0 _ rfl
        have e1 := BG_26.out.cell 1 _ rfl
        have e2 := BG_26.out.cell 2 _ rfl
        have e3 := BG_26.out.cell 3 _ rfl
        go_wp2_with fail
        clear e0 e1 e2 e3
        refine (heldVal_any 0 _ _ _ _ _ [] 1 (Rows.nil (Nat.zero_le _)) (by omega) (by simp)).mono ?_
        rintro e W27 ⟨rfl, hb⟩
        simp only [List.map_nil, List.sum_nil, Nat.add_zero]
        have B27 : Hid (Below w.heap.size w W27) := B26.out.trans (hb.mono B26.out.size)
        have A0_27 : Hid (Blk W27 w.heap.size #[.int .i64 k0, .int .i64 n0, .string s0, .slice p0 l0 c0] 24) := A0_26.out.next hb
        have A1_27 : Hid (Blk W27 (w.heap.size + 1) #[.int .i64 k1, .int .i64 n1, .string s1, .slice p1 l1 c1] 24) := A1_26.out.next hb
        have BW_27 : Hid (Blk W27 V6.heap.size #[.int .i64 rk, .int .i64 rn, .string rt, .slice none 0 0] 28) := BW_26.out.next hb
        have BG_27 : Hid (Blk W27 W13.heap.size #[.int .i64 rk, .int .i64 rn, .string rt, .slice none 0 0] 28) := BG_26.out.next hb
        have BH_27 : Hid (Blk W27 W24.heap.size #[.int .i64 rk, .int .i64 rn, .string rt, .slice none 0 0] 28) := BH_26.out.next hb
        clear A0_26 A1_26 BW_26 BG_26 BH_26
        clear hb
        go_wp2_with fail
        go_ret
        exact ⟨rfl, B27.out⟩
    · have way := True.intro
      try clear x0 x1 x2 x3 g0 g1 g2 g3
      clear yV5_00 yV5_01 yV5_02 yV5_03 yV5_10 yV5_11 yV5_12 yV5_13 yV6_00 yV6_01 yV6_02 yV6_03 yV6_10 yV6_11 yV6_12 yV6_13 yV7_00 yV7_01 yV7_02 yV7_03 yV7_10 yV7_11 yV7_12 yV7_13
      clear a00 a01 a02 a03 a10 a11 a12 a13
      obtain ⟨W8, hW⟩ : ∃ W, W = ((((V7.setCell ⟨V5.heap.size, 0, none⟩ (.int .i64 rk)).setCell ⟨V5.heap.size, 1, none⟩ (.int .i64 rn)).setCell ⟨V5.heap.size, 2, none⟩ (.string rt)).setCell ⟨V5.heap.size, 3, none⟩ (.slice none 0 0)) := ⟨_, rfl⟩
      have kk := below_via (below_via GV5.out GV6.out) GV7.out
      have BW_8 : Hid (Blk W8 V5.heap.size #[.int .i64 rk, .int .i64 rn, .string rt, .slice none 0 0] 28) := by
        show Blk _ _ _ _
        rw [hW]; exact (((BXV7.out.same (j := 0) (v := .int .i64 rk) rfl).same (j := 1) (v := .int .i64 rn) rfl).same (j := 2) (v := .string rt) rfl).same (j := 3) (v := .slice none 0 0) rfl
      have hb : Below W4.heap.size W4 W8 := by
        rw [hW]
        exact Below.setCell (Below.setCell (Below.setCell (Below.setCell kk (by show W4.heap.size ≤ V5.heap.size; omega) _) (by show W4.heap.size ≤ V5.heap.size; omega) _) (by show W4.heap.size ≤ V5.heap.size; omega) _) (by show W4.heap.size ≤ V5.heap.size; omega) _
      have HW8 : Hid (W8 = ((((V7.setCell ⟨V5.heap.size, 0, none⟩ (.int .i64 rk)).setCell ⟨V5.heap.size, 1, none⟩ (.int .i64 rn)).setCell ⟨V5.heap.size, 2, none⟩ (.string rt)).setCell ⟨V5.heap.size, 3, none⟩ (.slice none 0 0))) := hW
      clear hW kk U0 U1 hzA zV5 zV6 zV7
      try clear BXV5
      try clear BXV6
      try clear BXV7
      have B8 : Hid (Below w.heap.size w W8) := B4.out.trans (hb.mono B4.out.size)
      have A0_8 : Hid (Blk W8 w.heap.size #[.int .i64 k0, .int .i64 n0, .string s0, .slice p0 l0 c0] 24) := A0_4.out.next hb
      have A1_8 : Hid (Blk W8 (w.heap.size + 1) #[.int .i64 k1, .int .i64 n1, .string s1, .slice p1 l1 c1] 24) := A1_4.out.next hb
      clear A0_4 A1_4
      clear hb
      have LA : Hid (w.heap.size + 1 < W8.heap.size) := A1_8.out.lt
      have LW : Hid (V5.heap.size < W8.heap.size) := BW_8.out.lt
      have e0 := A0_8.out.cell 0 _ rfl
      have e1 := A0_8.out.cell 1 _ rfl
      have e2 := A0_8.out.cell 2 _ rfl
      have e3 := A0_8.out.cell 3 _ rfl
      rw [HW8.out] at e0 e1 e2 e3
      go_wp2_with fail
      rw [← HW8.out]
      clear e0 e1 e2 e3
      refine (toVal_own d _ _ m0 ⟨_, rfl, H0 _ B8.out⟩ HW0_.out).mono ?_
      rintro e W9 ⟨u, fp0, rfl, ⟨cs, rfl, ox⟩, nd, rg, hb⟩
      obtain ⟨kx0, nx0, sx0, px0, lx0, cx0, hsh⟩ := ox.shape
      subst hsh
      have N0 : Hid fp0.Nodup := nd
      have R0 : Hid (∀ a ∈ fp0, W8.heap.size ≤ a ∧ a < W9.heap.size) := rg
      have S0 : Hid (W8.heap.size ≤ W9.heap.size) := hb.size
      have O0_9 : Hid (OVa W9 d [.int .i64 kx0, .int .i64 nx0, .string sx0, .slice px0 lx0 cx0] m0 fp0) := ox
      clear ox nd rg
      have B9 : Hid (Below w.heap.size w W9) := B8.out.trans (hb.mono B8.out.size)
      have A0_9 : Hid (Blk W9 w.heap.size #[.int .i64 k0, .int .i64 n0, .string s0, .slice p0 l0 c0] 24) := A0_8.out.next hb
      have A1_9 : Hid (Blk W9 (w.heap.size + 1) #[.int .i64 k1, .int .i64 n1, .string s1, .slice p1 l1 c1] 24) := A1_8.out.next hb
      have BW_9 : Hid (Blk W9 V5.heap.size #[.int .i64 rk, .int .i64 rn, .string rt, .slice none 0 0] 28) := BW_8.out.next hb
      clear A0_8 A1_8 BW_8
      clear hb
      obtain ⟨W10, hW⟩ : ∃ W, W = (W9.alloc (.cells #[.int .i64 kx0, .int .i64 nx0, .string sx0, .slice px0 lx0 cx0] 28)) := ⟨_, rfl⟩
      have hb : Below W9.heap.size W9 W10 := by rw [hW]; exact (Below.refl _ _).alloc (Nat.le_refl _) _
      have X0_10 : Hid (Blk W10 W9.heap.size #[.int .i64 kx0, .int .i64 nx0, .string sx0, .slice px0 lx0 cx0] 28) := by
        show Blk _ _ _ _
        rw [hW]; exact Blk.new
      have HSZ10 : Hid (W10.heap.size = W9.heap.size + 1) := by
        show _ = _
        rw [hW]; simp only [alloc_hs]
      have HW10 : Hid (W10 = (W9.alloc (.cells #[.int .i64 kx0, .int .i64 nx0, .string sx0, .slice px0 lx0 cx0] 28))) := hW
      have B10 : Hid (Below w.heap.size w W10) := B9.out.trans (hb.mono B9.out.size)
      have A0_10 : Hid (Blk W10 w.heap.size #[.int .i64 k0, .int .i64 n0, .string s0, .slice p0 l0 c0] 24) := A0_9.out.next hb
      have A1_10 : Hid (Blk W10 (w.heap.size + 1) #[.int .i64 k1, .int .i64 n1, .string s1, .slice p1 l1 c1] 24) := A1_9.out.next hb
      have BW_10 : Hid (Blk W10 V5.heap.size #[.int .i64 rk, .int .i64 rn, .string rt, .slice none 0 0] 28) := BW_9.out.next hb
      have O0_10 : Hid (OVa W10 d [.int .i64 kx0, .int .i64 nx0, .string sx0, .slice px0 lx0 cx0] m0 fp0) := O0_9.out.keep (KeepOn.below hb O0_9.out.lt)
      clear A0_9 A1_9 BW_9 O0_9
      clear hb
      have e0 := A1_10.out.cell 0 _ rfl
      have e1 := A1_10.out.cell 1 _ rfl
      have e2 := A1_10.out.cell 2 _ rfl
      have e3 := A1_10.out.cell 3 _ rfl
      rw [HW10.out] at e0 e1 e2 e3
      go_wp2_with fail
      rw [← HW10.out]
      clear e0 e1 e2 e3
      refine (toVal_own d _ _ m1 ⟨_, rfl, H1 _ B10.out⟩ HW1_.out).mono ?_
      rintro e W11 ⟨u, fp1, rfl, ⟨cs, rfl, ox⟩, nd, rg, hb⟩
      obtain ⟨kx1, nx1, sx1, px1, lx1, cx1, hsh⟩ := ox.shape
      subst hsh
      have N1 : Hid fp1.Nodup := nd
      have R1 : Hid (∀ a ∈ fp1, W10.heap.size ≤ a ∧ a < W11.heap.size) := rg
      have S1 : Hid (W10.heap.size ≤ W11.heap.size) := hb.size
      have O1_11 : Hid (OVa W11 d [.int .i64 kx1, .int .i64 nx1, .string sx1, .slice px1 lx1 cx1] m1 fp1) := ox
      clear ox nd rg
      have B11 : Hid (Below w.heap.size w W11) := B10.out.trans (hb.mono B10.out.size)
      have A0_11 : Hid (Blk W11 w.heap.size #[.int .i64 k0, .int .i64 n0, .string s0, .slice p0 l0 c0] 24) := A0_10.out.next hb
      have A1_11 : Hid (Blk W11 (w.heap.size + 1) #[.int .i64 k1, .int .i64 n1, .string s1, .slice p1 l1 c1] 24) := A1_10.out.next hb
      have BW_11 : Hid (Blk W11 V5.heap.size #[.int .i64 rk, .int .i64 rn, .string rt, .slice none 0 0] 28) := BW_10.out.next hb
      have O0_11 : Hid (OVa W11 d [.int .i64 kx0, .int .i64 nx0, .string sx0, .slice px0 lx0 cx0] m0 fp0) := O0_10.out.keep (KeepOn.below hb O0_10.out.lt)
      have X0_11 : Hid (Blk W11 W9.heap.size #[.int .i64 kx0, .int .i64 nx0, .string sx0, .slice px0 lx0 cx0] 28) := X0_10.out.next hb
      clear A0_10 A1_10 BW_10 O0_10 X0_10
      clear hb
      obtain ⟨W12, hW⟩ : ∃ W, W = (W11.alloc (.cells #[.int .i64 kx1, .int .i64 nx1, .string sx1, .slice px1 lx1 cx1] 28)) := ⟨_, rfl⟩
      have hb : Below W11.heap.size W11 W12 := by rw [hW]; exact (Below.refl _ _).alloc (Nat.le_refl _) _
      have X1_12 : Hid (Blk W12 W11.heap.size #[.int .i64 kx1, .int .i64 nx1, .string sx1, .slice px1 lx1 cx1] 28) := by
        show Blk _ _ _ _
        rw [hW]; exact Blk.new
      have HSZ12 : Hid (W12.heap.size = W11.heap.size + 1) := by
        show _ = _
        rw [hW]; simp only [alloc_hs]
      have HW12 : Hid (W12 = (W11.alloc (.cells #[.int .i64 kx1, .int .i64 nx1, .string sx1, .slice px1 lx1 cx1] 28))) := hW
      have B12 : Hid (Below w.heap.size w W12) := B11.out.trans (hb.mono B11.out.size)
      have A0_12 : Hid (Blk W12 w.heap.size #[.int .i64 k0, .int .i64 n0, .string s0, .slice p0 l0 c0] 24) := A0_11.out.next hb
      have A1_12 : Hid (Blk W12 (w.heap.size + 1) #[.int .i64 k1, .int .i64 n1, .string s1, .slice p1 l1 c1] 24) := A1_11.out.next hb
      have BW_12 : Hid (Blk W12 V5.heap.size #[.int .i64 rk, .int .i64 rn, .string rt, .slice none 0 0] 28) := BW_11.out.next hb
      have O0_12 : Hid (OVa W12 d [.int .i64 kx0, .int .i64 nx0, .string sx0, .slice px0 lx0 cx0] m0 fp0) := O0_11.out.keep (KeepOn.below hb O0_11.out.lt)
      have X0_12 : Hid (Blk W12 W9.heap.size #[.int .i64 kx0, .int .i64 nx0, .string sx0, .slice px0 lx0 cx0] 28) := X0_11.out.next hb
      have O1_12 : Hid (OVa W12 d [.int .i64 kx1, .int .i64 nx1, .string sx1, .slice px1 lx1 cx1] m1 fp1) := O1_11.out.keep (KeepOn.below hb O1_11.out.lt)
      clear A0_11 A1_11 BW_11 O0_11 X0_11 O1_11
      clear hb
      have e0 := X0_12.out.cell 0 _ rfl
      have e1 := X0_12.out.cell 1 _ rfl
      have e2 := X0_12.out.cell 2 _ rfl
      have e3 := X0_12.out.cell 3 _ rfl
      have e4 := X1_12.out.cell 0 _ rfl
      have e5 := X1_12.out.cell 1 _ rfl
      have e6 := X1_12.out.cell 2 _ rfl
      have e7 := X1_12.out.cell 3 _ rfl
      rw [HW12.out] at e0 e1 e2 e3 e4 e5 e6 e7
      go_wp2_with fail
      rw [← HW12.out]
      clear e0 e1 e2 e3 e4 e5 e6 e7
      refine (IL.out _ _ _ (O0_12.out.tree (fun _ _ => trivial)) (O1_12.out.tree (fun _ _ => trivial))).mono ?_
      rintro e W13 ⟨rfl, hb⟩
      have LG0 : W12.heap.size ≤ W13.heap.size := hb.size
      have B13 : Hid (Below w.heap.size w W13) := B12.out.trans (hb.mono B12.out.size)
      have A0_13 : Hid (Blk W13 w.heap.size #[.int .i64 k0, .int .i64 n0, .string s0, .slice p0 l0 c0] 24) := A0_12.out.next hb
      have A1_13 : Hid (Blk W13 (w.heap.size + 1) #[.int .i64 k1, .int .i64 n1, .string s1, .slice p1 l1 c1] 24) := A1_12.out.next hb
      have BW_13 : Hid (Blk W13 V5.heap.size #[.int .i64 rk, .int .i64 rn, .string rt, .slice none 0 0] 28) := BW_12.out.next hb
      have O0_13 : Hid (OVa W13 d [.int .i64 kx0, .int .i64 nx0, .string sx0, .slice px0 lx0 cx0] m0 fp0) := O0_12.out.keep (KeepOn.below hb O0_12.out.lt)
      have X0_13 : Hid (Blk W13 W9.heap.size #[.int .i64 kx0, .int .i64 nx0, .string sx0, .slice px0 lx0 cx0] 28) := X0_12.out.next hb
      have O1_13 : Hid (OVa W13 d [.int .i64 kx1, .int .i64 nx1, .string sx1, .slice px1 lx1 cx1] m1 fp1) := O1_12.out.keep (KeepOn.below hb O1_12.out.lt)
      have X1_13 : Hid (Blk W13 W11.heap.size #[.int .i64 kx1, .int .i64 nx1, .string sx1, .slice px1 lx1 cx1] 28) := X1_12.out.next hb
      clear A0_12 A1_12 BW_12 O0_12 X0_12 O1_12 X1_12
      clear hb
      obtain ⟨W14, hW⟩ : ∃ W, W = (W13.alloc (.cells #[.int .i64 rk, .int .i64 rn, .string rt, .slice none 0 0] 28)) := ⟨_, rfl⟩
      have hb : Below W13.heap.size W13 W14 := by rw [hW]; exact (Below.refl _ _).alloc (Nat.le_refl _) _
      have LG : Hid (W12.heap.size ≤ W13.heap.size) := LG0
      have BG_14 : Hid (Blk W14 W13.heap.size #[.int .i64 rk, .int .i64 rn, .string rt, .slice none 0 0] 28) := by
        show Blk _ _ _ _
        rw [hW]; exact Blk.new
      have HSZ14 : Hid (W14.heap.size = W13.heap.size + 1) := by
        show _ = _
        rw [hW]; simp only [alloc_hs]
      have HW14 : Hid (W14 = (W13.alloc (.cells #[.int .i64 rk, .int .i64 rn, .string rt, .slice none 0 0] 28))) := hW
      have B14 : Hid (Below w.heap.size w W14) := B13.out.trans (hb.mono B13.out.size)
      have A0_14 : Hid (Blk W14 w.heap.size #[.int .i64 k0, .int .i64 n0, .string s0, .slice p0 l0 c0] 24) := A0_13.out.next hb
      have A1_14 : Hid (Blk W14 (w.heap.size + 1) #[.int .i64 k1, .int .i64 n1, .string s1, .slice p1 l1 c1] 24) := A1_13.out.next hb
      have BW_14 : Hid (Blk W14 V5.heap.size #[.int .i64 rk, .int .i64 rn, .string rt, .slice none 0 0] 28) := BW_13.out.next hb
      have O0_14 : Hid (OVa W14 d [.int .i64 kx0, .int .i64 nx0, .string sx0, .slice px0 lx0 cx0] m0 fp0) := O0_13.out.keep (KeepOn.below hb O0_13.out.lt)
      have X0_14 : Hid (Blk W14 W9.heap.size #[.int .i64 kx0, .int .i64 nx0, .string sx0, .slice px0 lx0 cx0] 28) := X0_13.out.next hb
      have O1_14 : Hid (OVa W14 d [.int .i64 kx1, .int .i64 nx1, .string sx1, .slice px1 lx1 cx1] m1 fp1) := O1_13.out.keep (KeepOn.below hb O1_13.out.lt)
      have X1_14 : Hid (Blk W14 W11.heap.size #[.int .i64 kx1, .int .i64 nx1, .string sx1, .slice px1 lx1 cx1] 28) := X1_13.out.next hb
      clear A0_13 A1_13 BW_13 O0_13 X0_13 O1_13 X1_13
      clear hb
      have e0 := BG_14.out.cell 0 _ rfl
      have e1 := BG_14.out.cell 1 _ rfl
      have e2 := BG_14.out.cell 2 _ rfl
      have e3 := BG_14.out.cell 3 _ rfl
      have e4 := BW_14.out.cell 0 _ rfl
      have e5 := BW_14.out.cell 1 _ rfl
      have e6 := BW_14.out.cell 2 _ rfl
      have e7 := BW_14.out.cell 3 _ rfl
      rw [HW14.out] at e0 e1 e2 e3 e4 e5 e6 e7
      go_wp2_with fail
      rw [← HW14.out]
      clear e0 e1 e2 e3 e4 e5 e6 e7
      refine (eqVal_all 1 _ _ _ (flat ((rk, rn, rt), rb)) ⟨_, rfl, FL.out _⟩ ⟨_, rfl, FL.out _⟩).mono ?_
      rintro e W15 ⟨rfl, hb⟩
      have B15 : Hid (Below w.heap.size w W15) := B14.out.trans (hb.mono B14.out.size)
      have A0_15 : Hid (Blk W15 w.heap.size #[.int .i64 k0, .int .i64 n0, .string s0, .slice p0 l0 c0] 24) := A0_14.out.next hb
      have A1_15 : Hid (Blk W15 (w.heap.size + 1) #[.int .i64 k1, .int .i64 n1, .string s1, .slice p1 l1 c1] 24) := A1_14.out.next hb
      have BW_15 : Hid (Blk W15 V5.heap.size #[.int .i64 rk, .int .i64 rn, .string rt, .slice none 0 0] 28) := BW_14.out.next hb
      have O0_15 : Hid (OVa W15 d [.int .i64 kx0, .int .i64 nx0, .string sx0, .slice px0 lx0 cx0] m0 fp0) := O0_14.out.keep (KeepOn.below hb O0_14.out.lt)
      have X0_15 : Hid (Blk W15 W9.heap.size #[.int .i64 kx0, .int .i64 nx0, .string sx0, .slice px0 lx0 cx0] 28) := X0_14.out.next hb
      have O1_15 : Hid (OVa W15 d [.int .i64 kx1, .int .i64 nx1, .string sx1, .slice px1 lx1 cx1] m1 fp1) := O1_14.out.keep (KeepOn.below hb O1_14.out.lt)
      have X1_15 : Hid (Blk W15 W11.heap.size #[.int .i64 kx1, .int .i64 nx1, .string sx1, .slice px1 lx1 cx1] 28) := X1_14.out.next hb
      have BG_15 : Hid (Blk W15 W13.heap.size #[.int .i64 rk, .int .i64 rn, .string rt, .slice none 0 0] 28) := BG_14.out.next hb
      clear A0_14 A1_14 BW_14 O0_14 X0_14 O1_14 X1_14 BG_14
      clear hb
      have e0 := X0_15.out.cell 0 _ rfl
      have e1 := X0_15.out.cell 1 _ rfl
      have e2 := X0_15.out.cell 2 _ rfl
      have e3 := X0_15.out.cell 3 _ rfl
      have e4 := A0_15.out.cell 0 _ rfl
      have e5 := A0_15.out.cell 1 _ rfl
      have e6 := A0_15.out.cell 2 _ rfl
      have e7 := A0_15.out.cell 3 _ rfl
      go_wp2_with fail
      go_region_held3 (fun w' => w'.cell? ⟨W9.heap.size, 0, none⟩ = some (.int .i64 kx0) ∧ w'.cell? ⟨W9.heap.size, 1, none⟩ = some (.int .i64 nx0) ∧ w'.cell? ⟨W9.heap.size, 2, none⟩ = some (.string sx0) ∧ w'.cell? ⟨W9.heap.size, 3, none⟩ = some (.slice px0 lx0 cx0) ∧ w'.cell? ⟨w.heap.size, 0, none⟩ = some (.int .i64 k0) ∧ w'.cell? ⟨w.heap.size, 1, none⟩ = some (.int .i64 n0) ∧ w'.cell? ⟨w.heap.size, 2, none⟩ = some (.string s0) ∧ w'.cell? ⟨w.heap.size, 3, none⟩ = some (.slice p0 l0 c0))
        (first | assumption | (go_split_ands; exact ⟨by with_reducible exact cell_next hb (by assumption), by with_reducible exact cell_next hb (by assumption), by with_reducible exact cell_next hb (by assumption), by with_reducible exact cell_next hb (by assumption), by with_reducible exact cell_next hb (by assumption), by with_reducible exact cell_next hb (by assumption), by with_reducible exact cell_next hb (by assumption), by with_reducible exact cell_next hb (by assumption)⟩) | go_keep)
        (first
          | (go_at_call_of 6 (Value.slice p0 l0 c0); refine (toVal_all d _ _ m0 ⟨_, rfl, H0 _ (by exact B15.out.drew)⟩ HW0_.out).mono ?_; rintro e W16 ⟨u, rfl, ⟨cs, rfl, hx⟩, hb⟩; obtain ⟨kv0, nv0, sv0, pv0, lv0, cv0, hsh⟩ := hx.shape; subst hsh; have U0 : ∀ w', Below W16.heap.size W16 w' → HVa w' All d [.int .i64 kv0, .int .i64 nv0, .string sv0, .slice pv0 lv0 cv0] m0 := fun w' hw => hx.mono (SameOn.of_below hw) (fun _ _ => trivial); have K1 : Hid (Below W15.heap.size W15 W16) := ⟨hb.os, hb.tape, hb.output, hb.size, hb.block⟩; clear hx)
          | (go_at_call 8; refine (eqVal_all d _ _ _ m0 ⟨_, rfl, (O0_15.out.keep (KeepOn.below K1.out O0_15.out.lt)).tree (fun _ _ => trivial)⟩ ⟨_, rfl, U0 _ (Below.refl _ _)⟩).mono ?_; rintro e W17 ⟨rfl, hb⟩; have K2 : Hid (Below W15.heap.size W15 W17) := K1.out.trans (hb.mono K1.out.size)))
      go_split_ands
      clear hb
      have hb := K2.out
      clear K1 K2 U0
      clear e0 e1 e2 e3 e4 e5 e6 e7
      have B17 : Hid (Below w.heap.size w W17) := B15.out.trans (hb.mono B15.out.size)
      have A0_17 : Hid (Blk W17 w.heap.size #[.int .i64 k0, .int .i64 n0, .string s0, .slice p0 l0 c0] 24) := A0_15.out.next hb
      have A1_17 : Hid (Blk W17 (w.heap.size + 1) #[.int .i64 k1, .int .i64 n1, .string s1, .slice p1 l1 c1] 24) := A1_15.out.next hb
      have BW_17 : Hid (Blk W17 V5.heap.size #[.int .i64 rk, .int .i64 rn, .string rt, .slice none 0 0] 28) := BW_15.out.next hb
      have O0_17 : Hid (OVa W17 d [.int .i64 kx0, .int .i64 nx0, .string sx0, .slice px0 lx0 cx0] m0 fp0) := O0_15.out.keep (KeepOn.below hb O0_15.out.lt)
      have X0_17 : Hid (Blk W17 W9.heap.size #[.int .i64 kx0, .int .i64 nx0, .string sx0, .slice px0 lx0 cx0] 28) := X0_15.out.next hb
      have O1_17 : Hid (OVa W17 d [.int .i64 kx1, .int .i64 nx1, .string sx1, .slice px1 lx1 cx1] m1 fp1) := O1_15.out.keep (KeepOn.below hb O1_15.out.lt)
      have X1_17 : Hid (Blk W17 W11.heap.size #[.int .i64 kx1, .int .i64 nx1, .string sx1, .slice px1 lx1 cx1] 28) := X1_15.out.next hb
      have BG_17 : Hid (Blk W17 W13.heap.size #[.int .i64 rk, .int .i64 rn, .string rt, .slice none 0 0] 28) := BG_15.out.next hb
      clear A0_15 A1_15 BW_15 O0_15 X0_15 O1_15 X1_15 BG_15
      clear hb
      have e0 := X1_17.out.cell 0 _ rfl
      have e1 := X1_17.out.cell 1 _ rfl
      have e2 := X1_17.out.cell 2 _ rfl
      have e3 := X1_17.out.cell 3 _ rfl
      have e4 := A1_17.out.cell 0 _ rfl
      have e5 := A1_17.out.cell 1 _ rfl
      have e6 := A1_17.out.cell 2 _ rfl
      have e7 := A1_17.out.cell 3 _ rfl
      go_wp2_with fail
      go_region_held3 (fun w' => w'.cell? ⟨W11.heap.size, 0, none⟩ = some (.int .i64 kx1) ∧ w'.cell? ⟨W11.heap.size, 1, none⟩ = some (.int .i64 nx1) ∧ w'.cell? ⟨W11.heap.size, 2, none⟩ = some (.string sx1) ∧ w'.cell? ⟨W11.heap.size, 3, none⟩ = some (.slice px1 lx1 cx1) ∧ w'.cell? ⟨w.heap.size + 1, 0, none⟩ = some (.int .i64 k1) ∧ w'.cell? ⟨w.heap.size + 1, 1, none⟩ = some (.int .i64 n1) ∧ w'.cell? ⟨w.heap.size + 1, 2, none⟩ = some (.string s1) ∧ w'.cell? ⟨w.heap.size + 1, 3, none⟩ = some (.slice p1 l1 c1))
        (first | assumption | (go_split_ands; exact ⟨by with_reducible exact cell_next hb (by assumption), by with_reducible exact cell_next hb (by assumption), by with_reducible exact cell_next hb (by assumption), by with_reducible exact cell_next hb (by assumption), by with_reducible exact cell_next hb (by assumption), by with_reducible exact cell_next hb (by assumption), by with_reducible exact cell_next hb (by assumption), by with_reducible exact cell_next hb (by assumption)⟩) | go_keep)
        (first
          | (go_at_call_of 6 (Value.slice p1 l1 c1); refine (toVal_all d _ _ m1 ⟨_, rfl, H1 _ (by exact B17.out.drew)⟩ HW1_.out).mono ?_; rintro e W18 ⟨u, rfl, ⟨cs, rfl, hx⟩, hb⟩; obtain ⟨kz1, nz1, sz1, pz1, lz1, cz1, hsh⟩ := hx.shape; subst hsh; have U0 : ∀ w', Below W18.heap.size W18 w' → HVa w' All d [.int .i64 kz1, .int .i64 nz1, .string sz1, .slice pz1 lz1 cz1] m1 := fun w' hw => hx.mono (SameOn.of_below hw) (fun _ _ => trivial); have K1 : Hid (Below W17.heap.size W17 W18) := ⟨hb.os, hb.tape, hb.output, hb.size, hb.block⟩; clear hx)
          | (go_at_call 8; refine (eqVal_all d _ _ _ m1 ⟨_, rfl, (O1_17.out.keep (KeepOn.below K1.out O1_17.out.lt)).tree (fun _ _ => trivial)⟩ ⟨_, rfl, U0 _ (Below.refl _ _)⟩).mono ?_; rintro e W19 ⟨rfl, hb⟩; have K2 : Hid (Below W17.heap.size W17 W19) := K1.out.trans (hb.mono K1.out.size)))
      go_split_ands
      clear hb
      have hb := K2.out
      clear K1 K2 U0
      clear e0 e1 e2 e3 e4 e5 e6 e7
      have B19 : Hid (Below w.heap.size w W19) := B17.out.trans (hb.mono B17.out.size)
      have A0_19 : Hid (Blk W19 w.heap.size #[.int .i64 k0, .int .i64 n0, .string s0, .slice p0 l0 c0] 24) := A0_17.out.next hb
      have A1_19 : Hid (Blk W19 (w.heap.size + 1) #[.int .i64 k1, .int .i64 n1, .string s1, .slice p1 l1 c1] 24) := A1_17.out.next hb
      have BW_19 : Hid (Blk W19 V5.heap.size #[.int .i64 rk, .int .i64 rn, .string rt, .slice none 0 0] 28) := BW_17.out.next hb
      have O0_19 : Hid (OVa W19 d [.int .i64 kx0, .int .i64 nx0, .string sx0, .slice px0 lx0 cx0] m0 fp0) := O0_17.out.keep (KeepOn.below hb O0_17.out.lt)
      have X0_19 : Hid (Blk W19 W9.heap.size #[.int .i64 kx0, .int .i64 nx0, .string sx0, .slice px0 lx0 cx0] 28) := X0_17.out.next hb
      have O1_19 : Hid (OVa W19 d [.int .i64 kx1, .int .i64 nx1, .string sx1, .slice px1 lx1 cx1] m1 fp1) := O1_17.out.keep (KeepOn.below hb O1_17.out.lt)
      have X1_19 : Hid (Blk W19 W11.heap.size #[.int .i64 kx1, .int .i64 nx1, .string sx1, .slice px1 lx1 cx1] 28) := X1_17.out.next hb
      have BG_19 : Hid (Blk W19 W13.heap.size #[.int .i64 rk, .int .i64 rn, .string rt, .slice none 0 0] 28) := BG_17.out.next hb
      clear A0_17 A1_17 BW_17 O0_17 X0_17 O1_17 X1_17 BG_17
      clear hb
      have e0 := X0_19.out.cell 0 _ rfl
      have e1 := X0_19.out.cell 1 _ rfl
      have e2 := X0_19.out.cell 2 _ rfl
      have e3 := X0_19.out.cell 3 _ rfl
      go_wp2_with fail
      clear e0 e1 e2 e3
      have hcb0 := cnt_b HD.out HW0_.out
      have hcb1 := cnt_b HD.out HW1_.out
      have HC0 : Hid (1 + (m0.kids.map (cntV dd)).sum ≤ 4194304) := by show _ ≤ _; omega
      have HC1 : Hid ((m1.kids.map (cntV dd)).sum ≤ 4194304) := by show _ ≤ _; omega
      clear hcb0 hcb1
      refine (markVal_any dd _ _ _ _ _ m0.kids fp0 1 (OVa.kids1 HD.out O0_19.out) N0.out (by omega) (by have := HC0.out; omega)).mono ?_
      rintro e W20 ⟨rfl, -, hb⟩
      have B20 : Hid (Below w.heap.size w W20) := B19.out.trans (hb.below (fun a ha => by have h1 := R0.out a ha; have h9 := B8.out.size; omega) B19.out.size)
      clear O0_19
      have A0_20 : Hid (Blk W20 w.heap.size #[.int .i64 k0, .int .i64 n0, .string s0, .slice p0 l0 c0] 24) := (hb.block _ A0_19.out.lt (fun hm => by have h1 := R0.out _ hm; have h9 := B8.out.size; have hA := LA.out; have hS0 := S0.out; have hS1 := S1.out; have hX0 := HSZ10.out; have hX1 := HSZ12.out; omega)).trans A0_19.out
      have A1_20 : Hid (Blk W20 (w.heap.size + 1) #[.int .i64 k1, .int .i64 n1, .string s1, .slice p1 l1 c1] 24) := (hb.block _ A1_19.out.lt (fun hm => by have h1 := R0.out _ hm; have h9 := B8.out.size; have hA := LA.out; have hS0 := S0.out; have hS1 := S1.out; have hX0 := HSZ10.out; have hX1 := HSZ12.out; omega)).trans A1_19.out
      have BW_20 : Hid (Blk W20 V5.heap.size #[.int .i64 rk, .int .i64 rn, .string rt, .slice none 0 0] 28) := (hb.block _ BW_19.out.lt (fun hm => by have h1 := R0.out _ hm; have h9 := B8.out.size; have hA := LA.out; have hS0 := S0.out; have hS1 := S1.out; have hX0 := HSZ10.out; have hX1 := HSZ12.out; have hW_ := LW.out; omega)).trans BW_19.out
      have X0_20 : Hid (Blk W20 W9.heap.size #[.int .i64 kx0, .int .i64 nx0, .string sx0, .slice px0 lx0 cx0] 28) := (hb.block _ X0_19.out.lt (fun hm => by have h1 := R0.out _ hm; have h9 := B8.out.size; have hA := LA.out; have hS0 := S0.out; have hS1 := S1.out; have hX0 := HSZ10.out; have hX1 := HSZ12.out; omega)).trans X0_19.out
      have O1_20 : Hid (OVa W20 d [.int .i64 kx1, .int .i64 nx1, .string sx1, .slice px1 lx1 cx1] m1 fp1) := O1_19.out.keep (hb.keep (fun a ha => ⟨O1_19.out.lt a ha, fun hm => by have h1 := R0.out a hm; have h2 := R1.out a ha; have hX0 := HSZ10.out; omega⟩))
      have X1_20 : Hid (Blk W20 W11.heap.size #[.int .i64 kx1, .int .i64 nx1, .string sx1, .slice px1 lx1 cx1] 28) := (hb.block _ X1_19.out.lt (fun hm => by have h1 := R0.out _ hm; have h9 := B8.out.size; have hA := LA.out; have hS0 := S0.out; have hS1 := S1.out; have hX0 := HSZ10.out; have hX1 := HSZ12.out; omega)).trans X1_19.out
      have BG_20 : Hid (Blk W20 W13.heap.size #[.int .i64 rk, .int .i64 rn, .string rt, .slice none 0 0] 28) := (hb.block _ BG_19.out.lt (fun hm => by have h1 := R0.out _ hm; have h9 := B8.out.size; have hA := LA.out; have hS0 := S0.out; have hS1 := S1.out; have hX0 := HSZ10.out; have hX1 := HSZ12.out; have hG_ := LG.out; omega)).trans BG_19.out
      clear A0_19 A1_19 BW_19 X0_19 O1_19 X1_19 BG_19
      clear hb
      have KP : Hid (1 ≤ 1 + (m0.kids.map (cntV dd)).sum) := by show _ ≤ _; omega
      generalize hk1 : 1 + (m0.kids.map (cntV dd)).sum = kk1 at *
      clear hk1
      have hkk1 := HC0.out
      have e0 := X1_20.out.cell 0 _ rfl
      have e1 := X1_20.out.cell 1 _ rfl
      have e2 := X1_20.out.cell 2 _ rfl
      have e3 := X1_20.out.cell 3 _ rfl
      go_wp2_with fail
      clear e0 e1 e2 e3
      refine (markVal_at dd _ _ _ _ _ m1.kids fp1 kk1 _ rfl (OVa.kids1 HD.out O1_20.out) N1.out KP.out (by have := HC0.out; have := HC1.out; omega)).mono ?_
      rintro e W21 ⟨rfl, -, hb⟩
      have B21 : Hid (Below w.heap.size w W21) := B20.out.trans (hb.below (fun a ha => by have h1 := R1.out a ha; have h9 := B10.out.size; omega) B20.out.size)
      clear X0_20
      clear O1_20
      clear X1_20
      have A0_21 : Hid (Blk W21 w.heap.size #[.int .i64 k0, .int .i64 n0, .string s0, .slice p0 l0 c0] 24) := (hb.block _ A0_20.out.lt (fun hm => by have h1 := R1.out _ hm; have h9 := B8.out.size; have hA := LA.out; have hS0 := S0.out; have hS1 := S1.out; have hX0 := HSZ10.out; have hX1 := HSZ12.out; omega)).trans A0_20.out
      have A1_21 : Hid (Blk W21 (w.heap.size + 1) #[.int .i64 k1, .int .i64 n1, .string s1, .slice p1 l1 c1] 24) := (hb.block _ A1_20.out.lt (fun hm => by have h1 := R1.out _ hm; have h9 := B8.out.size; have hA := LA.out; have hS0 := S0.out; have hS1 := S1.out; have hX0 := HSZ10.out; have hX1 := HSZ12.out; omega)).trans A1_20.out
      have BW_21 : Hid (Blk W21 V5.heap.size #[.int .i64 rk, .int .i64 rn, .string rt, .slice none 0 0] 28) := (hb.block _ BW_20.out.lt (fun hm => by have h1 := R1.out _ hm; have h9 := B8.out.size; have hA := LA.out; have hS0 := S0.out; have hS1 := S1.out; have hX0 := HSZ10.out; have hX1 := HSZ12.out; have hW_ := LW.out; omega)).trans BW_20.out
      have BG_21 : Hid (Blk W21 W13.heap.size #[.int .i64 rk, .int .i64 rn, .string rt, .slice none 0 0] 28) := (hb.block _ BG_20.out.lt (fun hm => by have h1 := R1.out _ hm; have h9 := B8.out.size; have hA := LA.out; have hS0 := S0.out; have hS1 := S1.out; have hX0 := HSZ10.out; have hX1 := HSZ12.out; have hG_ := LG.out; omega)).trans BG_20.out
      clear A0_20 A1_20 BW_20 BG_20
      clear hb
      have hkk2 : kk1 + (m1.kids.map (cntV dd)).sum ≤ 8388608 := by have := HC0.out; have := HC1.out; omega
      generalize hk2 : kk1 + (m1.kids.map (cntV dd)).sum = kk2 at *
      clear hk2
      have e0 := BG_21.out.cell 0 _ rfl
      have e1 := BG_21.out.cell 1 _ rfl
      have e2 := BG_21.out.cell 2 _ rfl
      have e3 := BG_21.out.cell 3 _ rfl
      have e4 := BW_21.out.cell 0 _ rfl
      have e5 := BW_21.out.cell 1 _ rfl
      have e6 := BW_21.out.cell 2 _ rfl
      have e7 := BW_21.out.cell 3 _ rfl
      go_wp2_with fail
      clear e0 e1 e2 e3 e4 e5 e6 e7
      refine (eqVal_all 1 _ _ _ (flat ((rk, rn, rt), rb)) ⟨_, rfl, FL.out _⟩ ⟨_, rfl, FL.out _⟩).mono ?_
      rintro e W22 ⟨rfl, hb⟩
      have B22 : Hid (Below w.heap.size w W22) := B21.out.trans (hb.mono B21.out.size)
      have A0_22 : Hid (Blk W22 w.heap.size #[.int .i64 k0, .int .i64 n0, .string s0, .slice p0 l0 c0] 24) := A0_21.out.next hb
      have A1_22 : Hid (Blk W22 (w.heap.size + 1) #[.int .i64 k1, .int .i64 n1, .string s1, .slice p1 l1 c1] 24) := A1_21.out.next hb
      have BW_22 : Hid (Blk W22 V5.heap.size #[.int .i64 rk, .int .i64 rn, .string rt, .slice none 0 0] 28) := BW_21.out.next hb
      have BG_22 : Hid (Blk W22 W13.heap.size #[.int .i64 rk, .int .i64 rn, .string rt, .slice none 0 0] 28) := BG_21.out.next hb
      clear A0_21 A1_21 BW_21 BG_21
      clear hb
      have e0 := BG_22.out.cell 0 _ rfl
      have e1 := BG_22.out.cell 1 _ rfl
      have e2 := BG_22.out.cell 2 _ rfl
      have e3 := BG_22.out.cell 3 _ rfl
      go_wp2_with fail
      clear e0 e1 e2 e3
      refine (markVal_any 0 _ _ _ _ _ [] [] 1 (.inl ⟨rfl, rfl, _, _, rfl, Nat.zero_le _⟩) (by simp) (by omega) (by simp)).mono ?_
      rintro e W23 ⟨rfl, -, ho⟩
      have hb := ho.below (N := W22.heap.size) (fun a ha => by simp at ha) (Nat.le_refl _)
      clear ho
      have B23 : Hid (Below w.heap.size w W23) := B22.out.trans (hb.mono B22.out.size)
      have A0_23 : Hid (Blk W23 w.heap.size #[.int .i64 k0, .int .i64 n0, .string s0, .slice p0 l0 c0] 24) := A0_22.out.next hb
      have A1_23 : Hid (Blk W23 (w.heap.size + 1) #[.int .i64 k1, .int .i64 n1, .string s1, .slice p1 l1 c1] 24) := A1_22.out.next hb
      have BW_23 : Hid (Blk W23 V5.heap.size #[.int .i64 rk, .int .i64 rn, .string rt, .slice none 0 0] 28) := BW_22.out.next hb
      have BG_23 : Hid (Blk W23 W13.heap.size #[.int .i64 rk, .int .i64 rn, .string rt, .slice none 0 0] 28) := BG_22.out.next hb
      clear A0_22 A1_22 BW_22 BG_22
      clear hb
      simp only [List.map_nil, List.sum_nil, Nat.add_zero]
      have e0 := BG_23.out.cell 0 _ rfl
      have e1 := BG_23.out.cell 1 _ rfl
      have e2 := BG_23.out.cell 2 _ rfl
      have e3 := BG_23.out.cell 3 _ rfl
      go_wp2_with fail
      clear e0 e1 e2 e3
      refine (heldVal_any 0 _ _ _ _ _ [] 1 (Rows.nil (Nat.zero_le _)) (by omega) (by simp)).mono ?_
      rintro e W24 ⟨rfl, hb⟩
      simp only [List.map_nil, List.sum_nil, Nat.add_zero]
      have B24 : Hid (Below w.heap.size w W24) := B23.out.trans (hb.mono B23.out.size)
      have A0_24 : Hid (Blk W24 w.heap.size #[.int .i64 k0, .int .i64 n0, .string s0, .slice p0 l0 c0] 24) := A0_23.out.next hb
      have A1_24 : Hid (Blk W24 (w.heap.size + 1) #[.int .i64 k1, .int .i64 n1, .string s1, .slice p1 l1 c1] 24) := A1_23.out.next hb
      have BW_24 : Hid (Blk W24 V5.heap.size #[.int .i64 rk, .int .i64 rn, .string rt, .slice none 0 0] 28) := BW_23.out.next hb
      have BG_24 : Hid (Blk W24 W13.heap.size #[.int .i64 rk, .int .i64 rn, .string rt, .slice none 0 0] 28) := BG_23.out.next hb
      clear A0_23 A1_23 BW_23 BG_23
      clear hb
      have a00 := A0_24.out.cell 0 _ rfl
      have a01 := A0_24.out.cell 1 _ rfl
      have a02 := A0_24.out.cell 2 _ rfl
      have a03 := A0_24.out.cell 3 _ rfl
      have a10 := A1_24.out.cell 0 _ rfl
      have a11 := A1_24.out.cell 1 _ rfl
      have a12 := A1_24.out.cell 2 _ rfl
      have a13 := A1_24.out.cell 3 _ rfl
      have hzA := A1_24.out.lt
      go_wp2_with fail
      go_region_held3 (fun w' => w'.cell? ⟨w.heap.size, 0, none⟩ = some (.int .i64 k0) ∧ w'.cell? ⟨w.heap.size, 1, none⟩ = some (.int .i64 n0) ∧ w'.cell? ⟨w.heap.size, 2, none⟩ = some (.string s0) ∧ w'.cell? ⟨w.heap.size, 3, none⟩ = some (.slice p0 l0 c0) ∧ w'.cell? ⟨w.heap.size + 1, 0, none⟩ = some (.int .i64 k1) ∧ w'.cell? ⟨w.heap.size + 1, 1, none⟩ = some (.int .i64 n1) ∧ w'.cell? ⟨w.heap.size + 1, 2, none⟩ = some (.string s1) ∧ w'.cell? ⟨w.heap.size + 1, 3, none⟩ = some (.slice p1 l1 c1))
        (first | assumption | (go_split_ands; exact ⟨by with_reducible exact keep_set4 (N := w.heap.size + 2) (by omega) (by show w.heap.size < w.heap.size + 2; omega) (by assumption), by with_reducible exact keep_set4 (N := w.heap.size + 2) (by omega) (by show w.heap.size < w.heap.size + 2; omega) (by assumption), by with_reducible exact keep_set4 (N := w.heap.size + 2) (by omega) (by show w.heap.size < w.heap.size + 2; omega) (by assumption), by with_reducible exact keep_set4 (N := w.heap.size + 2) (by omega) (by show w.heap.size < w.heap.size + 2; omega) (by assumption), by with_reducible exact keep_set4 (N := w.heap.size + 2) (by omega) (by show w.heap.size + 1 < w.heap.size + 2; omega) (by assumption), by with_reducible exact keep_set4 (N := w.heap.size + 2) (by omega) (by show w.heap.size + 1 < w.heap.size + 2; omega) (by assumption), by with_reducible exact keep_set4 (N := w.heap.size + 2) (by omega) (by show w.heap.size + 1 < w.heap.size + 2; omega) (by assumption), by with_reducible exact keep_set4 (N := w.heap.size + 2) (by omega) (by show w.heap.size + 1 < w.heap.size + 2; omega) (by assumption)⟩) | (go_split_ands; exact ⟨by with_reducible exact cell_next hb (by assumption), by with_reducible exact cell_next hb (by assumption), by with_reducible exact cell_next hb (by assumption), by with_reducible exact cell_next hb (by assumption), by with_reducible exact cell_next hb (by assumption), by with_reducible exact cell_next hb (by assumption), by with_reducible exact cell_next hb (by assumption), by with_reducible exact cell_next hb (by assumption)⟩) | (go_split_ands; exact ⟨by with_reducible exact cell_next ((Below.refl _ _).alloc (Nat.le_refl _) _) (by assumption), by with_reducible exact cell_next ((Below.refl _ _).alloc (Nat.le_refl _) _) (by assumption), by with_reducible exact cell_next ((Below.refl _ _).alloc (Nat.le_refl _) _) (by assumption), by with_reducible exact cell_next ((Below.refl _ _).alloc (Nat.le_refl _) _) (by assumption), by with_reducible exact cell_next ((Below.refl _ _).alloc (Nat.le_refl _) _) (by assumption), by with_reducible exact cell_next ((Below.refl _ _).alloc (Nat.le_refl _) _) (by assumption), by with_reducible exact cell_next ((Below.refl _ _).alloc (Nat.le_refl _) _) (by assumption), by with_reducible exact cell_next ((Below.refl _ _).alloc (Nat.le_refl _) _) (by assumption)⟩) | (go_split_ands; exact ⟨by with_reducible exact cell_next (Below.drew ((Below.refl _ _).alloc (Nat.le_refl _) _)) (by assumption), by with_reducible exact cell_next (Below.drew ((Below.refl _ _).alloc (Nat.le_refl _) _)) (by assumption), by with_reducible exact cell_next (Below.drew ((Below.refl _ _).alloc (Nat.le_refl _) _)) (by assumption), by with_reducible exact cell_next (Below.drew ((Below.refl _ _).alloc (Nat.le_refl _) _)) (by assumption), by with_reducible exact cell_next (Below.drew ((Below.refl _ _).alloc (Nat.le_refl _) _)) (by assumption), by with_reducible exact cell_next (Below.drew ((Below.refl _ _).alloc (Nat.le_refl _) _)) (by assumption), by with_reducible exact cell_next (Below.drew ((Below.refl _ _).alloc (Nat.le_refl _) _)) (by assumption), by with_reducible exact cell_next (Below.drew ((Below.refl _ _).alloc (Nat.le_refl _) _)) (by assumption)⟩) | go_keep)
        (first
          | (go_at_call_of 6 (Value.slice p0 l0 c0); refine (toVal_all d _ _ m0 ⟨_, rfl, H0 _ (by first | with_reducible exact B24.out.drew | with_reducible exact (B24.out.alloc B24.out.size _).drew | with_reducible exact (B24.out.drew.alloc B24.out.size _))⟩ HW0_.out).mono ?_; rintro e V40 ⟨u, rfl, ⟨cs, rfl, hx⟩, hb⟩; obtain ⟨ku400, nu400, su400, pu400, lu400, cu400, hsh⟩ := hx.shape; subst hsh; have U0 : ∀ w', Below V40.heap.size V40 w' → HVa w' All d [.int .i64 ku400, .int .i64 nu400, .string su400, .slice pu400 lu400 cu400] m0 := fun w' hw => hx.mono (SameOn.of_below hw) (fun _ _ => trivial); have gV : Below W24.heap.size W24 V40 := (by first | (have h1 : Below W24.drew.heap.size W24.drew V40 := (by with_reducible exact hb); exact ⟨h1.os, h1.tape, h1.output, h1.size, h1.block⟩) | (have h1 : Below (W24.alloc (.cells #[.int .i64 0, .int .i64 0, .string ⟨#[]⟩, .slice none 0 0] 28)).drew.heap.size (W24.alloc (.cells #[.int .i64 0, .int .i64 0, .string ⟨#[]⟩, .slice none 0 0] 28)).drew V40 := (by with_reducible exact hb); exact below_via (b := W24.alloc (.cells #[.int .i64 0, .int .i64 0, .string ⟨#[]⟩, .slice none 0 0] 28)) ((Below.refl _ _).alloc (Nat.le_refl _) _) ⟨h1.os, h1.tape, h1.output, h1.size, h1.block⟩) | (have h1 : Below (W24.drew.alloc (.cells #[.int .i64 0, .int .i64 0, .string ⟨#[]⟩, .slice none 0 0] 28)).heap.size (W24.drew.alloc (.cells #[.int .i64 0, .int .i64 0, .string ⟨#[]⟩, .slice none 0 0] 28)) V40 := (by with_reducible exact hb); exact below_via (b := W24.alloc (.cells #[.int .i64 0, .int .i64 0, .string ⟨#[]⟩, .slice none 0 0] 28)) ((Below.refl _ _).alloc (Nat.le_refl _) _) ⟨h1.os, h1.tape, h1.output, h1.size, h1.block⟩)); have GV40 : Hid (Below W24.heap.size W24 V40) := gV; clear gV; have zV40 := GV40.out.size; (first | (have hbA : Below (W24.alloc (.cells #[.int .i64 0, .int .i64 0, .string ⟨#[]⟩, .slice none 0 0] 28)).drew.heap.size (W24.alloc (.cells #[.int .i64 0, .int .i64 0, .string ⟨#[]⟩, .slice none 0 0] 28)).drew V40 := (by with_reducible exact hb); have BXV40 : Hid (Blk V40 W24.heap.size #[.int .i64 0, .int .i64 0, .string ⟨#[]⟩, .slice none 0 0] 28) := Blk.next (w := W24.alloc (.cells #[.int .i64 0, .int .i64 0, .string ⟨#[]⟩, .slice none 0 0] 28)) Blk.new ⟨hbA.os, hbA.tape, hbA.output, hbA.size, hbA.block⟩; clear hbA) | (have hbA : Below (W24.drew.alloc (.cells #[.int .i64 0, .int .i64 0, .string ⟨#[]⟩, .slice none 0 0] 28)).heap.size (W24.drew.alloc (.cells #[.int .i64 0, .int .i64 0, .string ⟨#[]⟩, .slice none 0 0] 28)) V40 := (by with_reducible exact hb); have BXV40 : Hid (Blk V40 W24.heap.size #[.int .i64 0, .int .i64 0, .string ⟨#[]⟩, .slice none 0 0] 28) := Blk.next (w := W24.alloc (.cells #[.int .i64 0, .int .i64 0, .string ⟨#[]⟩, .slice none 0 0] 28)) Blk.new ⟨hbA.os, hbA.tape, hbA.output, hbA.size, hbA.block⟩; clear hbA) | skip); have yV40_00 := cell_next GV40.out a00; have yV40_01 := cell_next GV40.out a01; have yV40_02 := cell_next GV40.out a02; have yV40_03 := cell_next GV40.out a03; have yV40_10 := cell_next GV40.out a10; have yV40_11 := cell_next GV40.out a11; have yV40_12 := cell_next GV40.out a12; have yV40_13 := cell_next GV40.out a13; clear hx)
          | (go_at_call_of 6 (Value.slice p1 l1 c1); refine (toVal_all d _ _ m1 ⟨_, rfl, H1 _ (by first | with_reducible exact B24.out.trans (GV40.out.mono B24.out.size) | with_reducible exact (B24.out.trans (GV40.out.mono B24.out.size)).alloc (Nat.le_trans B24.out.size GV40.out.size) _)⟩ HW1_.out).mono ?_; rintro e V41 ⟨u, rfl, ⟨cs, rfl, hx⟩, hb⟩; obtain ⟨ku401, nu401, su401, pu401, lu401, cu401, hsh⟩ := hx.shape; subst hsh; have U1 : ∀ w', Below V41.heap.size V41 w' → HVa w' All d [.int .i64 ku401, .int .i64 nu401, .string su401, .slice pu401 lu401 cu401] m1 := fun w' hw => hx.mono (SameOn.of_below hw) (fun _ _ => trivial); have gV : Below V40.heap.size V40 V41 := (by first | (have h1 : Below V40.heap.size V40 V41 := (by with_reducible exact hb); exact h1) | (have h1 : Below (V40.alloc (.cells #[.int .i64 0, .int .i64 0, .string ⟨#[]⟩, .slice none 0 0] 28)).heap.size (V40.alloc (.cells #[.int .i64 0, .int .i64 0, .string ⟨#[]⟩, .slice none 0 0] 28)) V41 := (by with_reducible exact hb); exact below_via ((Below.refl _ _).alloc (Nat.le_refl _) _) h1)); have GV41 : Hid (Below V40.heap.size V40 V41) := gV; clear gV; have zV41 := GV41.out.size; (first | (have BXV41 : Hid (Blk V41 W24.heap.size #[.int .i64 0, .int .i64 0, .string ⟨#[]⟩, .slice none 0 0] 28) := (show Blk _ _ _ _ from (by with_reducible exact Blk.next BXV40.out GV41.out))) | (have hbA : Below (V40.alloc (.cells #[.int .i64 0, .int .i64 0, .string ⟨#[]⟩, .slice none 0 0] 28)).heap.size (V40.alloc (.cells #[.int .i64 0, .int .i64 0, .string ⟨#[]⟩, .slice none 0 0] 28)) V41 := (by with_reducible exact hb); have BXV41 : Hid (Blk V41 V40.heap.size #[.int .i64 0, .int .i64 0, .string ⟨#[]⟩, .slice none 0 0] 28) := Blk.next (w := V40.alloc (.cells #[.int .i64 0, .int .i64 0, .string ⟨#[]⟩, .slice none 0 0] 28)) Blk.new ⟨hbA.os, hbA.tape, hbA.output, hbA.size, hbA.block⟩; clear hbA) | skip); have yV41_00 := cell_next GV41.out yV40_00; have yV41_01 := cell_next GV41.out yV40_01; have yV41_02 := cell_next GV41.out yV40_02; have yV41_03 := cell_next GV41.out yV40_03; have yV41_10 := cell_next GV41.out yV40_10; have yV41_11 := cell_next GV41.out yV40_11; have yV41_12 := cell_next GV41.out yV40_12; have yV41_13 := cell_next GV41.out yV40_13; clear hx)
          | (go_at_call 7; refine (IL.out _ _ _ (U0 _ (by first | with_reducible exact GV41.out | with_reducible exact GV41.out.alloc GV41.out.size _)) (U1 _ (by first | with_reducible exact Below.refl _ _ | with_reducible exact (Below.refl _ _).alloc (Nat.le_refl _) _))).mono ?_; rintro e V42 ⟨rfl, hb⟩; have gV : Below V41.heap.size V41 V42 := (by first | with_reducible exact hb | (have h1 : Below (V41.alloc (.cells #[.int .i64 0, .int .i64 0, .string ⟨#[]⟩, .slice none 0 0] 28)).heap.size (V41.alloc (.cells #[.int .i64 0, .int .i64 0, .string ⟨#[]⟩, .slice none 0 0] 28)) V42 := (by with_reducible exact hb); exact below_via ((Below.refl _ _).alloc (Nat.le_refl _) _) h1)); have GV42 : Hid (Below V41.heap.size V41 V42) := gV; clear gV; have zV42 := GV42.out.size; (first | (have BXV42 : Hid (Blk V42 W24.heap.size #[.int .i64 0, .int .i64 0, .string ⟨#[]⟩, .slice none 0 0] 28) := (show Blk _ _ _ _ from (by with_reducible exact Blk.next BXV41.out GV42.out))) | (have BXV42 : Hid (Blk V42 V40.heap.size #[.int .i64 0, .int .i64 0, .string ⟨#[]⟩, .slice none 0 0] 28) := (show Blk _ _ _ _ from (by with_reducible exact Blk.next BXV41.out GV42.out))) | (have hbA : Below (V41.alloc (.cells #[.int .i64 0, .int .i64 0, .string ⟨#[]⟩, .slice none 0 0] 28)).heap.size (V41.alloc (.cells #[.int .i64 0, .int .i64 0, .string ⟨#[]⟩, .slice none 0 0] 28)) V42 := (by with_reducible exact hb); have BXV42 : Hid (Blk V42 V41.heap.size #[.int .i64 0, .int .i64 0, .string ⟨#[]⟩, .slice none 0 0] 28) := Blk.next (w := V41.alloc (.cells #[.int .i64 0, .int .i64 0, .string ⟨#[]⟩, .slice none 0 0] 28)) Blk.new ⟨hbA.os, hbA.tape, hbA.output, hbA.size, hbA.block⟩; clear hbA) | skip); (try (have x0 := BXV42.out.cell 0 _ rfl; have g0 := BXV42.out.frozen 0; have x1 := BXV42.out.cell 1 _ rfl; have g1 := BXV42.out.frozen 1; have x2 := BXV42.out.cell 2 _ rfl; have g2 := BXV42.out.frozen 2; have x3 := BXV42.out.cell 3 _ rfl; have g3 := BXV42.out.frozen 3)); have yV42_00 := cell_next GV42.out yV41_00; have yV42_01 := cell_next GV42.out yV41_01; have yV42_02 := cell_next GV42.out yV41_02; have yV42_03 := cell_next GV42.out yV41_03; have yV42_10 := cell_next GV42.out yV41_10; have yV42_11 := cell_next GV42.out yV41_11; have yV42_12 := cell_next GV42.out yV41_12; have yV42_13 := cell_next GV42.out yV41_13; skip))
      · have way := True.intro
        try clear x0 x1 x2 x3 g0 g1 g2 g3
        clear yV40_00 yV40_01 yV40_02 yV40_03 yV40_10 yV40_11 yV40_12 yV40_13 yV41_00 yV41_01 yV41_02 yV41_03 yV41_10 yV41_11 yV41_12 yV41_13 yV42_00 yV42_01 yV42_02 yV42_03 yV42_10 yV42_11 yV42_12 yV42_13
        clear a00 a01 a02 a03 a10 a11 a12 a13
        obtain ⟨W25, hW⟩ : ∃ W, W = (V42.alloc (.cells #[.int .i64 rk, .int .i64 rn, .string rt, .slice none 0 0] 28)) := ⟨_, rfl⟩
        have kk := below_via (below_via GV40.out GV41.out) GV42.out
        have BH_25 : Hid (Blk W25 V42.heap.size #[.int .i64 rk, .int .i64 rn, .string rt, .slice none 0 0] 28) := by
          show Blk _ _ _ _
          rw [hW]; exact Blk.new
        have hb : Below W24.heap.size W24 W25 := by rw [hW]; exact kk.alloc kk.size _
        have HW25 : Hid (W25 = (V42.alloc (.cells #[.int .i64 rk, .int .i64 rn, .string rt, .slice none 0 0] 28))) := hW
        clear hW kk U0 U1 hzA zV40 zV41 zV42
        try clear BXV40
        try clear BXV41
        try clear BXV42
        have B25 : Hid (Below w.heap.size w W25) := B24.out.trans (hb.mono B24.out.size)
        have A0_25 : Hid (Blk W25 w.heap.size #[.int .i64 k0, .int .i64 n0, .string s0, .slice p0 l0 c0] 24) := A0_24.out.next hb
        have A1_25 : Hid (Blk W25 (w.heap.size + 1) #[.int .i64 k1, .int .i64 n1, .string s1, .slice p1 l1 c1] 24) := A1_24.out.next hb
        have BW_25 : Hid (Blk W25 V5.heap.size #[.int .i64 rk, .int .i64 rn, .string rt, .slice none 0 0] 28) := BW_24.out.next hb
        have BG_25 : Hid (Blk W25 W13.heap.size #[.int .i64 rk, .int .i64 rn, .string rt, .slice none 0 0] 28) := BG_24.out.next hb
        clear A0_24 A1_24 BW_24 BG_24
        clear hb
        have e0 := BH_25.out.cell 0 _ rfl
        have e1 := BH_25.out.cell 1 _ rfl
        have e2 := BH_25.out.cell 2 _ rfl
        have e3 := BH_25.out.cell 3 _ rfl
        have e4 := BW_25.out.cell 0 _ rfl
        have e5 := BW_25.out.cell 1 _ rfl
        have e6 := BW_25.out.cell 2 _ rfl
        have e7 := BW_25.out.cell 3 _ rfl
        rw [HW25.out] at e0 e1 e2 e3 e4 e5 e6 e7
        go_wp2_with fail
        rw [← HW25.out]
        clear e0 e1 e2 e3 e4 e5 e6 e7
        refine (eqVal_all 1 _ _ _ (flat ((rk, rn, rt), rb)) ⟨_, rfl, FL.out _⟩ ⟨_, rfl, FL.out _⟩).mono ?_
        rintro e W26 ⟨rfl, hb⟩
        have B26 : Hid (Below w.heap.size w W26) := B25.out.trans (hb.mono B25.out.size)
        have A0_26 : Hid (Blk W26 w.heap.size #[.int .i64 k0, .int .i64 n0, .string s0, .slice p0 l0 c0] 24) := A0_25.out.next hb
        have A1_26 : Hid (Blk W26 (w.heap.size + 1) #[.int .i64 k1, .int .i64 n1, .string s1, .slice p1 l1 c1] 24) := A1_25.out.next hb
        have BW_26 : Hid (Blk W26 V5.heap.size #[.int .i64 rk, .int .i64 rn, .string rt, .slice none 0 0] 28) := BW_25.out.next hb
        have BG_26 : Hid (Blk W26 W13.heap.size #[.int .i64 rk, .int .i64 rn, .string rt, .slice none 0 0] 28) := BG_25.out.next hb
        have BH_26 : Hid (Blk W26 V42.heap.size #[.int .i64 rk, .int .i64 rn, .string rt, .slice none 0 0] 28) := BH_25.out.next hb
        clear A0_25 A1_25 BW_25 BG_25 BH_25
        clear hb
        have e0 := BG_26.out.cell 0 _ rfl
        have e1 := BG_26.out.cell 1 _ rfl
        have e2 := BG_26.out.cell 2 _ rfl
        have e3 := BG_26.out.cell 3 _ rfl
        go_wp2_with fail
        clear e0 e1 e2 e3
        refine (heldVal_any 0 _ _ _ _ _ [] 1 (Rows.nil (Nat.zero_le _)) (by omega) (by simp)).mono ?_
        rintro e W27 ⟨rfl, hb⟩
        simp only [List.map_nil, List.sum_nil, Nat.add_zero]
        have B27 : Hid (Below w.heap.size w W27) := B26.out.trans (hb.mono B26.out.size)
        have A0_27 : Hid (Blk W27 w.heap.size #[.int .i64 k0, .int .i64 n0, .string s0, .slice p0 l0 c0] 24) := A0_26.out.next hb
        have A1_27 : Hid (Blk W27 (w.heap.size + 1) #[.int .i64 k1, .int .i64 n1, .string s1, .slice p1 l1 c1] 24) := A1_26.out.next hb
        have BW_27 : Hid (Blk W27 V5.heap.size #[.int .i64 rk, .int .i64 rn, .string rt, .slice none 0 0] 28) := BW_26.out.next hb
        have BG_27 : Hid (Blk W27 W13.heap.size #[.int .i64 rk, .int .i64 rn, .string rt, .slice none 0 0] 28) := BG_26.out.next hb
        have BH_27 : Hid (Blk W27 V42.heap.size #[.int .i64 rk, .int .i64 rn, .string rt, .slice none 0 0] 28) := BH_26.out.next hb
        clear A0_26 A1_26 BW_26 BG_26 BH_26
        clear hb
        go_wp2_with fail
        go_ret
        exact ⟨rfl, B27.out⟩
      · have way := True.intro
        try clear x0 x1 x2 x3 g0 g1 g2 g3
        clear yV40_00 yV40_01 yV40_02 yV40_03 yV40_10 yV40_11 yV40_12 yV40_13 yV41_00 yV41_01 yV41_02 yV41_03 yV41_10 yV41_11 yV41_12 yV41_13 yV42_00 yV42_01 yV42_02 yV42_03 yV42_10 yV42_11 yV42_12 yV42_13
        clear a00 a01 a02 a03 a10 a11 a12 a13
        obtain ⟨W25, hW⟩ : ∃ W, W = ((((V42.setCell ⟨V41.heap.size, 0, none⟩ (.int .i64 rk)).setCell ⟨V41.heap.size, 1, none⟩ (.int .i64 rn)).setCell ⟨V41.heap.size, 2, none⟩ (.string rt)).setCell ⟨V41.heap.size, 3, none⟩ (.slice none 0 0)) := ⟨_, rfl⟩
        have kk := below_via (below_via GV40.out GV41.out) GV42.out
        have BH_25 : Hid (Blk W25 V41.heap.size #[.int .i64 rk, .int .i64 rn, .string rt, .slice none 0 0] 28) := by
          show Blk _ _ _ _
          rw [hW]; exact (((BXV42.out.same (j := 0) (v := .int .i64 rk) rfl).same (j := 1) (v := .int .i64 rn) rfl).same (j := 2) (v := .string rt) rfl).same (j := 3) (v := .slice none 0 0) rfl
        have hb : Below W24.heap.size W24 W25 := by
          rw [hW]
          exact Below.setCell (Below.setCell (Below.setCell (Below.setCell kk (by show W24.heap.size ≤ V41.heap.size; omega) _) (by show W24.heap.size ≤ V41.heap.size; omega) _) (by show W24.heap.size ≤ V41.heap.size; omega) _) (by show W24.heap.size ≤ V41.heap.size; omega) _
        have HW25 : Hid (W25 = ((((V42.setCell ⟨V41.heap.size, 0, none⟩ (.int .i64 rk)).setCell ⟨V41.heap.size, 1, none⟩ (.int .i64 rn)).setCell ⟨V41.heap.size, 2, none⟩ (.string rt)).setCell ⟨V41.heap.size, 3, none⟩ (.slice none 0 0))) := hW
        clear hW kk U0 U1 hzA zV40 zV41 zV42
        try clear BXV40
        try clear BXV41
        try clear BXV42
        have B25 : Hid (Below w.heap.size w W25) := B24.out.trans (hb.mono B24.out.size)
        have A0_25 : Hid (Blk W25 w.heap.size #[.int .i64 k0, .int .i64 n0, .string s0, .slice p0 l0 c0] 24) := A0_24.out.next hb
        have A1_25 : Hid (Blk W25 (w.heap.size + 1) #[.int .i64 k1, .int .i64 n1, .string s1, .slice p1 l1 c1] 24) := A1_24.out.next hb
        have BW_25 : Hid (Blk W25 V5.heap.size #[.int .i64 rk, .int .i64 rn, .string rt, .slice none 0 0] 28) := BW_24.out.next hb
        have BG_25 : Hid (Blk W25 W13.heap.size #[.int .i64 rk, .int .i64 rn, .string rt, .slice none 0 0] 28) := BG_24.out.next hb
        clear A0_24 A1_24 BW_24 BG_24
        clear hb
        have e0 := BH_25.out.cell 0 _ rfl
        have e1 := BH_25.out.cell 1 _ rfl
        have e2 := BH_25.out.cell 2 _ rfl
        have e3 := BH_25.out.cell 3 _ rfl
        have e4 := BW_25.out.cell 0 _ rfl
        have e5 := BW_25.out.cell 1 _ rfl
        have e6 := BW_25.out.cell 2 _ rfl
        have e7 := BW_25.out.cell 3 _ rfl
        rw [HW25.out] at e0 e1 e2 e3 e4 e5 e6 e7
        go_wp2_with fail
        rw [← HW25.out]
        clear e0 e1 e2 e3 e4 e5 e6 e7
        refine (eqVal_all 1 _ _ _ (flat ((rk, rn, rt), rb)) ⟨_, rfl, FL.out _⟩ ⟨_, rfl, FL.out _⟩).mono ?_
        rintro e W26 ⟨rfl, hb⟩
        have B26 : Hid (Below w.heap.size w W26) := B25.out.trans (hb.mono B25.out.size)
        have A0_26 : Hid (Blk W26 w.heap.size #[.int .i64 k0, .int .i64 n0, .string s0, .slice p0 l0 c0] 24) := A0_25.out.next hb
        have A1_26 : Hid (Blk W26 (w.heap.size + 1) #[.int .i64 k1, .int .i64 n1, .string s1, .slice p1 l1 c1] 24) := A1_25.out.next hb
        have BW_26 : Hid (Blk W26 V5.heap.size #[.int .i64 rk, .int .i64 rn, .string rt, .slice none 0 0] 28) := BW_25.out.next hb
        have BG_26 : Hid (Blk W26 W13.heap.size #[.int .i64 rk, .int .i64 rn, .string rt, .slice none 0 0] 28) := BG_25.out.next hb
        have BH_26 : Hid (Blk W26 V41.heap.size #[.int .i64 rk, .int .i64 rn, .string rt, .slice none 0 0] 28) := BH_25.out.next hb
        clear A0_25 A1_25 BW_25 BG_25 BH_25
        clear hb
        have e0 := BG_26.out.cell 0 _ rfl
        have e1 := BG_26.out.cell 1 _ rfl
        have e2 := BG_26.out.cell 2 _ rfl
        have e3 := BG_26.out.cell 3 _ rfl
        go_wp2_with fail
        clear e0 e1 e2 e3
        refine (heldVal_any 0 _ _ _ _ _ [] 1 (Rows.nil (Nat.zero_le _)) (by omega) (by simp)).mono ?_
        rintro e W27 ⟨rfl, hb⟩
        simp only [List.map_nil, List.sum_nil, Nat.add_zero]
        have B27 : Hid (Below w.heap.size w W27) := B26.out.trans (hb.mono B26.out.size)
        have A0_27 : Hid (Blk W27 w.heap.size #[.int .i64 k0, .int .i64 n0, .string s0, .slice p0 l0 c0] 24) := A0_26.out.next hb
        have A1_27 : Hid (Blk W27 (w.heap.size + 1) #[.int .i64 k1, .int .i64 n1, .string s1, .slice p1 l1 c1] 24) := A1_26.out.next hb
        have BW_27 : Hid (Blk W27 V5.heap.size #[.int .i64 rk, .int .i64 rn, .string rt, .slice none 0 0] 28) := BW_26.out.next hb
        have BG_27 : Hid (Blk W27 W13.heap.size #[.int .i64 rk, .int .i64 rn, .string rt, .slice none 0 0] 28) := BG_26.out.next hb
        have BH_27 : Hid (Blk W27 V41.heap.size #[.int .i64 rk, .int .i64 rn, .string rt, .slice none 0 0] 28) := BH_26.out.next hb
        clear A0_26 A1_26 BW_26 BG_26 BH_26
        clear hb
        go_wp2_with fail
        go_ret
        exact ⟨rfl, B27.out⟩
      · have way := True.intro
        try clear x0 x1 x2 x3 g0 g1 g2 g3
        clear yV40_00 yV40_01 yV40_02 yV40_03 yV40_10 yV40_11 yV40_12 yV40_13 yV41_00 yV41_01 yV41_02 yV41_03 yV41_10 yV41_11 yV41_12 yV41_13 yV42_00 yV42_01 yV42_02 yV42_03 yV42_10 yV42_11 yV42_12 yV42_13
        clear a00 a01 a02 a03 a10 a11 a12 a13
        obtain ⟨W25, hW⟩ : ∃ W, W = ((((V42.setCell ⟨V40.heap.size, 0, none⟩ (.int .i64 rk)).setCell ⟨V40.heap.size, 1, none⟩ (.int .i64 rn)).setCell ⟨V40.heap.size, 2, none⟩ (.string rt)).setCell ⟨V40.heap.size, 3, none⟩ (.slice none 0 0)) := ⟨_, rfl⟩
        have kk := below_via (below_via GV40.out GV41.out) GV42.out
        have BH_25 : Hid (Blk W25 V40.heap.size #[.int .i64 rk, .int .i64 rn, .string rt, .slice none 0 0] 28) := by
          show Blk _ _ _ _
          rw [hW]; exact (((BXV42.out.same (j := 0) (v := .int .i64 rk) rfl).same (j := 1) (v := .int .i64 rn) rfl).same (j := 2) (v := .string rt) rfl).same (j := 3) (v := .slice none 0 0) rfl
        have hb : Below W24.heap.size W24 W25 := by
          rw [hW]
          exact Below.setCell (Below.setCell (Below.setCell (Below.setCell kk (by show W24.heap.size ≤ V40.heap.size; omega) _) (by show W24.heap.size ≤ V40.heap.size; omega) _) (by show W24.heap.size ≤ V40.heap.size; omega) _) (by show W24.heap.size ≤ V40.heap.size; omega) _
        have HW25 : Hid (W25 = ((((V42.setCell ⟨V40.heap.size, 0, none⟩ (.int .i64 rk)).setCell ⟨V40.heap.size, 1, none⟩ (.int .i64 rn)).setCell ⟨V40.heap.size, 2, none⟩ (.string rt)).setCell ⟨V40.heap.size, 3, none⟩ (.slice none 0 0))) := hW
        clear hW kk U0 U1 hzA zV40 zV41 zV42
        try clear BXV40
        try clear BXV41
        try clear BXV42
        have B25 : Hid (Below w.heap.size w W25) := B24.out.trans (hb.mono B24.out.size)
        have A0_25 : Hid (Blk W25 w.heap.size #[.int .i64 k0, .int .i64 n0, .string s0, .slice p0 l0 c0] 24) := A0_24.out.next hb
        have A1_25 : Hid (Blk W25 (w.heap.size + 1) #[.int .i64 k1, .int .i64 n1, .string s1, .slice p1 l1 c1] 24) := A1_24.out.next hb
        have BW_25 : Hid (Blk W25 V5.heap.size #[.int .i64 rk, .int .i64 rn, .string rt, .slice none 0 0] 28) := BW_24.out.next hb
        have BG_25 : Hid (Blk W25 W13.heap.size #[.int .i64 rk, .int .i64 rn, .string rt, .slice none 0 0] 28) := BG_24.out.next hb
        clear A0_24 A1_24 BW_24 BG_24
        clear hb
        have e0 := BH_25.out.cell 0 _ rfl
        have e1 := BH_25.out.cell 1 _ rfl
        have e2 := BH_25.out.cell 2 _ rfl
        have e3 := BH_25.out.cell 3 _ rfl
        have e4 := BW_25.out.cell 0 _ rfl
        have e5 := BW_25.out.cell 1 _ rfl
        have e6 := BW_25.out.cell 2 _ rfl
        have e7 := BW_25.out.cell 3 _ rfl
        rw [HW25.out] at e0 e1 e2 e3 e4 e5 e6 e7
        go_wp2_with fail
        rw [← HW25.out]
        clear e0 e1 e2 e3 e4 e5 e6 e7
        refine (eqVal_all 1 _ _ _ (flat ((rk, rn, rt), rb)) ⟨_, rfl, FL.out _⟩ ⟨_, rfl, FL.out _⟩).mono ?_
        rintro e W26 ⟨rfl, hb⟩
        have B26 : Hid (Below w.heap.size w W26) := B25.out.trans (hb.mono B25.out.size)
        have A0_26 : Hid (Blk W26 w.heap.size #[.int .i64 k0, .int .i64 n0, .string s0, .slice p0 l0 c0] 24) := A0_25.out.next hb
        have A1_26 : Hid (Blk W26 (w.heap.size + 1) #[.int .i64 k1, .int .i64 n1, .string s1, .slice p1 l1 c1] 24) := A1_25.out.next hb
        have BW_26 : Hid (Blk W26 V5.heap.size #[.int .i64 rk, .int .i64 rn, .string rt, .slice none 0 0] 28) := BW_25.out.next hb
        have BG_26 : Hid (Blk W26 W13.heap.size #[.int .i64 rk, .int .i64 rn, .string rt, .slice none 0 0] 28) := BG_25.out.next hb
        have BH_26 : Hid (Blk W26 V40.heap.size #[.int .i64 rk, .int .i64 rn, .string rt, .slice none 0 0] 28) := BH_25.out.next hb
        clear A0_25 A1_25 BW_25 BG_25 BH_25
        clear hb
        have e0 := BG_26.out.cell 0 _ rfl
        have e1 := BG_26.out.cell 1 _ rfl
        have e2 := BG_26.out.cell 2 _ rfl
        have e3 := BG_26.out.cell 3 _ rfl
        go_wp2_with fail
        clear e0 e1 e2 e3
        refine (heldVal_any 0 _ _ _ _ _ [] 1 (Rows.nil (Nat.zero_le _)) (by omega) (by simp)).mono ?_
        rintro e W27 ⟨rfl, hb⟩
        simp only [List.map_nil, List.sum_nil, Nat.add_zero]
        have B27 : Hid (Below w.heap.size w W27) := B26.out.trans (hb.mono B26.out.size)
        have A0_27 : Hid (Blk W27 w.heap.size #[.int .i64 k0, .int .i64 n0, .string s0, .slice p0 l0 c0] 24) := A0_26.out.next hb
        have A1_27 : Hid (Blk W27 (w.heap.size + 1) #[.int .i64 k1, .int .i64 n1, .string s1, .slice p1 l1 c1] 24) := A1_26.out.next hb
        have BW_27 : Hid (Blk W27 V5.heap.size #[.int .i64 rk, .int .i64 rn, .string rt, .slice none 0 0] 28) := BW_26.out.next hb
        have BG_27 : Hid (Blk W27 W13.heap.size #[.int .i64 rk, .int .i64 rn, .string rt, .slice none 0 0] 28) := BG_26.out.next hb
        have BH_27 : Hid (Blk W27 V40.heap.size #[.int .i64 rk, .int .i64 rn, .string rt, .slice none 0 0] 28) := BH_26.out.next hb
        clear A0_26 A1_26 BW_26 BG_26 BH_26
        clear hb
        go_wp2_with fail
        go_ret
        exact ⟨rfl, B27.out⟩
      · have way := True.intro
        try clear x0 x1 x2 x3 g0 g1 g2 g3
        clear yV40_00 yV40_01 yV40_02 yV40_03 yV40_10 yV40_11 yV40_12 yV40_13 yV41_00 yV41_01 yV41_02 yV41_03 yV41_10 yV41_11 yV41_12 yV41_13 yV42_00 yV42_01 yV42_02 yV42_03 yV42_10 yV42_11 yV42_12 yV42_13
        clear a00 a01 a02 a03 a10 a11 a12 a13
        obtain ⟨W25, hW⟩ : ∃ W, W = ((((V42.setCell ⟨W24.heap.size, 0, none⟩ (.int .i64 rk)).setCell ⟨W24.heap.size, 1, none⟩ (.int .i64 rn)).setCell ⟨W24.heap.size, 2, none⟩ (.string rt)).setCell ⟨W24.heap.size, 3, none⟩ (.slice none 0 0)) := ⟨_, rfl⟩
        have kk := below_via (below_via GV40.out GV41.out) GV42.out
        have BH_25 : Hid (Blk W25 W24.heap.size #[.int .i64 rk, .int .i64 rn, .string rt, .slice none 0 0] 28) := by
          show Blk _ _ _ _
          rw [hW]; exact (((BXV42.out.same (j := 0) (v := .int .i64 rk) rfl).same (j := 1) (v := .int .i64 rn) rfl).same (j := 2) (v := .string rt) rfl).same (j := 3) (v := .slice none 0 0) rfl
        have hb : Below W24.heap.size W24 W25 := by
          rw [hW]
          exact Below.setCell (Below.setCell (Below.setCell (Below.setCell kk (by show W24.heap.size ≤ W24.heap.size; omega) _) (by show W24.heap.size ≤ W24.heap.size; omega) _) (by show W24.heap.size ≤ W24.heap.size; omega) _) (by show W24.heap.size ≤ W24.heap.size; omega) _
        have HW25 : Hid (W25 = ((((V42.setCell ⟨W24.heap.size, 0, none⟩ (.int .i64 rk)).setCell ⟨W24.heap.size, 1, none⟩ (.int .i64 rn)).setCell ⟨W24.heap.size, 2, none⟩ (.string rt)).setCell ⟨W24.heap.size, 3, none⟩ (.slice none 0 0))) := hW
        clear hW kk U0 U1 hzA zV40 zV41 zV42
        try clear BXV40
        try clear BXV41
        try clear BXV42
        have B25 : Hid (Below w.heap.size w W25) := B24.out.trans (hb.mono B24.out.size)
        have A0_25 : Hid (Blk W25 w.heap.size #[.int .i64 k0, .int .i64 n0, .string s0, .slice p0 l0 c0] 24) := A0_24.out.next hb
        have A1_25 : Hid (Blk W25 (w.heap.size + 1) #[.int .i64 k1, .int .i64 n1, .string s1, .slice p1 l1 c1] 24) := A1_24.out.next hb
        have BW_25 : Hid (Blk W25 V5.heap.size #[.int .i64 rk, .int .i64 rn, .string rt, .slice none 0 0] 28) := BW_24.out.next hb
        have BG_25 : Hid (Blk W25 W13.heap.size #[.int .i64 rk, .int .i64 rn, .string rt, .slice none 0 0] 28) := BG_24.out.next hb
        clear A0_24 A1_24 BW_24 BG_24
        clear hb
        have e0 := BH_25.out.cell 0 _ rfl
        have e1 := BH_25.out.cell 1 _ rfl
        have e2 := BH_25.out.cell 2 _ rfl
        have e3 := BH_25.out.cell 3 _ rfl
        have e4 := BW_25.out.cell 0 _ rfl
        have e5 := BW_25.out.cell 1 _ rfl
        have e6 := BW_25.out.cell 2 _ rfl
        have e7 := BW_25.out.cell 3 _ rfl
        rw [HW25.out] at e0 e1 e2 e3 e4 e5 e6 e7
        go_wp2_with fail
        rw [← HW25.out]
        clear e0 e1 e2 e3 e4 e5 e6 e7
        refine (eqVal_all 1 _ _ _ (flat ((rk, rn, rt), rb)) ⟨_, rfl, FL.out _⟩ ⟨_, rfl, FL.out _⟩).mono ?_
        rintro e W26 ⟨rfl, hb⟩
        have B26 : Hid (Below w.heap.size w W26) := B25.out.trans (hb.mono B25.out.size)
        have A0_26 : Hid (Blk W26 w.heap.size #[.int .i64 k0, .int .i64 n0, .string s0, .slice p0 l0 c0] 24) := A0_25.out.next hb
        have A1_26 : Hid (Blk W26 (w.heap.size + 1) #[.int .i64 k1, .int .i64 n1, .string s1, .slice p1 l1 c1] 24) := A1_25.out.next hb
        have BW_26 : Hid (Blk W26 V5.heap.size #[.int .i64 rk, .int .i64 rn, .string rt, .slice none 0 0] 28) := BW_25.out.next hb
        have BG_26 : Hid (Blk W26 W13.heap.size #[.int .i64 rk, .int .i64 rn, .string rt, .slice none 0 0] 28) := BG_25.out.next hb
        have BH_26 : Hid (Blk W26 W24.heap.size #[.int .i64 rk, .int .i64 rn, .string rt, .slice none 0 0] 28) := BH_25.out.next hb
        clear A0_25 A1_25 BW_25 BG_25 BH_25
        clear hb
        have e0 := BG_26.out.cell 0 _ rfl
        have e1 := BG_26.out.cell 1 _ rfl
        have e2 := BG_26.out.cell 2 _ rfl
        have e3 := BG_26.out.cell 3 _ rfl
        go_wp2_with fail
        clear e0 e1 e2 e3
        refine (heldVal_any 0 _ _ _ _ _ [] 1 (Rows.nil (Nat.zero_le _)) (by omega) (by simp)).mono ?_
        rintro e W27 ⟨rfl, hb⟩
        simp only [List.map_nil, List.sum_nil, Nat.add_zero]
        have B27 : Hid (Below w.heap.size w W27) := B26.out.trans (hb.mono B26.out.size)
        have A0_27 : Hid (Blk W27 w.heap.size #[.int .i64 k0, .int .i64 n0, .string s0, .slice p0 l0 c0] 24) := A0_26.out.next hb
        have A1_27 : Hid (Blk W27 (w.heap.size + 1) #[.int .i64 k1, .int .i64 n1, .string s1, .slice p1 l1 c1] 24) := A1_26.out.next hb
        have BW_27 : Hid (Blk W27 V5.heap.size #[.int .i64 rk, .int .i64 rn, .string rt, .slice none 0 0] 28) := BW_26.out.next hb
        have BG_27 : Hid (Blk W27 W13.heap.size #[.int .i64 rk, .int .i64 rn, .string rt, .slice none 0 0] 28) := BG_26.out.next hb
        have BH_27 : Hid (Blk W27 W24.heap.size #[.int .i64 rk, .int .i64 rn, .string rt, .slice none 0 0] 28) := BH_26.out.next hb
        clear A0_26 A1_26 BW_26 BG_26 BH_26
        clear hb
        go_wp2_with fail
        go_ret
        exact ⟨rfl, B27.out⟩
    · have way := True.intro
      try clear x0 x1 x2 x3 g0 g1 g2 g3
      clear yV5_00 yV5_01 yV5_02 yV5_03 yV5_10 yV5_11 yV5_12 yV5_13 yV6_00 yV6_01 yV6_02 yV6_03 yV6_10 yV6_11 yV6_12 yV6_13 yV7_00 yV7_01 yV7_02 yV7_03 yV7_10 yV7_11 yV7_12 yV7_13
      clear a00 a01 a02 a03 a10 a11 a12 a13
      obtain ⟨W8, hW⟩ : ∃ W, W = ((((V7.setCell ⟨W4.heap.size, 0, none⟩ (.int .i64 rk)).setCell ⟨W4.heap.size, 1, none⟩ (.int .i64 rn)).setCell ⟨W4.heap.size, 2, none⟩ (.string rt)).setCell ⟨W4.heap.size, 3, none⟩ (.slice none 0 0)) := ⟨_, rfl⟩
      have kk := below_via (below_via GV5.out GV6.out) GV7.out
      have BW_8 : Hid (Blk W8 W4.heap.size #[.int .i64 rk, .int .i64 rn, .string rt, .slice none 0 0] 28) := by
        show Blk _ _ _ _
        rw [hW]; exact (((BXV7.out.same (j := 0) (v := .int .i64 rk) rfl).same (j := 1) (v := .int .i64 rn) rfl).same (j := 2) (v := .string rt) rfl).same (j := 3) (v := .slice none 0 0) rfl
      have hb : Below W4.heap.size W4 W8 := by
        rw [hW]
        exact Below.setCell (Below.setCell (Below.setCell (Below.setCell kk (by show W4.heap.size ≤ W4.heap.size; omega) _) (by show W4.heap.size ≤ W4.heap.size; omega) _) (by show W4.heap.size ≤ W4.heap.size; omega) _) (by show W4.heap.size ≤ W4.heap.size; omega) _
      have HW8 : Hid (W8 = ((((V7.setCell ⟨W4.heap.size, 0, none⟩ (.int .i64 rk)).setCell ⟨W4.heap.size, 1, none⟩ (.int .i64 rn)).setCell ⟨W4.heap.size, 2, none⟩ (.string rt)).setCell ⟨W4.heap.size, 3, none⟩ (.slice none 0 0))) := hW
      clear hW kk U0 U1 hzA zV5 zV6 zV7
      try clear BXV5
      try clear BXV6
      try clear BXV7
      have B8 : Hid (Below w.heap.size w W8) := B4.out.trans (hb.mono B4.out.size)
      have A0_8 : Hid (Blk W8 w.heap.size #[.int .i64 k0, .int .i64 n0, .string s0, .slice p0 l0 c0] 24) := A0_4.out.next hb
      have A1_8 : Hid (Blk W8 (w.heap.size + 1) #[.int .i64 k1, .int .i64 n1, .string s1, .slice p1 l1 c1] 24) := A1_4.out.next hb
      clear A0_4 A1_4
      clear hb
      have LA : Hid (w.heap.size + 1 < W8.heap.size) := A1_8.out.lt
      have LW : Hid (W4.heap.size < W8.heap.size) := BW_8.out.lt
      have e0 := A0_8.out.cell 0 _ rfl
      have e1 := A0_8.out.cell 1 _ rfl
      have e2 := A0_8.out.cell 2 _ rfl
      have e3 := A0_8.out.cell 3 _ rfl
      rw [HW8.out] at e0 e1 e2 e3
      go_wp2_with fail
      rw [← HW8.out]
      clear e0 e1 e2 e3
      refine (toVal_own d _ _ m0 ⟨_, rfl, H0 _ B8.out⟩ HW0_.out).mono ?_
      rintro e W9 ⟨u, fp0, rfl, ⟨cs, rfl, ox⟩, nd, rg, hb⟩
      obtain ⟨kx0, nx0, sx0, px0, lx0, cx0, hsh⟩ := ox.shape
      subst hsh
      have N0 : Hid fp0.Nodup := nd
      have R0 : Hid (∀ a ∈ fp0, W8.heap.size ≤ a ∧ a < W9.heap.size) := rg
      have S0 : Hid (W8.heap.size ≤ W9.heap.size) := hb.size
      have O0_9 : Hid (OVa W9 d [.int .i64 kx0, .int .i64 nx0, .string sx0, .slice px0 lx0 cx0] m0 fp0) := ox
      clear ox nd rg
      have B9 : Hid (Below w.heap.size w W9) := B8.out.trans (hb.mono B8.out.size)
      have A0_9 : Hid (Blk W9 w.heap.size #[.int .i64 k0, .int .i64 n0, .string s0, .slice p0 l0 c0] 24) := A0_8.out.next hb
      have A1_9 : Hid (Blk W9 (w.heap.size + 1) #[.int .i64 k1, .int .i64 n1, .string s1, .slice p1 l1 c1] 24) := A1_8.out.next hb
      have BW_9 : Hid (Blk W9 W4.heap.size #[.int .i64 rk, .int .i64 rn, .string rt, .slice none 0 0] 28) := BW_8.out.next hb
      clear A0_8 A1_8 BW_8
      clear hb
      obtain ⟨W10, hW⟩ : ∃ W, W = (W9.alloc (.cells #[.int .i64 kx0, .int .i64 nx0, .string sx0, .slice px0 lx0 cx0] 28)) := ⟨_, rfl⟩
      have hb : Below W9.heap.size W9 W10 := by rw [hW]; exact (Below.refl _ _).alloc (Nat.le_refl _) _
      have X0_10 : Hid (Blk W10 W9.heap.size #[.int .i64 kx0, .int .i64 nx0, .string sx0, .slice px0 lx0 cx0] 28) := by
        show Blk _ _ _ _
        rw [hW]; exact Blk.new
      have HSZ10 : Hid (W10.heap.size = W9.heap.size + 1) := by
        show _ = _
        rw [hW]; simp only [alloc_hs]
      have HW10 : Hid (W10 = (W9.alloc (.cells #[.int .i64 kx0, .int .i64 nx0, .string sx0, .slice px0 lx0 cx0] 28))) := hW
      have B10 : Hid (Below w.heap.size w W10) := B9.out.trans (hb.mono B9.out.size)
      have A0_10 : Hid (Blk W10 w.heap.size #[.int .i64 k0, .int .i64 n0, .string s0, .slice p0 l0 c0] 24) := A0_9.out.next hb
      have A1_10 : Hid (Blk W10 (w.heap.size + 1) #[.int .i64 k1, .int .i64 n1, .string s1, .slice p1 l1 c1] 24) := A1_9.out.next hb
      have BW_10 : Hid (Blk W10 W4.heap.size #[.int .i64 rk, .int .i64 rn, .string rt, .slice none 0 0] 28) := BW_9.out.next hb
      have O0_10 : Hid (OVa W10 d [.int .i64 kx0, .int .i64 nx0, .string sx0, .slice px0 lx0 cx0] m0 fp0) := O0_9.out.keep (KeepOn.below hb O0_9.out.lt)
      clear A0_9 A1_9 BW_9 O0_9
      clear hb
      have e0 := A1_10.out.cell 0 _ rfl
      have e1 := A1_10.out.cell 1 _ rfl
      have e2 := A1_10.out.cell 2 _ rfl
      have e3 := A1_10.out.cell 3 _ rfl
      rw [HW10.out] at e0 e1 e2 e3
      go_wp2_with fail
      rw [← HW10.out]
      clear e0 e1 e2 e3
      refine (toVal_own d _ _ m1 ⟨_, rfl, H1 _ B10.out⟩ HW1_.out).mono ?_
      rintro e W11 ⟨u, fp1, rfl, ⟨cs, rfl, ox⟩, nd, rg, hb⟩
      obtain ⟨kx1, nx1, sx1, px1, lx1, cx1, hsh⟩ := ox.shape
      subst hsh
      have N1 : Hid fp1.Nodup := nd
      have R1 : Hid (∀ a ∈ fp1, W10.heap.size ≤ a ∧ a < W11.heap.size) := rg
      have S1 : Hid (W10.heap.size ≤ W11.heap.size) := hb.size
      have O1_11 : Hid (OVa W11 d [.int .i64 kx1, .int .i64 nx1, .string sx1, .slice px1 lx1 cx1] m1 fp1) := ox
      clear ox nd rg
      have B11 : Hid (Below w.heap.size w W11) := B10.out.trans (hb.mono B10.out.size)
      have A0_11 : Hid (Blk W11 w.heap.size #[.int .i64 k0, .int .i64 n0, .string s0, .slice p0 l0 c0] 24) := A0_10.out.next hb
      have A1_11 : Hid (Blk W11 (w.heap.size + 1) #[.int .i64 k1, .int .i64 n1, .string s1, .slice p1 l1 c1] 24) := A1_10.out.next hb
      have BW_11 : Hid (Blk W11 W4.heap.size #[.int .i64 rk, .int .i64 rn, .string rt, .slice none 0 0] 28) := BW_10.out.next hb
      have O0_11 : Hid (OVa W11 d [.int .i64 kx0, .int .i64 nx0, .string sx0, .slice px0 lx0 cx0] m0 fp0) := O0_10.out.keep (KeepOn.below hb O0_10.out.lt)
      have X0_11 : Hid (Blk W11 W9.heap.size #[.int .i64 kx0, .int .i64 nx0, .string sx0, .slice px0 lx0 cx0] 28) := X0_10.out.next hb
      clear A0_10 A1_10 BW_10 O0_10 X0_10
      clear hb
      obtain ⟨W12, hW⟩ : ∃ W, W = (W11.alloc (.cells #[.int .i64 kx1, .int .i64 nx1, .string sx1, .slice px1 lx1 cx1] 28)) := ⟨_, rfl⟩
      have hb : Below W11.heap.size W11 W12 := by rw [hW]; exact (Below.refl _ _).alloc (Nat.le_refl _) _
      have X1_12 : Hid (Blk W12 W11.heap.size #[.int .i64 kx1, .int .i64 nx1, .string sx1, .slice px1 lx1 cx1] 28) := by
        show Blk _ _ _ _
        rw [hW]; exact Blk.new
      have HSZ12 : Hid (W12.heap.size = W11.heap.size + 1) := by
        show _ = _
        rw [hW]; simp only [alloc_hs]
      have HW12 : Hid (W12 = (W11.alloc (.cells #[.int .i64 kx1, .int .i64 nx1, .string sx1, .slice px1 lx1 cx1] 28))) := hW
      have B12 : Hid (Below w.heap.size w W12) := B11.out.trans (hb.mono B11.out.size)
      have A0_12 : Hid (Blk W12 w.heap.size #[.int .i64 k0, .int .i64 n0, .string s0, .slice p0 l0 c0] 24) := A0_11.out.next hb
      have A1_12 : Hid (Blk W12 (w.heap.size + 1) #[.int .i64 k1, .int .i64 n1, .string s1, .slice p1 l1 c1] 24) := A1_11.out.next hb
      have BW_12 : Hid (Blk W12 W4.heap.size #[.int .i64 rk, .int .i64 rn, .string rt, .slice none 0 0] 28) := BW_11.out.next hb
      have O0_12 : Hid (OVa W12 d [.int .i64 kx0, .int .i64 nx0, .string sx0, .slice px0 lx0 cx0] m0 fp0) := O0_11.out.keep (KeepOn.below hb O0_11.out.lt)
      have X0_12 : Hid (Blk W12 W9.heap.size #[.int .i64 kx0, .int .i64 nx0, .string sx0, .slice px0 lx0 cx0] 28) := X0_11.out.next hb
      have O1_12 : Hid (OVa W12 d [.int .i64 kx1, .int .i64 nx1, .string sx1, .slice px1 lx1 cx1] m1 fp1) := O1_11.out.keep (KeepOn.below hb O1_11.out.lt)
      clear A0_11 A1_11 BW_11 O0_11 X0_11 O1_11
      clear hb
      have e0 := X0_12.out.cell 0 _ rfl
      have e1 := X0_12.out.cell 1 _ rfl
      have e2 := X0_12.out.cell 2 _ rfl
      have e3 := X0_12.out.cell 3 _ rfl
      have e4 := X1_12.out.cell 0 _ rfl
      have e5 := X1_12.out.cell 1 _ rfl
      have e6 := X1_12.out.cell 2 _ rfl
      have e7 := X1_12.out.cell 3 _ rfl
      rw [HW12.out] at e0 e1 e2 e3 e4 e5 e6 e7
      go_wp2_with fail
      rw [← HW12.out]
      clear e0 e1 e2 e3 e4 e5 e6 e7
      refine (IL.out _ _ _ (O0_12.out.tree (fun _ _ => trivial)) (O1_12.out.tree (fun _ _ => trivial))).mono ?_
      rintro e W13 ⟨rfl, hb⟩
      have LG0 : W12.heap.size ≤ W13.heap.size := hb.size
      have B13 : Hid (Below w.heap.size w W13) := B12.out.trans (hb.mono B12.out.size)
      have A0_13 : Hid (Blk W13 w.heap.size #[.int .i64 k0, .int .i64 n0, .string s0, .slice p0 l0 c0] 24) := A0_12.out.next hb
      have A1_13 : Hid (Blk W13 (w.heap.size + 1) #[.int .i64 k1, .int .i64 n1, .string s1, .slice p1 l1 c1] 24) := A1_12.out.next hb
      have BW_13 : Hid (Blk W13 W4.heap.size #[.int .i64 rk, .int .i64 rn, .string rt, .slice none 0 0] 28) := BW_12.out.next hb
      have O0_13 : Hid (OVa W13 d [.int .i64 kx0, .int .i64 nx0, .string sx0, .slice px0 lx0 cx0] m0 fp0) := O0_12.out.keep (KeepOn.below hb O0_12.out.lt)
      have X0_13 : Hid (Blk W13 W9.heap.size #[.int .i64 kx0, .int .i64 nx0, .string sx0, .slice px0 lx0 cx0] 28) := X0_12.out.next hb
      have O1_13 : Hid (OVa W13 d [.int .i64 kx1, .int .i64 nx1, .string sx1, .slice px1 lx1 cx1] m1 fp1) := O1_12.out.keep (KeepOn.below hb O1_12.out.lt)
      have X1_13 : Hid (Blk W13 W11.heap.size #[.int .i64 kx1, .int .i64 nx1, .string sx1, .slice px1 lx1 cx1] 28) := X1_12.out.next hb
      clear A0_12 A1_12 BW_12 O0_12 X0_12 O1_12 X1_12
      clear hb
      obtain ⟨W14, hW⟩ : ∃ W, W = (W13.alloc (.cells #[.int .i64 rk, .int .i64 rn, .string rt, .slice none 0 0] 28)) := ⟨_, rfl⟩
      have hb : Below W13.heap.size W13 W14 := by rw [hW]; exact (Below.refl _ _).alloc (Nat.le_refl _) _
      have LG : Hid (W12.heap.size ≤ W13.heap.size) := LG0
      have BG_14 : Hid (Blk W14 W13.heap.size #[.int .i64 rk, .int .i64 rn, .string rt, .slice none 0 0] 28) := by
        show Blk _ _ _ _
        rw [hW]; exact Blk.new
      have HSZ14 : Hid (W14.heap.size = W13.heap.size + 1) := by
        show _ = _
        rw [hW]; simp only [alloc_hs]
      have HW14 : Hid (W14 = (W13.alloc (.cells #[.int .i64 rk, .int .i64 rn, .string rt, .slice none 0 0] 28))) := hW
      have B14 : Hid (Below w.heap.size w W14) := B13.out.trans (hb.mono B13.out.size)
      have A0_14 : Hid (Blk W14 w.heap.size #[.int .i64 k0, .int .i64 n0, .string s0, .slice p0 l0 c0] 24) := A0_13.out.next hb
      have A1_14 : Hid (Blk W14 (w.heap.size + 1) #[.int .i64 k1, .int .i64 n1, .string s1, .slice p1 l1 c1] 24) := A1_13.out.next hb
      have BW_14 : Hid (Blk W14 W4.heap.size #[.int .i64 rk, .int .i64 rn, .string rt, .slice none 0 0] 28) := BW_13.out.next hb
      have O0_14 : Hid (OVa W14 d [.int .i64 kx0, .int .i64 nx0, .string sx0, .slice px0 lx0 cx0] m0 fp0) := O0_13.out.keep (KeepOn.below hb O0_13.out.lt)
      have X0_14 : Hid (Blk W14 W9.heap.size #[.int .i64 kx0, .int .i64 nx0, .string sx0, .slice px0 lx0 cx0] 28) := X0_13.out.next hb
      have O1_14 : Hid (OVa W14 d [.int .i64 kx1, .int .i64 nx1, .string sx1, .slice px1 lx1 cx1] m1 fp1) := O1_13.out.keep (KeepOn.below hb O1_13.out.lt)
      have X1_14 : Hid (Blk W14 W11.heap.size #[.int .i64 kx1, .int .i64 nx1, .string sx1, .slice px1 lx1 cx1] 28) := X1_13.out.next hb
      clear A0_13 A1_13 BW_13 O0_13 X0_13 O1_13 X1_13
      clear hb
      have e0 := BG_14.out.cell 0 _ rfl
      have e1 := BG_14.out.cell 1 _ rfl
      have e2 := BG_14.out.cell 2 _ rfl
      have e3 := BG_14.out.cell 3 _ rfl
      have e4 := BW_14.out.cell 0 _ rfl
      have e5 := BW_14.out.cell 1 _ rfl
      have e6 := BW_14.out.cell 2 _ rfl
      have e7 := BW_14.out.cell 3 _ rfl
      rw [HW14.out] at e0 e1 e2 e3 e4 e5 e6 e7
      go_wp2_with fail
      rw [← HW14.out]
      clear e0 e1 e2 e3 e4 e5 e6 e7
      refine (eqVal_all 1 _ _ _ (flat ((rk, rn, rt), rb)) ⟨_, rfl, FL.out _⟩ ⟨_, rfl, FL.out _⟩).mono ?_
      rintro e W15 ⟨rfl, hb⟩
      have B15 : Hid (Below w.heap.size w W15) := B14.out.trans (hb.mono B14.out.size)
      have A0_15 : Hid (Blk W15 w.heap.size #[.int .i64 k0, .int .i64 n0, .string s0, .slice p0 l0 c0] 24) := A0_14.out.next hb
      have A1_15 : Hid (Blk W15 (w.heap.size + 1) #[.int .i64 k1, .int .i64 n1, .string s1, .slice p1 l1 c1] 24) := A1_14.out.next hb
      have BW_15 : Hid (Blk W15 W4.heap.size #[.int .i64 rk, .int .i64 rn, .string rt, .slice none 0 0] 28) := BW_14.out.next hb
      have O0_15 : Hid (OVa W15 d [.int .i64 kx0, .int .i64 nx0, .string sx0, .slice px0 lx0 cx0] m0 fp0) := O0_14.out.keep (KeepOn.below hb O0_14.out.lt)
      have X0_15 : Hid (Blk W15 W9.heap.size #[.int .i64 kx0, .int .i64 nx0, .string sx0, .slice px0 lx0 cx0] 28) := X0_14.out.next hb
      have O1_15 : Hid (OVa W15 d [.int .i64 kx1, .int .i64 nx1, .string sx1, .slice px1 lx1 cx1] m1 fp1) := O1_14.out.keep (KeepOn.below hb O1_14.out.lt)
      have X1_15 : Hid (Blk W15 W11.heap.size #[.int .i64 kx1, .int .i64 nx1, .string sx1, .slice px1 lx1 cx1] 28) := X1_14.out.next hb
      have BG_15 : Hid (Blk W15 W13.heap.size #[.int .i64 rk, .int .i64 rn, .string rt, .slice none 0 0] 28) := BG_14.out.next hb
      clear A0_14 A1_14 BW_14 O0_14 X0_14 O1_14 X1_14 BG_14
      clear hb
      have e0 := X0_15.out.cell 0 _ rfl
      have e1 := X0_15.out.cell 1 _ rfl
      have e2 := X0_15.out.cell 2 _ rfl
      have e3 := X0_15.out.cell 3 _ rfl
      have e4 := A0_15.out.cell 0 _ rfl
      have e5 := A0_15.out.cell 1 _ rfl
      have e6 := A0_15.out.cell 2 _ rfl
      have e7 := A0_15.out.cell 3 _ rfl
      go_wp2_with fail
      go_region_held3 (fun w' => w'.cell? ⟨W9.heap.size, 0, none⟩ = some (.int .i64 kx0) ∧ w'.cell? ⟨W9.heap.size, 1, none⟩ = some (.int .i64 nx0) ∧ w'.cell? ⟨W9.heap.size, 2, none⟩ = some (.string sx0) ∧ w'.cell? ⟨W9.heap.size, 3, none⟩ = some (.slice px0 lx0 cx0) ∧ w'.cell? ⟨w.heap.size, 0, none⟩ = some (.int .i64 k0) ∧ w'.cell? ⟨w.heap.size, 1, none⟩ = some (.int .i64 n0) ∧ w'.cell? ⟨w.heap.size, 2, none⟩ = some (.string s0) ∧ w'.cell? ⟨w.heap.size, 3, none⟩ = some (.slice p0 l0 c0))
        (first | assumption | (go_split_ands; exact ⟨by with_reducible exact cell_next hb (by assumption), by with_reducible exact cell_next hb (by assumption), by with_reducible exact cell_next hb (by assumption), by with_reducible exact cell_next hb (by assumption), by with_reducible exact cell_next hb (by assumption), by with_reducible exact cell_next hb (by assumption), by with_reducible exact cell_next hb (by assumption), by with_reducible exact cell_next hb (by assumption)⟩) | go_keep)
        (first
          | (go_at_call_of 6 (Value.slice p0 l0 c0); refine (toVal_all d _ _ m0 ⟨_, rfl, H0 _ (by exact B15.out.drew)⟩ HW0_.out).mono ?_; rintro e W16 ⟨u, rfl, ⟨cs, rfl, hx⟩, hb⟩; obtain ⟨kv0, nv0, sv0, pv0, lv0, cv0, hsh⟩ := hx.shape; subst hsh; have U0 : ∀ w', Below W16.heap.size W16 w' → HVa w' All d [.int .i64 kv0, .int .i64 nv0, .string sv0, .slice pv0 lv0 cv0] m0 := fun w' hw => hx.mono (SameOn.of_below hw) (fun _ _ => trivial); have K1 : Hid (Below W15.heap.size W15 W16) := ⟨hb.os, hb.tape, hb.output, hb.size, hb.block⟩; clear hx)
          | (go_at_call 8; refine (eqVal_all d _ _ _ m0 ⟨_, rfl, (O0_15.out.keep (KeepOn.below K1.out O0_15.out.lt)).tree (fun _ _ => trivial)⟩ ⟨_, rfl, U0 _ (Below.refl _ _)⟩).mono ?_; rintro e W17 ⟨rfl, hb⟩; have K2 : Hid (Below W15.heap.size W15 W17) := K1.out.trans (hb.mono K1.out.size)))
      go_split_ands
      clear hb
      have hb := K2.out
      clear K1 K2 U0
      clear e0 e1 e2 e3 e4 e5 e6 e7
      have B17 : Hid (Below w.heap.size w W17) := B15.out.trans (hb.mono B15.out.size)
      have A0_17 : Hid (Blk W17 w.heap.size #[.int .i64 k0, .int .i64 n0, .string s0, .slice p0 l0 c0] 24) := A0_15.out.next hb
      have A1_17 : Hid (Blk W17 (w.heap.size + 1) #[.int .i64 k1, .int .i64 n1, .string s1, .slice p1 l1 c1] 24) := A1_15.out.next hb
      have BW_17 : Hid (Blk W17 W4.heap.size #[.int .i64 rk, .int .i64 rn, .string rt, .slice none 0 0] 28) := BW_15.out.next hb
      have O0_17 : Hid (OVa W17 d [.int .i64 kx0, .int .i64 nx0, .string sx0, .slice px0 lx0 cx0] m0 fp0) := O0_15.out.keep (KeepOn.below hb O0_15.out.lt)
      have X0_17 : Hid (Blk W17 W9.heap.size #[.int .i64 kx0, .int .i64 nx0, .string sx0, .slice px0 lx0 cx0] 28) := X0_15.out.next hb
      have O1_17 : Hid (OVa W17 d [.int .i64 kx1, .int .i64 nx1, .string sx1, .slice px1 lx1 cx1] m1 fp1) := O1_15.out.keep (KeepOn.below hb O1_15.out.lt)
      have X1_17 : Hid (Blk W17 W11.heap.size #[.int .i64 kx1, .int .i64 nx1, .string sx1, .slice px1 lx1 cx1] 28) := X1_15.out.next hb
      have BG_17 : Hid (Blk W17 W13.heap.size #[.int .i64 rk, .int .i64 rn, .string rt, .slice none 0 0] 28) := BG_15.out.next hb
      clear A0_15 A1_15 BW_15 O0_15 X0_15 O1_15 X1_15 BG_15
      clear hb
      have e0 := X1_17.out.cell 0 _ rfl
      have e1 := X1_17.out.cell 1 _ rfl
      have e2 := X1_17.out.cell 2 _ rfl
      have e3 := X1_17.out.cell 3 _ rfl
      have e4 := A1_17.out.cell 0 _ rfl
      have e5 := A1_17.out.cell 1 _ rfl
      have e6 := A1_17.out.cell 2 _ rfl
      have e7 := A1_17.out.cell 3 _ rfl
      go_wp2_with fail
      go_region_held3 (fun w' => w'.cell? ⟨W11.heap.size, 0, none⟩ = some (.int .i64 kx1) ∧ w'.cell? ⟨W11.heap.size, 1, none⟩ = some (.int .i64 nx1) ∧ w'.cell? ⟨W11.heap.size, 2, none⟩ = some (.string sx1) ∧ w'.cell? ⟨W11.heap.size, 3, none⟩ = some (.slice px1 lx1 cx1) ∧ w'.cell? ⟨w.heap.size + 1, 0, none⟩ = some (.int .i64 k1) ∧ w'.cell? ⟨w.heap.size + 1, 1, none⟩ = some (.int .i64 n1) ∧ w'.cell? ⟨w.heap.size + 1, 2, none⟩ = some (.string s1) ∧ w'.cell? ⟨w.heap.size + 1, 3, none⟩ = some (.slice p1 l1 c1))
        (first | assumption | (go_split_ands; exact ⟨by with_reducible exact cell_next hb (by assumption), by with_reducible exact cell_next hb (by assumption), by with_reducible exact cell_next hb (by assumption), by with_reducible exact cell_next hb (by assumption), by with_reducible exact cell_next hb (by assumption), by with_reducible exact cell_next hb (by assumption), by with_reducible exact cell_next hb (by assumption), by with_reducible exact cell_next hb (by assumption)⟩) | go_keep)
        (first
          | (go_at_call_of 6 (Value.slice p1 l1 c1); refine (toVal_all d _ _ m1 ⟨_, rfl, H1 _ (by exact B17.out.drew)⟩ HW1_.out).mono ?_; rintro e W18 ⟨u, rfl, ⟨cs, rfl, hx⟩, hb⟩; obtain ⟨kz1, nz1, sz1, pz1, lz1, cz1, hsh⟩ := hx.shape; subst hsh; have U0 : ∀ w', Below W18.heap.size W18 w' → HVa w' All d [.int .i64 kz1, .int .i64 nz1, .string sz1, .slice pz1 lz1 cz1] m1 := fun w' hw => hx.mono (SameOn.of_below hw) (fun _ _ => trivial); have K1 : Hid (Below W17.heap.size W17 W18) := ⟨hb.os, hb.tape, hb.output, hb.size, hb.block⟩; clear hx)
          | (go_at_call 8; refine (eqVal_all d _ _ _ m1 ⟨_, rfl, (O1_17.out.keep (KeepOn.below K1.out O1_17.out.lt)).tree (fun _ _ => trivial)⟩ ⟨_, rfl, U0 _ (Below.refl _ _)⟩).mono ?_; rintro e W19 ⟨rfl, hb⟩; have K2 : Hid (Below W17.heap.size W17 W19) := K1.out.trans (hb.mono K1.out.size)))
      go_split_ands
      clear hb
      have hb := K2.out
      clear K1 K2 U0
      clear e0 e1 e2 e3 e4 e5 e6 e7
      have B19 : Hid (Below w.heap.size w W19) := B17.out.trans (hb.mono B17.out.size)
      have A0_19 : Hid (Blk W19 w.heap.size #[.int .i64 k0, .int .i64 n0, .string s0, .slice p0 l0 c0] 24) := A0_17.out.next hb
      have A1_19 : Hid (Blk W19 (w.heap.size + 1) #[.int .i64 k1, .int .i64 n1, .string s1, .slice p1 l1 c1] 24) := A1_17.out.next hb
      have BW_19 : Hid (Blk W19 W4.heap.size #[.int .i64 rk, .int .i64 rn, .string rt, .slice none 0 0] 28) := BW_17.out.next hb
      have O0_19 : Hid (OVa W19 d [.int .i64 kx0, .int .i64 nx0, .string sx0, .slice px0 lx0 cx0] m0 fp0) := O0_17.out.keep (KeepOn.below hb O0_17.out.lt)
      have X0_19 : Hid (Blk W19 W9.heap.size #[.int .i64 kx0, .int .i64 nx0, .string sx0, .slice px0 lx0 cx0] 28) := X0_17.out.next hb
      have O1_19 : Hid (OVa W19 d [.int .i64 kx1, .int .i64 nx1, .string sx1, .slice px1 lx1 cx1] m1 fp1) := O1_17.out.keep (KeepOn.below hb O1_17.out.lt)
      have X1_19 : Hid (Blk W19 W11.heap.size #[.int .i64 kx1, .int .i64 nx1, .string sx1, .slice px1 lx1 cx1] 28) := X1_17.out.next hb
      have BG_19 : Hid (Blk W19 W13.heap.size #[.int .i64 rk, .int .i64 rn, .string rt, .slice none 0 0] 28) := BG_17.out.next hb
      clear A0_17 A1_17 BW_17 O0_17 X0_17 O1_17 X1_17 BG_17
      clear hb
      have e0 := X0_19.out.cell 0 _ rfl
      have e1 := X0_19.out.cell 1 _ rfl
      have e2 := X0_19.out.cell 2 _ rfl
      have e3 := X0_19.out.cell 3 _ rfl
      go_wp2_with fail
      clear e0 e1 e2 e3
      have hcb0 := cnt_b HD.out HW0_.out
      have hcb1 := cnt_b HD.out HW1_.out
      have HC0 : Hid (1 + (m0.kids.map (cntV dd)).sum ≤ 4194304) := by show _ ≤ _; omega
      have HC1 : Hid ((m1.kids.map (cntV dd)).sum ≤ 4194304) := by show _ ≤ _; omega
      clear hcb0 hcb1
      refine (markVal_any dd _ _ _ _ _ m0.kids fp0 1 (OVa.kids1 HD.out O0_19.out) N0.out (by omega) (by have := HC0.out; omega)).mono ?_
      rintro e W20 ⟨rfl, -, hb⟩
      have B20 : Hid (Below w.heap.size w W20) := B19.out.trans (hb.below (fun a ha => by have h1 := R0.out a ha; have h9 := B8.out.size; omega) B19.out.size)
      clear O0_19
      have A0_20 : Hid (Blk W20 w.heap.size #[.int .i64 k0, .int .i64 n0, .string s0, .slice p0 l0 c0] 24) := (hb.block _ A0_19.out.lt (fun hm => by have h1 := R0.out _ hm; have h9 := B8.out.size; have hA := LA.out; have hS0 := S0.out; have hS1 := S1.out; have hX0 := HSZ10.out; have hX1 := HSZ12.out; omega)).trans A0_19.out
      have A1_20 : Hid (Blk W20 (w.heap.size + 1) #[.int .i64 k1, .int .i64 n1, .string s1, .slice p1 l1 c1] 24) := (hb.block _ A1_19.out.lt (fun hm => by have h1 := R0.out _ hm; have h9 := B8.out.size; have hA := LA.out; have hS0 := S0.out; have hS1 := S1.out; have hX0 := HSZ10.out; have hX1 := HSZ12.out; omega)).trans A1_19.out
      have BW_20 : Hid (Blk W20 W4.heap.size #[.int .i64 rk, .int .i64 rn, .string rt, .slice none 0 0] 28) := (hb.block _ BW_19.out.lt (fun hm => by have h1 := R0.out _ hm; have h9 := B8.out.size; have hA := LA.out; have hS0 := S0.out; have hS1 := S1.out; have hX0 := HSZ10.out; have hX1 := HSZ12.out; have hW_ := LW.out; omega)).trans BW_19.out
      have X0_20 : Hid (Blk W20 W9.heap.size #[.int .i64 kx0, .int .i64 nx0, .string sx0, .slice px0 lx0 cx0] 28) := (hb.block _ X0_19.out.lt (fun hm => by have h1 := R0.out _ hm; have h9 := B8.out.size; have hA := LA.out; have hS0 := S0.out; have hS1 := S1.out; have hX0 := HSZ10.out; have hX1 := HSZ12.out; omega)).trans X0_19.out
      have O1_20 : Hid (OVa W20 d [.int .i64 kx1, .int .i64 nx1, .string sx1, .slice px1 lx1 cx1] m1 fp1) := O1_19.out.keep (hb.keep (fun a ha => ⟨O1_19.out.lt a ha, fun hm => by have h1 := R0.out a hm; have h2 := R1.out a ha; have hX0 := HSZ10.out; omega⟩))
      have X1_20 : Hid (Blk W20 W11.heap.size #[.int .i64 kx1, .int .i64 nx1, .string sx1, .slice px1 lx1 cx1] 28) := (hb.block _ X1_19.out.lt (fun hm => by have h1 := R0.out _ hm; have h9 := B8.out.size; have hA := LA.out; have hS0 := S0.out; have hS1 := S1.out; have hX0 := HSZ10.out; have hX1 := HSZ12.out; omega)).trans X1_19.out
      have BG_20 : Hid (Blk W20 W13.heap.size #[.int .i64 rk, .int .i64 rn, .string rt, .slice none 0 0] 28) := (hb.block _ BG_19.out.lt (fun hm => by have h1 := R0.out _ hm; have h9 := B8.out.size; have hA := LA.out; have hS0 := S0.out; have hS1 := S1.out; have hX0 := HSZ10.out; have hX1 := HSZ12.out; have hG_ := LG.out; omega)).trans BG_19.out
      clear A0_19 A1_19 BW_19 X0_19 O1_19 X1_19 BG_19
      clear hb
      have KP : Hid (1 ≤ 1 + (m0.kids.map (cntV dd)).sum) := by show _ ≤ _; omega
      generalize hk1 : 1 + (m0.kids.map (cntV dd)).sum = kk1 at *
      clear hk1
      have hkk1 := HC0.out
      have e0 := X1_20.out.cell 0 _ rfl
      have e1 := X1_20.out.cell 1 _ rfl
      have e2 := X1_20.out.cell 2 _ rfl
      have e3 := X1_20.out.cell 3 _ rfl
      go_wp2_with fail
      clear e0 e1 e2 e3
      refine (markVal_at dd _ _ _ _ _ m1.kids fp1 kk1 _ rfl (OVa.kids1 HD.out O1_20.out) N1.out KP.out (by have := HC0.out; have := HC1.out; omega)).mono ?_
      rintro e W21 ⟨rfl, -, hb⟩
      have B21 : Hid (Below w.heap.size w W21) := B20.out.trans (hb.below (fun a ha => by have h1 := R1.out a ha; have h9 := B10.out.size; omega) B20.out.size)
      clear X0_20
      clear O1_20
      clear X1_20
      have A0_21 : Hid (Blk W21 w.heap.size #[.int .i64 k0, .int .i64 n0, .string s0, .slice p0 l0 c0] 24) := (hb.block _ A0_20.out.lt (fun hm => by have h1 := R1.out _ hm; have h9 := B8.out.size; have hA := LA.out; have hS0 := S0.out; have hS1 := S1.out; have hX0 := HSZ10.out; have hX1 := HSZ12.out; omega)).trans A0_20.out
      have A1_21 : Hid (Blk W21 (w.heap.size + 1) #[.int .i64 k1, .int .i64 n1, .string s1, .slice p1 l1 c1] 24) := (hb.block _ A1_20.out.lt (fun hm => by have h1 := R1.out _ hm; have h9 := B8.out.size; have hA := LA.out; have hS0 := S0.out; have hS1 := S1.out; have hX0 := HSZ10.out; have hX1 := HSZ12.out; omega)).trans A1_20.out
      have BW_21 : Hid (Blk W21 W4.heap.size #[.int .i64 rk, .int .i64 rn, .string rt, .slice none 0 0] 28) := (hb.block _ BW_20.out.lt (fun hm => by have h1 := R1.out _ hm; have h9 := B8.out.size; have hA := LA.out; have hS0 := S0.out; have hS1 := S1.out; have hX0 := HSZ10.out; have hX1 := HSZ12.out; have hW_ := LW.out; omega)).trans BW_20.out
      have BG_21 : Hid (Blk W21 W13.heap.size #[.int .i64 rk, .int .i64 rn, .string rt, .slice none 0 0] 28) := (hb.block _ BG_20.out.lt (fun hm => by have h1 := R1.out _ hm; have h9 := B8.out.size; have hA := LA.out; have hS0 := S0.out; have hS1 := S1.out; have hX0 := HSZ10.out; have hX1 := HSZ12.out; have hG_ := LG.out; omega)).trans BG_20.out
      clear A0_20 A1_20 BW_20 BG_20
      clear hb
      have hkk2 : kk1 + (m1.kids.map (cntV dd)).sum ≤ 8388608 := by have := HC0.out; have := HC1.out; omega
      generalize hk2 : kk1 + (m1.kids.map (cntV dd)).sum = kk2 at *
      clear hk2
      have e0 := BG_21.out.cell 0 _ rfl
      have e1 := BG_21.out.cell 1 _ rfl
      have e2 := BG_21.out.cell 2 _ rfl
      have e3 := BG_21.out.cell 3 _ rfl
      have e4 := BW_21.out.cell 0 _ rfl
      have e5 := BW_21.out.cell 1 _ rfl
      have e6 := BW_21.out.cell 2 _ rfl
      have e7 := BW_21.out.cell 3 _ rfl
      go_wp2_with fail
      clear e0 e1 e2 e3 e4 e5 e6 e7
      refine (eqVal_all 1 _ _ _ (flat ((rk, rn, rt), rb)) ⟨_, rfl, FL.out _⟩ ⟨_, rfl, FL.out _⟩).mono ?_
      rintro e W22 ⟨rfl, hb⟩
      have B22 : Hid (Below w.heap.size w W22) := B21.out.trans (hb.mono B21.out.size)
      have A0_22 : Hid (Blk W22 w.heap.size #[.int .i64 k0, .int .i64 n0, .string s0, .slice p0 l0 c0] 24) := A0_21.out.next hb
      have A1_22 : Hid (Blk W22 (w.heap.size + 1) #[.int .i64 k1, .int .i64 n1, .string s1, .slice p1 l1 c1] 24) := A1_21.out.next hb
      have BW_22 : Hid (Blk W22 W4.heap.size #[.int .i64 rk, .int .i64 rn, .string rt, .slice none 0 0] 28) := BW_21.out.next hb
      have BG_22 : Hid (Blk W22 W13.heap.size #[.int .i64 rk, .int .i64 rn, .string rt, .slice none 0 0] 28) := BG_21.out.next hb
      clear A0_21 A1_21 BW_21 BG_21
      clear hb
      have e0 := BG_22.out.cell 0 _ rfl
      have e1 := BG_22.out.cell 1 _ rfl
      have e2 := BG_22.out.cell 2 _ rfl
      have e3 := BG_22.out.cell 3 _ rfl
      go_wp2_with fail
      clear e0 e1 e2 e3
      refine (markVal_any 0 _ _ _ _ _ [] [] 1 (.inl ⟨rfl, rfl, _, _, rfl, Nat.zero_le _⟩) (by simp) (by omega) (by simp)).mono ?_
      rintro e W23 ⟨rfl, -, ho⟩
      have hb := ho.below (N := W22.heap.size) (fun a ha => by simp at ha) (Nat.le_refl _)
      clear ho
      have B23 : Hid (Below w.heap.size w W23) := B22.out.trans (hb.mono B22.out.size)
      have A0_23 : Hid (Blk W23 w.heap.size #[.int .i64 k0, .int .i64 n0, .string s0, .slice p0 l0 c0] 24) := A0_22.out.next hb
      have A1_23 : Hid (Blk W23 (w.heap.size + 1) #[.int .i64 k1, .int .i64 n1, .string s1, .slice p1 l1 c1] 24) := A1_22.out.next hb
      have BW_23 : Hid (Blk W23 W4.heap.size #[.int .i64 rk, .int .i64 rn, .string rt, .slice none 0 0] 28) := BW_22.out.next hb
      have BG_23 : Hid (Blk W23 W13.heap.size #[.int .i64 rk, .int .i64 rn, .string rt, .slice none 0 0] 28) := BG_22.out.next hb
      clear A0_22 A1_22 BW_22 BG_22
      clear hb
      simp only [List.map_nil, List.sum_nil, Nat.add_zero]
      have e0 := BG_23.out.cell 0 _ rfl
      have e1 := BG_23.out.cell 1 _ rfl
      have e2 := BG_23.out.cell 2 _ rfl
      have e3 := BG_23.out.cell 3 _ rfl
      go_wp2_with fail
      clear e0 e1 e2 e3
      refine (heldVal_any 0 _ _ _ _ _ [] 1 (Rows.nil (Nat.zero_le _)) (by omega) (by simp)).mono ?_
      rintro e W24 ⟨rfl, hb⟩
      simp only [List.map_nil, List.sum_nil, Nat.add_zero]
      have B24 : Hid (Below w.heap.size w W24) := B23.out.trans (hb.mono B23.out.size)
      have A0_24 : Hid (Blk W24 w.heap.size #[.int .i64 k0, .int .i64 n0, .string s0, .slice p0 l0 c0] 24) := A0_23.out.next hb
      have A1_24 : Hid (Blk W24 (w.heap.size + 1) #[.int .i64 k1, .int .i64 n1, .string s1, .slice p1 l1 c1] 24) := A1_23.out.next hb
      have BW_24 : Hid (Blk W24 W4.heap.size #[.int .i64 rk, .int .i64 rn, .string rt, .slice none 0 0] 28) := BW_23.out.next hb
      have BG_24 : Hid (Blk W24 W13.heap.size #[.int .i64 rk, .int .i64 rn, .string rt, .slice none 0 0] 28) := BG_23.out.next hb
      clear A0_23 A1_23 BW_23 BG_23
      clear hb
      have a00 := A0_24.out.cell 0 _ rfl
      have a01 := A0_24.out.cell 1 _ rfl
      have a02 := A0_24.out.cell 2 _ rfl
      have a03 := A0_24.out.cell 3 _ rfl
      have a10 := A1_24.out.cell 0 _ rfl
      have a11 := A1_24.out.cell 1 _ rfl
      have a12 := A1_24.out.cell 2 _ rfl
      have a13 := A1_24.out.cell 3 _ rfl
      have hzA := A1_24.out.lt
      go_wp2_with fail
      go_region_held3 (fun w' => w'.cell? ⟨w.heap.size, 0, none⟩ = some (.int .i64 k0) ∧ w'.cell? ⟨w.heap.size, 1, none⟩ = some (.int .i64 n0) ∧ w'.cell? ⟨w.heap.size, 2, none⟩ = some (.string s0) ∧ w'.cell? ⟨w.heap.size, 3, none⟩ = some (.slice p0 l0 c0) ∧ w'.cell? ⟨w.heap.size + 1, 0, none⟩ = some (.int .i64 k1) ∧ w'.cell? ⟨w.heap.size + 1, 1, none⟩ = some (.int .i64 n1) ∧ w'.cell? ⟨w.heap.size + 1, 2, none⟩ = some (.string s1) ∧ w'.cell? ⟨w.heap.size + 1, 3, none⟩ = some (.slice p1 l1 c1))
        (first | assumption | (go_split_ands; exact ⟨by with_reducible exact keep_set4 (N := w.heap.size + 2) (by omega) (by show w.heap.size < w.heap.size + 2; omega) (by assumption), by with_reducible exact keep_set4 (N := w.heap.size + 2) (by omega) (by show w.heap.size < w.heap.size + 2; omega) (by assumption), by with_reducible exact keep_set4 (N := w.heap.size + 2) (by omega) (by show w.heap.size < w.heap.size + 2; omega) (by assumption), by with_reducible exact keep_set4 (N := w.heap.size + 2) (by omega) (by show w.heap.size < w.heap.size + 2; omega) (by assumption), by with_reducible exact keep_set4 (N := w.heap.size + 2) (by omega) (by show w.heap.size + 1 < w.heap.size + 2; omega) (by assumption), by with_reducible exact keep_set4 (N := w.heap.size + 2) (by omega) (by show w.heap.size + 1 < w.heap.size + 2; omega) (by assumption), by with_reducible exact keep_set4 (N := w.heap.size + 2) (by omega) (by show w.heap.size + 1 < w.heap.size + 2; omega) (by assumption), by with_reducible exact keep_set4 (N := w.heap.size + 2) (by omega) (by show w.heap.size + 1 < w.heap.size + 2; omega) (by assumption)⟩) | (go_split_ands; exact ⟨by with_reducible exact cell_next hb (by assumption), by with_reducible exact cell_next hb (by assumption), by with_reducible exact cell_next hb (by assumption), by with_reducible exact cell_next hb (by assumption), by with_reducible exact cell_next hb (by assumption), by with_reducible exact cell_next hb (by assumption), by with_reducible exact cell_next hb (by assumption), by with_reducible exact cell_next hb (by assumption)⟩) | (go_split_ands; exact ⟨by with_reducible exact cell_next ((Below.refl _ _).alloc (Nat.le_refl _) _) (by assumption), by with_reducible exact cell_next ((Below.refl _ _).alloc (Nat.le_refl _) _) (by assumption), by with_reducible exact cell_next ((Below.refl _ _).alloc (Nat.le_refl _) _) (by assumption), by with_reducible exact cell_next ((Below.refl _ _).alloc (Nat.le_refl _) _) (by assumption), by with_reducible exact cell_next ((Below.refl _ _).alloc (Nat.le_refl _) _) (by assumption), by with_reducible exact cell_next ((Below.refl _ _).alloc (Nat.le_refl _) _) (by assumption), by with_reducible exact cell_next ((Below.refl _ _).alloc (Nat.le_refl _) _) (by assumption), by with_reducible exact cell_next ((Below.refl _ _).alloc (Nat.le_refl _) _) (by assumption)⟩) | (go_split_ands; exact ⟨by with_reducible exact cell_next (Below.drew ((Below.refl _ _).alloc (Nat.le_refl _) _)) (by assumption), by with_reducible exact cell_next (Below.drew ((Below.refl _ _).alloc (Nat.le_refl _) _)) (by assumption), by with_reducible exact cell_next (Below.drew ((Below.refl _ _).alloc (Nat.le_refl _) _)) (by assumption), by with_reducible exact cell_next (Below.drew ((Below.refl _ _).alloc (Nat.le_refl _) _)) (by assumption), by with_reducible exact cell_next (Below.drew ((Below.refl _ _).alloc (Nat.le_refl _) _)) (by assumption), by with_reducible exact cell_next (Below.drew ((Below.refl _ _).alloc (Nat.le_refl _) _)) (by assumption), by with_reducible exact cell_next (Below.drew ((Below.refl _ _).alloc (Nat.le_refl _) _)) (by assumption), by with_reducible exact cell_next (Below.drew ((Below.refl _ _).alloc (Nat.le_refl _) _)) (by assumption)⟩) | go_keep)
        (first
          | (go_at_call_of 6 (Value.slice p0 l0 c0); refine (toVal_all d _ _ m0 ⟨_, rfl, H0 _ (by first | with_reducible exact B24.out.drew | with_reducible exact (B24.out.alloc B24.out.size _).drew | with_reducible exact (B24.out.drew.alloc B24.out.size _))⟩ HW0_.out).mono ?_; rintro e V40 ⟨u, rfl, ⟨cs, rfl, hx⟩, hb⟩; obtain ⟨ku400, nu400, su400, pu400, lu400, cu400, hsh⟩ := hx.shape; subst hsh; have U0 : ∀ w', Below V40.heap.size V40 w' → HVa w' All d [.int .i64 ku400, .int .i64 nu400, .string su400, .slice pu400 lu400 cu400] m0 := fun w' hw => hx.mono (SameOn.of_below hw) (fun _ _ => trivial); have gV : Below W24.heap.size W24 V40 := (by first | (have h1 : Below W24.drew.heap.size W24.drew V40 := (by with_reducible exact hb); exact ⟨h1.os, h1.tape, h1.output, h1.size, h1.block⟩) | (have h1 : Below (W24.alloc (.cells #[.int .i64 0, .int .i64 0, .string ⟨#[]⟩, .slice none 0 0] 28)).drew.heap.size (W24.alloc (.cells #[.int .i64 0, .int .i64 0, .string ⟨#[]⟩, .slice none 0 0] 28)).drew V40 := (by with_reducible exact hb); exact below_via (b := W24.alloc (.cells #[.int .i64 0, .int .i64 0, .string ⟨#[]⟩, .slice none 0 0] 28)) ((Below.refl _ _).alloc (Nat.le_refl _) _) ⟨h1.os, h1.tape, h1.output, h1.size, h1.block⟩) | (have h1 : Below (W24.drew.alloc (.cells #[.int .i64 0, .int .i64 0, .string ⟨#[]⟩, .slice none 0 0] 28)).heap.size (W24.drew.alloc (.cells #[.int .i64 0, .int .i64 0, .string ⟨#[]⟩, .slice none 0 0] 28)) V40 := (by with_reducible exact hb); exact below_via (b := W24.alloc (.cells #[.int .i64 0, .int .i64 0, .string ⟨#[]⟩, .slice none 0 0] 28)) ((Below.refl _ _).alloc (Nat.le_refl _) _) ⟨h1.os, h1.tape, h1.output, h1.size, h1.block⟩)); have GV40 : Hid (Below W24.heap.size W24 V40) := gV; clear gV; have zV40 := GV40.out.size; (first | (have hbA : Below (W24.alloc (.cells #[.int .i64 0, .int .i64 0, .string ⟨#[]⟩, .slice none 0 0] 28)).drew.heap.size (W24.alloc (.cells #[.int .i64 0, .int .i64 0, .string ⟨#[]⟩, .slice none 0 0] 28)).drew V40 := (by with_reducible exact hb); have BXV40 : Hid (Blk V40 W24.heap.size #[.int .i64 0, .int .i64 0, .string ⟨#[]⟩, .slice none 0 0] 28) := Blk.next (w := W24.alloc (.cells #[.int .i64 0, .int .i64 0, .string ⟨#[]⟩, .slice none 0 0] 28)) Blk.new ⟨hbA.os, hbA.tape, hbA.output, hbA.size, hbA.block⟩; clear hbA) | (have hbA : Below (W24.drew.alloc (.cells #[.int .i64 0, .int .i64 0, .string ⟨#[]⟩, .slice none 0 0] 28)).heap.size (W24.drew.alloc (.cells #[.int .i64 0, .int .i64 0, .string ⟨#[]⟩, .slice none 0 0] 28)) V40 := (by with_reducible exact hb); have BXV40 : Hid (Blk V40 W24.heap.size #[.int .i64 0, .int .i64 0, .string ⟨#[]⟩, .slice none 0 0] 28) := Blk.next (w := W24.alloc (.cells #[.int .i64 0, .int .i64 0, .string ⟨#[]⟩, .slice none 0 0] 28)) Blk.new ⟨hbA.os, hbA.tape, hbA.output, hbA.size, hbA.block⟩; clear hbA) | skip); have yV40_00 := cell_next GV40.out a00; have yV40_01 := cell_next GV40.out a01; have yV40_02 := cell_next GV40.out a02; have yV40_03 := cell_next GV40.out a03; have yV40_10 := cell_next GV40.out a10; have yV40_11 := cell_next GV40.out a11; have yV40_12 := cell_next GV40.out a12; have yV40_13 := cell_next GV40.out a13; clear hx)
          | (go_at_call_of 6 (Value.slice p1 l1 c1); refine (toVal_all d _ _ m1 ⟨_, rfl, H1 _ (by first | with_reducible exact B24.out.trans (GV40.out.mono B24.out.size) | with_reducible exact (B24.out.trans (GV40.out.mono B24.out.size)).alloc (Nat.le_trans B24.out.size GV40.out.size) _)⟩ HW1_.out).mono ?_; rintro e V41 ⟨u, rfl, ⟨cs, rfl, hx⟩, hb⟩; obtain ⟨ku401, nu401, su401, pu401, lu401, cu401, hsh⟩ := hx.shape; subst hsh; have U1 : ∀ w', Below V41.heap.size V41 w' → HVa w' All d [.int .i64 ku401, .int .i64 nu401, .string su401, .slice pu401 lu401 cu401] m1 := fun w' hw => hx.mono (SameOn.of_below hw) (fun _ _ => trivial); have gV : Below V40.heap.size V40 V41 := (by first | (have h1 : Below V40.heap.size V40 V41 := (by with_reducible exact hb); exact h1) | (have h1 : Below (V40.alloc (.cells #[.int .i64 0, .int .i64 0, .string ⟨#[]⟩, .slice none 0 0] 28)).heap.size (V40.alloc (.cells #[.int .i64 0, .int .i64 0, .string ⟨#[]⟩, .slice none 0 0] 28)) V41 := (by with_reducible exact hb); exact below_via ((Below.refl _ _).alloc (Nat.le_refl _) _) h1)); have GV41 : Hid (Below V40.heap.size V40 V41) := gV; clear gV; have zV41 := GV41.out.size; (first | (have BXV41 : Hid (Blk V41 W24.heap.size #[.int .i64 0, .int .i64 0, .string ⟨#[]⟩, .slice none 0 0] 28) := (show Blk _ _ _ _ from (by with_reducible exact Blk.next BXV40.out GV41.out))) | (have hbA : Below (V40.alloc (.cells #[.int .i64 0, .int .i64 0, .string ⟨#[]⟩, .slice none 0 0] 28)).heap.size (V40.alloc (.cells #[.int .i64 0, .int .i64 0, .string ⟨#[]⟩, .slice none 0 0] 28)) V41 := (by with_reducible exact hb); have BXV41 : Hid (Blk V41 V40.heap.size #[.int .i64 0, .int .i64 0, .string ⟨#[]⟩, .slice none 0 0] 28) := Blk.next (w := V40.alloc (.cells #[.int .i64 0, .int .i64 0, .string ⟨#[]⟩, .slice none 0 0] 28)) Blk.new ⟨hbA.os, hbA.tape, hbA.output, hbA.size, hbA.block⟩; clear hbA) | skip); have yV41_00 := cell_next GV41.out yV40_00; have yV41_01 := cell_next GV41.out yV40_01; have yV41_02 := cell_next GV41.out yV40_02; have yV41_03 := cell_next GV41.out yV40_03; have yV41_10 := cell_next GV41.out yV40_10; have yV41_11 := cell_next GV41.out yV40_11; have yV41_12 := cell_next GV41.out yV40_12; have yV41_13 := cell_next GV41.out yV40_13; clear hx)
          | (go_at_call 7; refine (IL.out _ _ _ (U0 _ (by first | with_reducible exact GV41.out | with_reducible exact GV41.out.alloc GV41.out.size _)) (U1 _ (by first | with_reducible exact Below.refl _ _ | with_reducible exact (Below.refl _ _).alloc (Nat.le_refl _) _))).mono ?_; rintro e V42 ⟨rfl, hb⟩; have gV : Below V41.heap.size V41 V42 := (by first | with_reducible exact hb | (have h1 : Below (V41.alloc (.cells #[.int .i64 0, .int .i64 0, .string ⟨#[]⟩, .slice none 0 0] 28)).heap.size (V41.alloc (.cells #[.int .i64 0, .int .i64 0, .string ⟨#[]⟩, .slice none 0 0] 28)) V42 := (by with_reducible exact hb); exact below_via ((Below.refl _ _).alloc (Nat.le_refl _) _) h1)); have GV42 : Hid (Below V41.heap.size V41 V42) := gV; clear gV; have zV42 := GV42.out.size; (first | (have BXV42 : Hid (Blk V42 W24.heap.size #[.int .i64 0, .int .i64 0, .string ⟨#[]⟩, .slice none 0 0] 28) := (show Blk _ _ _ _ from (by with_reducible exact Blk.next BXV41.out GV42.out))) | (have BXV42 : Hid (Blk V42 V40.heap.size #[.int .i64 0, .int .i64 0, .string ⟨#[]⟩, .slice none 0 0] 28) := (show Blk _ _ _ _ from (by with_reducible exact Blk.next BXV41.out GV42.out))) | (have hbA : Below (V41.alloc (.cells #[.int .i64 0, .int .i64 0, .string ⟨#[]⟩, .slice none 0 0] 28)).heap.size (V41.alloc (.cells #[.int .i64 0, .int .i64 0, .string ⟨#[]⟩, .slice none 0 0] 28)) V42 := (by with_reducible exact hb); have BXV42 : Hid (Blk V42 V41.heap.size #[.int .i64 0, .int .i64 0, .string ⟨#[]⟩, .slice none 0 0] 28) := Blk.next (w := V41.alloc (.cells #[.int .i64 0, .int .i64 0, .string ⟨#[]⟩, .slice none 0 0] 28)) Blk.new ⟨hbA.os, hbA.tape, hbA.output, hbA.size, hbA.block⟩; clear hbA) | skip); (try (have x0 := BXV42.out.cell 0 _ rfl; have g0 := BXV42.out.frozen 0; have x1 := BXV42.out.cell 1 _ rfl; have g1 := BXV42.out.frozen 1; have x2 := BXV42.out.cell 2 _ rfl; have g2 := BXV42.out.frozen 2; have x3 := BXV42.out.cell 3 _ rfl; have g3 := BXV42.out.frozen 3)); have yV42_00 := cell_next GV42.out yV41_00; have yV42_01 := cell_next GV42.out yV41_01; have yV42_02 := cell_next GV42.out yV41_02; have yV42_03 := cell_next GV42.out yV41_03; have yV42_10 := cell_next GV42.out yV41_10; have yV42_11 := cell_next GV42.out yV41_11; have yV42_12 := cell_next GV42.out yV41_12; have yV42_13 := cell_next GV42.out yV41_13; skip))
      · have way := True.intro
        try clear x0 x1 x2 x3 g0 g1 g2 g3
        clear yV40_00 yV40_01 yV40_02 yV40_03 yV40_10 yV40_11 yV40_12 yV40_13 yV41_00 yV41_01 yV41_02 yV41_03 yV41_10 yV41_11 yV41_12 yV41_13 yV42_00 yV42_01 yV42_02 yV42_03 yV42_10 yV42_11 yV42_12 yV42_13
        clear a00 a01 a02 a03 a10 a11 a12 a13
        obtain ⟨W25, hW⟩ : ∃ W, W = (V42.alloc (.cells #[.int .i64 rk, .int .i64 rn, .string rt, .slice none 0 0] 28)) := ⟨_, rfl⟩
        have kk := below_via (below_via GV40.out GV41.out) GV42.out
        have BH_25 : Hid (Blk W25 V42.heap.size #[.int .i64 rk, .int .i64 rn, .string rt, .slice none 0 0] 28) := by
          show Blk _ _ _ _
          rw [hW]; exact Blk.new
        have hb : Below W24.heap.size W24 W25 := by rw [hW]; exact kk.alloc kk.size _
        have HW25 : Hid (W25 = (V42.alloc (.cells #[.int .i64 rk, .int .i64 rn, .string rt, .slice none 0 0] 28))) := hW
        clear hW kk U0 U1 hzA zV40 zV41 zV42
        try clear BXV40
        try clear BXV41
        try clear BXV42
        have B25 : Hid (Below w.heap.size w W25) := B24.out.trans (hb.mono B24.out.size)
        have A0_25 : Hid (Blk W25 w.heap.size #[.int .i64 k0, .int .i64 n0, .string s0, .slice p0 l0 c0] 24) := A0_24.out.next hb
        have A1_25 : Hid (Blk W25 (w.heap.size + 1) #[.int .i64 k1, .int .i64 n1, .string s1, .slice p1 l1 c1] 24) := A1_24.out.next hb
        have BW_25 : Hid (Blk W25 W4.heap.size #[.int .i64 rk, .int .i64 rn, .string rt, .slice none 0 0] 28) := BW_24.out.next hb
        have BG_25 : Hid (Blk W25 W13.heap.size #[.int .i64 rk, .int .i64 rn, .string rt, .slice none 0 0] 28) := BG_24.out.next hb
        clear A0_24 A1_24 BW_24 BG_24
        clear hb
        have e0 := BH_25.out.cell 0 _ rfl
        have e1 := BH_25.out.cell 1 _ rfl
        have e2 := BH_25.out.cell 2 _ rfl
        have e3 := BH_25.out.cell 3 _ rfl
        have e4 := BW_25.out.cell 0 _ rfl
        have e5 := BW_25.out.cell 1 _ rfl
        have e6 := BW_25.out.cell 2 _ rfl
        have e7 := BW_25.out.cell 3 _ rfl
        rw [HW25.out] at e0 e1 e2 e3 e4 e5 e6 e7
        go_wp2_with fail
        rw [← HW25.out]
        clear e0 e1 e2 e3 e4 e5 e6 e7
        refine (eqVal_all 1 _ _ _ (flat ((rk, rn, rt), rb)) ⟨_, rfl, FL.out _⟩ ⟨_, rfl, FL.out _⟩).mono ?_
        rintro e W26 ⟨rfl, hb⟩
        have B26 : Hid (Below w.heap.size w W26) := B25.out.trans (hb.mono B25.out.size)
        have A0_26 : Hid (Blk W26 w.heap.size #[.int .i64 k0, .int .i64 n0, .string s0, .slice p0 l0 c0] 24) := A0_25.out.next hb
        have A1_26 : Hid (Blk W26 (w.heap.size + 1) #[.int .i64 k1, .int .i64 n1, .string s1, .slice p1 l1 c1] 24) := A1_25.out.next hb
        have BW_26 : Hid (Blk W26 W4.heap.size #[.int .i64 rk, .int .i64 rn, .string rt, .slice none 0 0] 28) := BW_25.out.next hb
        have BG_26 : Hid (Blk W26 W13.heap.size #[.int .i64 rk, .int .i64 rn, .string rt, .slice none 0 0] 28) := BG_25.out.next hb
        have BH_26 : Hid (Blk W26 V42.heap.size #[.int .i64 rk, .int .i64 rn, .string rt, .slice none 0 0] 28) := BH_25.out.next hb
        clear A0_25 A1_25 BW_25 BG_25 BH_25
        clear hb
        have e0 := BG_26.out.cell 0 _ rfl
        have e1 := BG_26.out.cell 1 _ rfl
        have e2 := BG_26.out.cell 2 _ rfl
        have e3 := BG_26.out.cell 3 _ rfl
        go_wp2_with fail
        clear e0 e1 e2 e3
        refine (heldVal_any 0 _ _ _ _ _ [] 1 (Rows.nil (Nat.zero_le _)) (by omega) (by simp)).mono ?_
        rintro e W27 ⟨rfl, hb⟩
        simp only [List.map_nil, List.sum_nil, Nat.add_zero]
        have B27 : Hid (Below w.heap.size w W27) := B26.out.trans (hb.mono B26.out.size)
        have A0_27 : Hid (Blk W27 w.heap.size #[.int .i64 k0, .int .i64 n0, .string s0, .slice p0 l0 c0] 24) := A0_26.out.next hb
        have A1_27 : Hid (Blk W27 (w.heap.size + 1) #[.int .i64 k1, .int .i64 n1, .string s1, .slice p1 l1 c1] 24) := A1_26.out.next hb
        have BW_27 : Hid (Blk W27 W4.heap.size #[.int .i64 rk, .int .i64 rn, .string rt, .slice none 0 0] 28) := BW_26.out.next hb
        have BG_27 : Hid (Blk W27 W13.heap.size #[.int .i64 rk, .int .i64 rn, .string rt, .slice none 0 0] 28) := BG_26.out.next hb
        have BH_27 : Hid (Blk W27 V42.heap.size #[.int .i64 rk, .int .i64 rn, .string rt, .slice none 0 0] 28) := BH_26.out.next hb
        clear A0_26 A1_26 BW_26 BG_26 BH_26
        clear hb
        go_wp2_with fail
        go_ret
        exact ⟨rfl, B27.out⟩
      · have way := True.intro
        try clear x0 x1 x2 x3 g0 g1 g2 g3
        clear yV40_00 yV40_01 yV40_02 yV40_03 yV40_10 yV40_11 yV40_12 yV40_13 yV41_00 yV41_01 yV41_02 yV41_03 yV41_10 yV41_11 yV41_12 yV41_13 yV42_00 yV42_01 yV42_02 yV42_03 yV42_10 yV42_11 yV42_12 yV42_13
        clear a00 a01 a02 a03 a10 a11 a12 a13
        obtain ⟨W25, hW⟩ : ∃ W, W = ((((V42.setCell ⟨V41.heap.size, 0, none⟩ (.int .i64 rk)).setCell ⟨V41.heap.size, 1, none⟩ (.int .i64 rn)).setCell ⟨V41.heap.size, 2, none⟩ (.string rt)).setCell ⟨V41.heap.size, 3, none⟩ (.slice none 0 0)) := ⟨_, rfl⟩
        have kk := below_via (below_via GV40.out GV41.out) GV42.out
        have BH_25 : Hid (Blk W25 V41.heap.size #[.int .i64 rk, .int .i64 rn, .string rt, .slice none 0 0] 28) := by
          show Blk _ _ _ _
          rw [hW]; exact (((BXV42.out.same (j := 0) (v := .int .i64 rk) rfl).same (j := 1) (v := .int .i64 rn) rfl).same (j := 2) (v := .string rt) rfl).same (j := 3) (v := .slice none 0 0) rfl
        have hb : Below W24.heap.size W24 W25 := by
          rw [hW]
          exact Below.setCell (Below.setCell (Below.setCell (Below.setCell kk (by show W24.heap.size ≤ V41.heap.size; omega) _) (by show W24.heap.size ≤ V41.heap.size; omega) _) (by show W24.heap.size ≤ V41.heap.size; omega) _) (by show W24.heap.size ≤ V41.heap.size; omega) _
        have HW25 : Hid (W25 = ((((V42.setCell ⟨V41.heap.size, 0, none⟩ (.int .i64 rk)).setCell ⟨V41.heap.size, 1, none⟩ (.int .i64 rn)).setCell ⟨V41.heap.size, 2, none⟩ (.string rt)).setCell ⟨V41.heap.size, 3, none⟩ (.slice none 0 0))) := hW
        clear hW kk U0 U1 hzA zV40 zV41 zV42
        try clear BXV40
        try clear BXV41
        try clear BXV42
        have B25 : Hid (Below w.heap.size w W25) := B24.out.trans (hb.mono B24.out.size)
        have A0_25 : Hid (Blk W25 w.heap.size #[.int .i64 k0, .int .i64 n0, .string s0, .slice p0 l0 c0] 24) := A0_24.out.next hb
        have A1_25 : Hid (Blk W25 (w.heap.size + 1) #[.int .i64 k1, .int .i64 n1, .string s1, .slice p1 l1 c1] 24) := A1_24.out.next hb
        have BW_25 : Hid (Blk W25 W4.heap.size #[.int .i64 rk, .int .i64 rn, .string rt, .slice none 0 0] 28) := BW_24.out.next hb
        have BG_25 : Hid (Blk W25 W13.heap.size #[.int .i64 rk, .int .i64 rn, .string rt, .slice none 0 0] 28) := BG_24.out.next hb
        clear A0_24 A1_24 BW_24 BG_24
        clear hb
        have e0 := BH_25.out.cell 0 _ rfl
        have e1 := BH_25.out.cell 1 _ rfl
        have e2 := BH_25.out.cell 2 _ rfl
        have e3 := BH_25.out.cell 3 _ rfl
        have e4 := BW_25.out.cell 0 _ rfl
        have e5 := BW_25.out.cell 1 _ rfl
        have e6 := BW_25.out.cell 2 _ rfl
        have e7 := BW_25.out.cell 3 _ rfl
        rw [HW25.out] at e0 e1 e2 e3 e4 e5 e6 e7
        go_wp2_with fail
        rw [← HW25.out]
        clear e0 e1 e2 e3 e4 e5 e6 e7
        refine (eqVal_all 1 _ _ _ (flat ((rk, rn, rt), rb)) ⟨_, rfl, FL.out _⟩ ⟨_, rfl, FL.out _⟩).mono ?_
        rintro e W26 ⟨rfl, hb⟩
        have B26 : Hid (Below w.heap.size w W26) := B25.out.trans (hb.mono B25.out.size)
        have A0_26 : Hid (Blk W26 w.heap.size #[.int .i64 k0, .int .i64 n0, .string s0, .slice p0 l0 c0] 24) := A0_25.out.next hb
        have A1_26 : Hid (Blk W26 (w.heap.size + 1) #[.int .i64 k1, .int .i64 n1, .string s1, .slice p1 l1 c1] 24) := A1_25.out.next hb
        have BW_26 : Hid (Blk W26 W4.heap.size #[.int .i64 rk, .int .i64 rn, .string rt, .slice none 0 0] 28) := BW_25.out.next hb
        have BG_26 : Hid (Blk W26 W13.heap.size #[.int .i64 rk, .int .i64 rn, .string rt, .slice none 0 0] 28) := BG_25.out.next hb
        have BH_26 : Hid (Blk W26 V41.heap.size #[.int .i64 rk, .int .i64 rn, .string rt, .slice none 0 0] 28) := BH_25.out.next hb
        clear A0_25 A1_25 BW_25 BG_25 BH_25
        clear hb
        have e0 := BG_26.out.cell 0 _ rfl
        have e1 := BG_26.out.cell 1 _ rfl
        have e2 := BG_26.out.cell 2 _ rfl
        have e3 := BG_26.out.cell 3 _ rfl
        go_wp2_with fail
        clear e0 e1 e2 e3
        refine (heldVal_any 0 _ _ _ _ _ [] 1 (Rows.nil (Nat.zero_le _)) (by omega) (by simp)).mono ?_
        rintro e W27 ⟨rfl, hb⟩
        simp only [List.map_nil, List.sum_nil, Nat.add_zero]
        have B27 : Hid (Below w.heap.size w W27) := B26.out.trans (hb.mono B26.out.size)
        have A0_27 : Hid (Blk W27 w.heap.size #[.int .i64 k0, .int .i64 n0, .string s0, .slice p0 l0 c0] 24) := A0_26.out.next hb
        have A1_27 : Hid (Blk W27 (w.heap.size + 1) #[.int .i64 k1, .int .i64 n1, .string s1, .slice p1 l1 c1] 24) := A1_26.out.next hb
        have BW_27 : Hid (Blk W27 W4.heap.size #[.int .i64 rk, .int .i64 rn, .string rt, .slice none 0 0] 28) := BW_26.out.next hb
        have BG_27 : Hid (Blk W27 W13.heap.size #[.int .i64 rk, .int .i64 rn, .string rt, .slice none 0 0] 28) := BG_26.out.next hb
        have BH_27 : Hid (Blk W27 V41.heap.size #[.int .i64 rk, .int .i64 rn, .string rt, .slice none 0 0] 28) := BH_26.out.next hb
        clear A0_26 A1_26 BW_26 BG_26 BH_26
        clear hb
        go_wp2_with fail
        go_ret
        exact ⟨rfl, B27.out⟩
      · have way := True.intro
        try clear x0 x1 x2 x3 g0 g1 g2 g3
        clear yV40_00 yV40_01 yV40_02 yV40_03 yV40_10 yV40_11 yV40_12 yV40_13 yV41_00 yV41_01 yV41_02 yV41_03 yV41_10 yV41_11 yV41_12 yV41_13 yV42_00 yV42_01 yV42_02 yV42_03 yV42_10 yV42_11 yV42_12 yV42_13
        clear a00 a01 a02 a03 a10 a11 a12 a13
        obtain ⟨W25, hW⟩ : ∃ W, W = ((((V42.setCell ⟨V40.heap.size, 0, none⟩ (.int .i64 rk)).setCell ⟨V40.heap.size, 1, none⟩ (.int .i64 rn)).setCell ⟨V40.heap.size, 2, none⟩ (.string rt)).setCell ⟨V40.heap.size, 3, none⟩ (.slice none 0 0)) := ⟨_, rfl⟩
        have kk := below_via (below_via GV40.out GV41.out) GV42.out
        have BH_25 : Hid (Blk W25 V40.heap.size #[.int .i64 rk, .int .i64 rn, .string rt, .slice none 0 0] 28) := by
          show Blk _ _ _ _
          rw [hW]; exact (((BXV42.out.same (j := 0) (v := .int .i64 rk) rfl).same (j := 1) (v := .int .i64 rn) rfl).same (j := 2) (v := .string rt) rfl).same (j := 3) (v := .slice none 0 0) rfl
        have hb : Below W24.heap.size W24 W25 := by
          rw [hW]
          exact Below.setCell (Below.setCell (Below.setCell (Below.setCell kk (by show W24.heap.size ≤ V40.heap.size; omega) _) (by show W24.heap.size ≤ V40.heap.size; omega) _) (by show W24.heap.size ≤ V40.heap.size; omega) _) (by show W24.heap.size ≤ V40.heap.size; omega) _
        have HW25 : Hid (W25 = ((((V42.setCell ⟨V40.heap.size, 0, none⟩ (.int .i64 rk)).setCell ⟨V40.heap.size, 1, none⟩ (.int .i64 rn)).setCell ⟨V40.heap.size, 2, none⟩ (.string rt)).setCell ⟨V40.heap.size, 3, none⟩ (.slice none 0 0))) := hW
        clear hW kk U0 U1 hzA zV40 zV41 zV42
        try clear BXV40
        try clear BXV41
        try clear BXV42
        have B25 : Hid (Below w.heap.size w W25) := B24.out.trans (hb.mono B24.out.size)
        have A0_25 : Hid (Blk W25 w.heap.size #[.int .i64 k0, .int .i64 n0, .string s0, .slice p0 l0 c0] 24) := A0_24.out.next hb
        have A1_25 : Hid (Blk W25 (w.heap.size + 1) #[.int .i64 k1, .int .i64 n1, .string s1, .slice p1 l1 c1] 24) := A1_24.out.next hb
        have BW_25 : Hid (Blk W25 W4.heap.size #[.int .i64 rk, .int .i64 rn, .string rt, .slice none 0 0] 28) := BW_24.out.next hb
        have BG_25 : Hid (Blk W25 W13.heap.size #[.int .i64 rk, .int .i64 rn, .string rt, .slice none 0 0] 28) := BG_24.out.next hb
        clear A0_24 A1_24 BW_24 BG_24
        clear hb
        have e0 := BH_25.out.cell 0 _ rfl
        have e1 := BH_25.out.cell 1 _ rfl
        have e2 := BH_25.out.cell 2 _ rfl
        have e3 := BH_25.out.cell 3 _ rfl
        have e4 := BW_25.out.cell 0 _ rfl
        have e5 := BW_25.out.cell 1 _ rfl
        have e6 := BW_25.out.cell 2 _ rfl
        have e7 := BW_25.out.cell 3 _ rfl
        rw [HW25.out] at e0 e1 e2 e3 e4 e5 e6 e7
        go_wp2_with fail
        rw [← HW25.out]
        clear e0 e1 e2 e3 e4 e5 e6 e7
        refine (eqVal_all 1 _ _ _ (flat ((rk, rn, rt), rb)) ⟨_, rfl, FL.out _⟩ ⟨_, rfl, FL.out _⟩).mono ?_
        rintro e W26 ⟨rfl, hb⟩
        have B26 : Hid (Below w.heap.size w W26) := B25.out.trans (hb.mono B25.out.size)
        have A0_26 : Hid (Blk W26 w.heap.size #[.int .i64 k0, .int .i64 n0, .string s0, .slice p0 l0 c0] 24) := A0_25.out.next hb
        have A1_26 : Hid (Blk W26 (w.heap.size + 1) #[.int .i64 k1, .int .i64 n1, .string s1, .slice p1 l1 c1] 24) := A1_25.out.next hb
        have BW_26 : Hid (Blk W26 W4.heap.size #[.int .i64 rk, .int .i64 rn, .string rt, .slice none 0 0] 28) := BW_25.out.next hb
        have BG_26 : Hid (Blk W26 W13.heap.size #[.int .i64 rk, .int .i64 rn, .string rt, .slice none 0 0] 28) := BG_25.out.next hb
        have BH_26 : Hid (Blk W26 V40.heap.size #[.int .i64 rk, .int .i64 rn, .string rt, .slice none 0 0] 28) := BH_25.out.next hb
        clear A0_25 A1_25 BW_25 BG_25 BH_25
        clear hb
        have e0 := BG_26.out.cell 0 _ rfl
        have e1 := BG_26.out.cell 1 _ rfl
        have e2 := BG_26.out.cell 2 _ rfl
        have e3 := BG_26.out.cell 3 _ rfl
        go_wp2_with fail
        clear e0 e1 e2 e3
        refine (heldVal_any 0 _ _ _ _ _ [] 1 (Rows.nil (Nat.zero_le _)) (by omega) (by simp)).mono ?_
        rintro e W27 ⟨rfl, hb⟩
        simp only [List.map_nil, List.sum_nil, Nat.add_zero]
        have B27 : Hid (Below w.heap.size w W27) := B26.out.trans (hb.mono B26.out.size)
        have A0_27 : Hid (Blk W27 w.heap.size #[.int .i64 k0, .int .i64 n0, .string s0, .slice p0 l0 c0] 24) := A0_26.out.next hb
        have A1_27 : Hid (Blk W27 (w.heap.size + 1) #[.int .i64 k1, .int .i64 n1, .string s1, .slice p1 l1 c1] 24) := A1_26.out.next hb
        have BW_27 : Hid (Blk W27 W4.heap.size #[.int .i64 rk, .int .i64 rn, .string rt, .slice none 0 0] 28) := BW_26.out.next hb
        have BG_27 : Hid (Blk W27 W13.heap.size #[.int .i64 rk, .int .i64 rn, .string rt, .slice none 0 0] 28) := BG_26.out.next hb
        have BH_27 : Hid (Blk W27 V40.heap.size #[.int .i64 rk, .int .i64 rn, .string rt, .slice none 0 0] 28) := BH_26.out.next hb
        clear A0_26 A1_26 BW_26 BG_26 BH_26
        clear hb
        go_wp2_with fail
        go_ret
        exact ⟨rfl, B27.out⟩
      · have way := True.intro
        try clear x0 x1 x2 x3 g0 g1 g2 g3
        clear yV40_00 yV40_01 yV40_02 yV40_03 yV40_10 yV40_11 yV40_12 yV40_13 yV41_00 yV41_01 yV41_02 yV41_03 yV41_10 yV41_11 yV41_12 yV41_13 yV42_00 yV42_01 yV42_02 yV42_03 yV42_10 yV42_11 yV42_12 yV42_13
        clear a00 a01 a02 a03 a10 a11 a12 a13
        obtain ⟨W25, hW⟩ : ∃ W, W = ((((V42.setCell ⟨W24.heap.size, 0, none⟩ (.int .i64 rk)).setCell ⟨W24.heap.size, 1, none⟩ (.int .i64 rn)).setCell ⟨W24.heap.size, 2, none⟩ (.string rt)).setCell ⟨W24.heap.size, 3, none⟩ (.slice none 0 0)) := ⟨_, rfl⟩
        have kk := below_via (below_via GV40.out GV41.out) GV42.out
        have BH_25 : Hid (Blk W25 W24.heap.size #[.int .i64 rk, .int .i64 rn, .string rt, .slice none 0 0] 28) := by
          show Blk _ _ _ _
          rw [hW]; exact (((BXV42.out.same (j := 0) (v := .int .i64 rk) rfl).same (j := 1) (v := .int .i64 rn) rfl).same (j := 2) (v := .string rt) rfl).same (j := 3) (v := .slice none 0 0) rfl
        have hb : Below W24.heap.size W24 W25 := by
          rw [hW]
          exact Below.setCell (Below.setCell (Below.setCell (Below.setCell kk (by show W24.heap.size ≤ W24.heap.size; omega) _) (by show W24.heap.size ≤ W24.heap.size; omega) _) (by show W24.heap.size ≤ W24.heap.size; omega) _) (by show W24.heap.size ≤ W24.heap.size; omega) _
        have HW25 : Hid (W25 = ((((V42.setCell ⟨W24.heap.size, 0, none⟩ (.int .i64 rk)).setCell ⟨W24.heap.size, 1, none⟩ (.int .i64 rn)).setCell ⟨W24.heap.size, 2, none⟩ (.string rt)).setCell ⟨W24.heap.size, 3, none⟩ (.slice none 0 0))) := hW
        clear hW kk U0 U1 hzA zV40 zV41 zV42
        try clear BXV40
        try clear BXV41
        try clear BXV42
        have B25 : Hid (Below w.heap.size w W25) := B24.out.trans (hb.mono B24.out.size)
        have A0_25 : Hid (Blk W25 w.heap.size #[.int .i64 k0, .int .i64 n0, .string s0, .slice p0 l0 c0] 24) := A0_24.out.next hb
        have A1_25 : Hid (Blk W25 (w.heap.size + 1) #[.int .i64 k1, .int .i64 n1, .string s1, .slice p1 l1 c1] 24) := A1_24.out.next hb
        have BW_25 : Hid (Blk W25 W4.heap.size #[.int .i64 rk, .int .i64 rn, .string rt, .slice none 0 0] 28) := BW_24.out.next hb
        have BG_25 : Hid (Blk W25 W13.heap.size #[.int .i64 rk, .int .i64 rn, .string rt, .slice none 0 0] 28) := BG_24.out.next hb
        clear A0_24 A1_24 BW_24 BG_24
        clear hb
        have e0 := BH_25.out.cell 0 _ rfl
        have e1 := BH_25.out.cell 1 _ rfl
        have e2 := BH_25.out.cell 2 _ rfl
        have e3 := BH_25.out.cell 3 _ rfl
        have e4 := BW_25.out.cell 0 _ rfl
        have e5 := BW_25.out.cell 1 _ rfl
        have e6 := BW_25.out.cell 2 _ rfl
        have e7 := BW_25.out.cell 3 _ rfl
        rw [HW25.out] at e0 e1 e2 e3 e4 e5 e6 e7
        go_wp2_with fail
        rw [← HW25.out]
        clear e0 e1 e2 e3 e4 e5 e6 e7
        refine (eqVal_all 1 _ _ _ (flat ((rk, rn, rt), rb)) ⟨_, rfl, FL.out _⟩ ⟨_, rfl, FL.out _⟩).mono ?_
        rintro e W26 ⟨rfl, hb⟩
        have B26 : Hid (Below w.heap.size w W26) := B25.out.trans (hb.mono B25.out.size)
        have A0_26 : Hid (Blk W26 w.heap.size #[.int .i64 k0, .int .i64 n0, .string s0, .slice p0 l0 c0] 24) := A0_25.out.next hb
        have A1_26 : Hid (Blk W26 (w.heap.size + 1) #[.int .i64 k1, .int .i64 n1, .string s1, .slice p1 l1 c1] 24) := A1_25.out.next hb
        have BW_26 : Hid (Blk W26 W4.heap.size #[.int .i64 rk, .int .i64 rn, .string rt, .slice none 0 0] 28) := BW_25.out.next hb
        have BG_26 : Hid (Blk W26 W13.heap.size #[.int .i64 rk, .int .i64 rn, .string rt, .slice none 0 0] 28) := BG_25.out.next hb
        have BH_26 : Hid (Blk W26 W24.heap.size #[.int .i64 rk, .int .i64 rn, .string rt, .slice none 0 0] 28) := BH_25.out.next hb
        clear A0_25 A1_25 BW_25 BG_25 BH_25
        clear hb
        have e0 := BG_26.out.cell 0 _ rfl
        have e1 := BG_26.out.cell 1 _ rfl
        have e2 := BG_26.out.cell 2 _ rfl
        have e3 := BG_26.out.cell 3 _ rfl
        go_wp2_with fail
        clear e0 e1 e2 e3
        refine (heldVal_any 0 _ _ _ _ _ [] 1 (Rows.nil (Nat.zero_le _)) (by omega) (by simp)).mono ?_
        rintro e W27 ⟨rfl, hb⟩
        simp only [List.map_nil, List.sum_nil, Nat.add_zero]
        have B27 : Hid (Below w.heap.size w W27) := B26.out.trans (hb.mono B26.out.size)
        have A0_27 : Hid (Blk W27 w.heap.size #[.int .i64 k0, .int .i64 n0, .string s0, .slice p0 l0 c0] 24) := A0_26.out.next hb
        have A1_27 : Hid (Blk W27 (w.heap.size + 1) #[.int .i64 k1, .int .i64 n1, .string s1, .slice p1 l1 c1] 24) := A1_26.out.next hb
        have BW_27 : Hid (Blk W27 W4.heap.size #[.int .i64 rk, .int .i64 rn, .string rt, .slice none 0 0] 28) := BW_26.out.next hb
        have BG_27 : Hid (Blk W27 W13.heap.size #[.int .i64 rk, .int .i64 rn, .string rt, .slice none 0 0] 28) := BG_26.out.next hb
        have BH_27 : Hid (Blk W27 W24.heap.size #[.int .i64 rk, .int .i64 rn, .string rt, .slice none 0 0] 28) := BH_26.out.next hb
        clear A0_26 A1_26 BW_26 BG_26 BH_26
        clear hb
        go_wp2_with fail
        go_ret
        exact ⟨rfl, B27.out⟩
  · go_enter Try.func3, Try.ntmps3
    go_wp2
    go_ret
    exact ⟨rfl, ((Below.refl _ _).alloc (Nat.le_refl _) _).alloc (by simp) _⟩
end Go.Proofs.Ytopjelgeedhkiab
