/-
  The law of Lookup, walked: at all names that are bound, and every name.
-/
import Derived.Test.YtkcajmkagbgfnaaLookSpec
import Derived.Test.YtkcajmkagbgfnaaValEq
namespace Go.Proofs.Ytkcajmkagbgfnaa
open Go.ChangeShapes Go.WideShapes Go.ChangeAt Go.RowKit
set_option linter.unusedVariables false

theorem OVa.kids {w : World} {d : Nat} {a b : Int} {c : ByteArray} {v : Value} {x : Va} {fp : List Nat} (h : OVa w (d + 1) [.int .i64 a, .int .i64 b, .string c, v] x fp) : ORows w 41 4 (OVa w d) v x.kids fp := by
  obtain ⟨kv, h, -, -, -, hr⟩ := h
  simp only [List.cons.injEq, and_true] at h
  obtain ⟨-, -, -, rfl⟩ := h
  exact hr
theorem wt_found {d : Nat} {w : World} {S : Nat → Prop} {v : Value} {es : List Bd} {s : ByteArray} {x : Va} (h : Rows w S 5 (HBd w S d) v es) (hl : lookV s es = some x) : wtVa (d + 1) x = wtVa d x := by
  have hm : ∃ b ∈ es, b.val = x := by
    clear h
    induction es with
    | nil => cases hl
    | cons b l ih =>
      rw [lookV] at hl
      split at hl
      · exact ⟨b, by simp, Option.some.inj hl⟩
      · obtain ⟨b', hb, he⟩ := ih hl; exact ⟨b', by simp [hb], he⟩
  obtain ⟨b, hb, rfl⟩ := hm
  obtain ⟨p, cap, -, -, -, hx⟩ := h
  obtain ⟨i, hi⟩ := List.getElem?_of_mem hb
  obtain ⟨g, off, -, -, -, hat⟩ := hx (by intro h; rw [h] at hb; simp at hb)
  obtain ⟨cs, -, -, vs, -, -, hv⟩ := hat i b hi
  exact wtVa_deeper hv

set_option maxHeartbeats 4000000 in
theorem markVal_any (d : Nat) (w : World) (k0 n0 : Int) (t0 : ByteArray) (kv : Value) (es : List Va) (fp : List Nat) (k : Nat) (h : ORows w 41 4 (OVa w d) kv es fp) (hnd : fp.Nodup) (hk1 : 1 ≤ k) (hkb : k + (es.map (cntV d)).sum ≤ 1099511627776) :
    Calls Try.prog 26 #[.agg #[.int .i64 k0, .int .i64 n0, .string t0, kv], .int .i64 k] w fun e w' => e = .returned (.int .i64 ((k + (es.map (cntV d)).sum : Nat) : Int)) ∧ ORows w' 41 4 (OVa w' d) kv (markL (markV d) (cntV d) k es) fp ∧ Off fp w w' := by
  have HAL : Hid (Below w.heap.size w (w.alloc (.cells #[.int .i64 k0, .int .i64 n0, .string t0, kv] 41))) := (Below.refl _ _).alloc (Nat.le_refl _) _
  have hk := KeepOn.below HAL.out (h.lt (fun _ _ _ h => h.lt))
  have HR : Hid (ORows (w.alloc (.cells #[.int .i64 k0, .int .i64 n0, .string t0, kv] 41)) 41 4 (OVa (w.alloc (.cells #[.int .i64 k0, .int .i64 n0, .string t0, kv] 41)) d) kv es fp) := h.keep hk (fun cs x f _ hs h => h.keep (hk.sub hs))
  have HND : Hid fp.Nodup := hnd
  have HKB : Hid (k + (es.map (cntV d)).sum ≤ 1099511627776) := hkb
  obtain ⟨p, cap, hv, -⟩ := h.shape
  subst hv
  clear h hk hnd hkb
  go_enter Try.func26, Try.ntmps26
  go_wp2_with fail
  refine (markS_all d _ _ es fp k HR.out HND.out hk1 HKB.out).mono ?_
  rintro e w1 ⟨rfl, r1, o1⟩
  have R1 : Hid (ORows w1 41 4 (OVa w1 d) (.slice p es.length cap) (markL (markV d) (cntV d) k es) fp) := r1
  have O1 : Hid (Off fp w w1) := (Off.of_below HAL.out).trans o1
  clear r1 o1
  generalize hkz : k + (es.map (cntV d)).sum = kz at *
  have HKZ : Hid (k + (es.map (cntV d)).sum = kz) := hkz
  clear hkz
  go_wp2_with fail
  go_ret
  exact ⟨by rw [HKZ.out]; rfl, R1.out, O1.out⟩

set_option maxHeartbeats 4000000 in
theorem heldVal_any (d : Nat) (w : World) (k0 n0 : Int) (t0 : ByteArray) (kv : Value) (es : List Va) (k : Nat) (h : Rows w All 4 (HVa w All d) kv (markL (markV d) (cntV d) k es)) (hk1 : 1 ≤ k) (hkb : k + (es.map (cntV d)).sum ≤ 1099511627776) :
    Calls Try.prog 31 #[.agg #[.int .i64 k0, .int .i64 n0, .string t0, kv], .int .i64 k] w fun e w' => e = .returned (.int .i64 ((k + (es.map (cntV d)).sum : Nat) : Int)) ∧ Below w.heap.size w w' := by
  have HAL : Hid (Below w.heap.size w (w.alloc (.cells #[.int .i64 k0, .int .i64 n0, .string t0, kv] 41))) := (Below.refl _ _).alloc (Nat.le_refl _) _
  have HR : Hid (Rows (w.alloc (.cells #[.int .i64 k0, .int .i64 n0, .string t0, kv] 41)) All 4 (HVa (w.alloc (.cells #[.int .i64 k0, .int .i64 n0, .string t0, kv] 41)) All d) kv (markL (markV d) (cntV d) k es)) := h.mono (SameOn.of_below HAL.out) (fun _ h => h) (fun _ _ _ h => h.mono (SameOn.of_below HAL.out) (fun _ h => h))
  have HKB : Hid (k + (es.map (cntV d)).sum ≤ 1099511627776) := hkb
  obtain ⟨p, cap, hv, -⟩ := id h
  subst hv
  clear h hkb
  go_enter Try.func31, Try.ntmps31
  go_wp2_with fail
  refine (heldS_all d _ _ es k HR.out hk1 HKB.out).mono ?_
  rintro e w1 ⟨rfl, hb⟩
  have HB1 : Hid (Below w.heap.size w w1) := HAL.out.trans (hb.mono HAL.out.size)
  have hkb2 := HKB.out
  clear hb
  generalize hkz : k + (es.map (cntV d)).sum = kz at *
  have HKZ : Hid (k + (es.map (cntV d)).sum = kz) := hkz
  clear hkz
  go_wp2_with fail
  go_ret
  exact ⟨by rw [HKZ.out]; rfl, HB1.out⟩

set_option maxHeartbeats 16000000 in
set_option maxRecDepth 100000 in
theorem fnExactLookup_walk (w : World) (d : Nat) (p : Option Addr) (cap n : Nat) (es : List Bd) (s : ByteArray) (hn : es.length = n) (hsz : s.size ≤ maxLen) (h0 : Rows w (fun g => g < w.heap.size) 5 (HBd w (fun g => g < w.heap.size) d) (.slice p n cap) es) :
    Calls Try.prog 6 #[.slice p n cap, .string s] w fun e w' => e = .returned (.bool true) ∧ Below w.heap.size w w' := by
  have hsb := hsz
  unfold maxLen at hsb
  by_cases hs : s.size ≤ 1048576
  · have Z0 : ∀ w', Below w.heap.size w w' → Rows w' (fun g => g < w.heap.size) 5 (HBd w' (fun g => g < w.heap.size) d) (.slice p n cap) es := fun w' hw => h0.mono (SameOn.of_below hw) (fun _ h => h) (fun _ _ _ h => h.mono (SameOn.of_below hw) (fun _ h => h))
    have H0 : ∀ w', Below w.heap.size w w' → Rows w' All 5 (HBd w' All d) (.slice p n cap) es := fun w' hw => h0.mono (SameOn.of_below hw) (fun _ _ => trivial) (fun _ _ _ h => h.mono (SameOn.of_below hw) (fun _ _ => trivial))
    have B0 : Hid (Below w.heap.size w w) := Below.refl _ _
    clear h0 hn
    generalize hx0 : wtS (wtBd d) es = x0 at *
    have HX0 : Hid (wtS (wtBd d) es = x0) := hx0
    clear hx0
    by_cases t0 : 1048576 < x0
    · have hr0 : leftOf 1048576 x0 = -1 := leftOf_lt t0
      go_enter Try.func6, Try.ntmps6
      go_wp2_with fail
      refine ((szBindS_all (N := w.heap.size) d).at es _ 1048576 (by omega) (Z0 _ B0.out) (by omega)).mono ?_
      rintro e W1 ⟨rfl, hb⟩
      rw [HX0.out, hr0]
      have B1 : Hid (Below w.heap.size w W1) := hb
      clear hb
      go_wp2_with fail
      go_ret
      exact ⟨rfl, B1.out⟩
    have hr0 : leftOf 1048576 x0 = ((1048576 - x0 : Nat) : Int) := leftOf_ge (by omega)
    have HWT : Hid (wtS (wtBd d) es ≤ 1048576) := by
      show _ ≤ _
      rw [HX0.out]; omega
    obtain ⟨X, bb, hR⟩ : ∃ X bb, lookR s es = (X, bb) := ⟨_, _, rfl⟩
    have SL : Hid (∀ w' v, Rows w' All 5 (HBd w' All d) v es → Calls Try.prog 29 #[v, .string s] w' fun e w'' => ∃ cs, e = .returned (.tuple #[.agg cs.toArray, .bool bb]) ∧ HVa w'' All (d + 1) cs X ∧ Below w'.heap.size w' w'') := fun w' v h => by
      have := specLookup_any d w' v es s h HWT.out
      rw [hR] at this; exact this
    have IL : Hid (∀ w' v, Rows w' All 5 (HBd w' All d) v es → Calls Try.prog 30 #[v, .string s] w' fun e w'' => ∃ cs fp, e = .returned (.tuple #[.agg cs.toArray, .bool bb]) ∧ OVa w'' (d + 1) cs X fp ∧ fp.Nodup ∧ (∀ a ∈ fp, w'.heap.size ≤ a ∧ a < w''.heap.size) ∧ Below w'.heap.size w' w'') := fun w' v h => by
      have := implLookup_any d w' v es s h HWT.out
      rw [hR] at this; exact this
    have HWX : Hid (wtVa (d + 1) X ≤ 1048576) := by
      show _ ≤ _
      cases hl : lookV s es with
      | none => rw [lookR_none hl] at hR; cases hR; rw [zero_wt]; omega
      | some y => rw [lookR_some hl] at hR; cases hR; exact Nat.le_trans (Nat.le_of_eq (wt_found (H0 w B0.out) hl)) (Nat.le_trans (lookV_wt hl) HWT.out)
    clear hR
    go_enter Try.func6, Try.ntmps6
    go_wp2_with fail
    refine ((szBindS_all (N := w.heap.size) d).at es _ 1048576 (by omega) (Z0 _ B0.out) (by omega)).mono ?_
    rintro e W1 ⟨rfl, hb⟩
    rw [HX0.out, hr0]
    have B1 : Hid (Below w.heap.size w W1) := B0.out.trans (hb.mono B0.out.size)
    clear hb
    clear hr0
    go_wp2_with fail
    refine (toBindS_own d _ _ es (H0 _ B1.out) HWT.out).mono ?_
    rintro e W2 ⟨u, fpa, rfl, ro, nda, rga, hb⟩
    obtain ⟨pa, ca, hu, -⟩ := ro.shape
    subst hu
    have TA : Hid (Rows W2 All 5 (HBd W2 All d) (.slice pa es.length ca) es) := ro.binds (fun _ _ => trivial)
    clear ro nda rga
    have B2 : Hid (Below w.heap.size w W2) := B1.out.trans (hb.mono B1.out.size)
    clear hb
    go_wp2_with fail
    refine (SL.out _ _ TA.out).mono ?_
    rintro e W3 ⟨cs, rfl, tw, hb⟩
    obtain ⟨kw, nw, sw, pw, lw, cw, hsh⟩ := tw.shape
    subst hsh
    have TW_3 : Hid (HVa W3 (fun a => a < W3.heap.size) (d + 1) [.int .i64 kw, .int .i64 nw, .string sw, .slice pw lw cw] X) := HVa.mono (SameOn.of_below (Below.refl _ _)) (fun a h => h.2) tw.low
    clear tw TA
    have B3 : Hid (Below w.heap.size w W3) := B2.out.trans (hb.mono B2.out.size)
    clear hb
    obtain ⟨W4, hW⟩ : ∃ W, W = (W3.alloc (.cells #[.int .i64 kw, .int .i64 nw, .string sw, .slice pw lw cw] 41)) := ⟨_, rfl⟩
    have hb : Below W3.heap.size W3 W4 := by rw [hW]; exact (Below.refl _ _).alloc (Nat.le_refl _) _
    have BW_4 : Hid (Blk W4 W3.heap.size #[.int .i64 kw, .int .i64 nw, .string sw, .slice pw lw cw] 41) := by
      show Blk _ _ _ _
      rw [hW]; exact Blk.new
    have HSZ4 : Hid (W4.heap.size = W3.heap.size + 1) := by
      show _ = _
      rw [hW]; simp only [alloc_hs]
    have HW4 : Hid (W4 = (W3.alloc (.cells #[.int .i64 kw, .int .i64 nw, .string sw, .slice pw lw cw] 41))) := hW
    have B4 : Hid (Below w.heap.size w W4) := B3.out.trans (hb.mono B3.out.size)
    have TW_4 : Hid (HVa W4 (fun a => a < W3.heap.size) (d + 1) [.int .i64 kw, .int .i64 nw, .string sw, .slice pw lw cw] X) := TW_3.out.mono (SameOn.of_below hb) (fun _ h => h)
    clear TW_3
    clear hb
    go_wp2_with fail
    rw [← HW4.out]
    refine (toBindS_own d _ _ es (H0 _ B4.out) HWT.out).mono ?_
    rintro e W5 ⟨u, fpx, rfl, ro, ndx, rgx, hb⟩
    obtain ⟨px, cx, hu, -⟩ := ro.shape
    subst hu
    have NX : Hid fpx.Nodup := ndx
    have GX : Hid (∀ a ∈ fpx, W4.heap.size ≤ a ∧ a < W5.heap.size) := rgx
    have XO_5 : Hid (ORows W5 99 5 (OBd W5 d) (.slice px es.length cx) es fpx) := ro
    clear ro ndx rgx
    have L45 : W4.heap.size ≤ W5.heap.size := hb.size
    have B5 : Hid (Below w.heap.size w W5) := B4.out.trans (hb.mono B4.out.size)
    have TW_5 : Hid (HVa W5 (fun a => a < W3.heap.size) (d + 1) [.int .i64 kw, .int .i64 nw, .string sw, .slice pw lw cw] X) := TW_4.out.mono (SameOn.of_below hb) (fun _ h => h)
    have BW_5 : Hid (Blk W5 W3.heap.size #[.int .i64 kw, .int .i64 nw, .string sw, .slice pw lw cw] 41) := BW_4.out.next hb
    clear TW_4 BW_4
    clear hb
    go_wp2_with fail
    refine (IL.out _ _ (XO_5.out.binds (fun _ _ => trivial))).mono ?_
    rintro e W6 ⟨cs, fpg, rfl, og, ndg, rgg, hb⟩
    obtain ⟨kg, ng, sg, pg, lg, cg, hsh⟩ := og.shape
    subst hsh
    have NG : Hid fpg.Nodup := ndg
    have GG : Hid (∀ a ∈ fpg, W5.heap.size ≤ a ∧ a < W6.heap.size) := rgg
    have GO_6 : Hid (OVa W6 (d + 1) [.int .i64 kg, .int .i64 ng, .string sg, .slice pg lg cg] X fpg) := og
    clear og ndg rgg
    have L56 : W5.heap.size ≤ W6.heap.size := hb.size
    have B6 : Hid (Below w.heap.size w W6) := B5.out.trans (hb.mono B5.out.size)
    have TW_6 : Hid (HVa W6 (fun a => a < W3.heap.size) (d + 1) [.int .i64 kw, .int .i64 nw, .string sw, .slice pw lw cw] X) := TW_5.out.mono (SameOn.of_below hb) (fun _ h => h)
    have BW_6 : Hid (Blk W6 W3.heap.size #[.int .i64 kw, .int .i64 nw, .string sw, .slice pw lw cw] 41) := BW_5.out.next hb
    have XO_6 : Hid (ORows W6 99 5 (OBd W6 d) (.slice px es.length cx) es fpx) := (fun hk => XO_5.out.keep hk (fun cs x f _ hs h => h.keep (hk.sub hs))) (KeepOn.below hb (XO_5.out.lt (fun _ _ _ h => h.lt)))
    clear TW_5 BW_5 XO_5
    clear hb
    obtain ⟨W7, hW⟩ : ∃ W, W = (W6.alloc (.cells #[.int .i64 kg, .int .i64 ng, .string sg, .slice pg lg cg] 41)) := ⟨_, rfl⟩
    have hb : Below W6.heap.size W6 W7 := by rw [hW]; exact (Below.refl _ _).alloc (Nat.le_refl _) _
    have BG_7 : Hid (Blk W7 W6.heap.size #[.int .i64 kg, .int .i64 ng, .string sg, .slice pg lg cg] 41) := by
      show Blk _ _ _ _
      rw [hW]; exact Blk.new
    have HSZ7 : Hid (W7.heap.size = W6.heap.size + 1) := by
      show _ = _
      rw [hW]; simp only [alloc_hs]
    have HW7 : Hid (W7 = (W6.alloc (.cells #[.int .i64 kg, .int .i64 ng, .string sg, .slice pg lg cg] 41))) := hW
    have B7 : Hid (Below w.heap.size w W7) := B6.out.trans (hb.mono B6.out.size)
    have TW_7 : Hid (HVa W7 (fun a => a < W3.heap.size) (d + 1) [.int .i64 kw, .int .i64 nw, .string sw, .slice pw lw cw] X) := TW_6.out.mono (SameOn.of_below hb) (fun _ h => h)
    have BW_7 : Hid (Blk W7 W3.heap.size #[.int .i64 kw, .int .i64 nw, .string sw, .slice pw lw cw] 41) := BW_6.out.next hb
    have XO_7 : Hid (ORows W7 99 5 (OBd W7 d) (.slice px es.length cx) es fpx) := (fun hk => XO_6.out.keep hk (fun cs x f _ hs h => h.keep (hk.sub hs))) (KeepOn.below hb (XO_6.out.lt (fun _ _ _ h => h.lt)))
    have GO_7 : Hid (OVa W7 (d + 1) [.int .i64 kg, .int .i64 ng, .string sg, .slice pg lg cg] X fpg) := GO_6.out.keep (KeepOn.below hb GO_6.out.lt)
    clear TW_6 BW_6 XO_6 GO_6
    clear hb
    have e0 := BG_7.out.cell 0 _ rfl
    have e1 := BG_7.out.cell 1 _ rfl
    have e2 := BG_7.out.cell 2 _ rfl
    have e3 := BG_7.out.cell 3 _ rfl
    have e4 := BW_7.out.cell 0 _ rfl
    have e5 := BW_7.out.cell 1 _ rfl
    have e6 := BW_7.out.cell 2 _ rfl
    have e7 := BW_7.out.cell 3 _ rfl
    rw [HW7.out] at e0 e1 e2 e3 e4 e5 e6 e7
    go_wp2_with fail
    rw [← HW7.out]
    clear e0 e1 e2 e3 e4 e5 e6 e7
    refine (eqVal_all (d + 1) _ _ _ X ⟨_, rfl, GO_7.out.tree (fun _ _ => trivial)⟩ ⟨_, rfl, HVa.mono (SameOn.of_below (Below.refl _ _)) (fun _ _ => trivial) TW_7.out⟩).mono ?_
    rintro e W8 ⟨rfl, hb⟩
    have B8 : Hid (Below w.heap.size w W8) := B7.out.trans (hb.mono B7.out.size)
    have TW_8 : Hid (HVa W8 (fun a => a < W3.heap.size) (d + 1) [.int .i64 kw, .int .i64 nw, .string sw, .slice pw lw cw] X) := TW_7.out.mono (SameOn.of_below hb) (fun _ h => h)
    have BW_8 : Hid (Blk W8 W3.heap.size #[.int .i64 kw, .int .i64 nw, .string sw, .slice pw lw cw] 41) := BW_7.out.next hb
    have XO_8 : Hid (ORows W8 99 5 (OBd W8 d) (.slice px es.length cx) es fpx) := (fun hk => XO_7.out.keep hk (fun cs x f _ hs h => h.keep (hk.sub hs))) (KeepOn.below hb (XO_7.out.lt (fun _ _ _ h => h.lt)))
    have GO_8 : Hid (OVa W8 (d + 1) [.int .i64 kg, .int .i64 ng, .string sg, .slice pg lg cg] X fpg) := GO_7.out.keep (KeepOn.below hb GO_7.out.lt)
    have BG_8 : Hid (Blk W8 W6.heap.size #[.int .i64 kg, .int .i64 ng, .string sg, .slice pg lg cg] 41) := BG_7.out.next hb
    clear TW_7 BW_7 XO_7 GO_7 BG_7
    clear hb
    go_wp2_with fail
    refine (toBindS_own d _ _ es (H0 _ B8.out) HWT.out).mono ?_
    rintro e W9 ⟨u, fpb, rfl, ro, ndb, rgb, hb⟩
    obtain ⟨pb, cb, hu, -⟩ := ro.shape
    subst hu
    have TB9 : Hid (Rows W9 All 5 (HBd W9 All d) (.slice pb es.length cb) es) := ro.binds (fun _ _ => trivial)
    clear ro ndb rgb
    have B9 : Hid (Below w.heap.size w W9) := B8.out.trans (hb.mono B8.out.size)
    have TW_9 : Hid (HVa W9 (fun a => a < W3.heap.size) (d + 1) [.int .i64 kw, .int .i64 nw, .string sw, .slice pw lw cw] X) := TW_8.out.mono (SameOn.of_below hb) (fun _ h => h)
    have BW_9 : Hid (Blk W9 W3.heap.size #[.int .i64 kw, .int .i64 nw, .string sw, .slice pw lw cw] 41) := BW_8.out.next hb
    have XO_9 : Hid (ORows W9 99 5 (OBd W9 d) (.slice px es.length cx) es fpx) := (fun hk => XO_8.out.keep hk (fun cs x f _ hs h => h.keep (hk.sub hs))) (KeepOn.below hb (XO_8.out.lt (fun _ _ _ h => h.lt)))
    have GO_9 : Hid (OVa W9 (d + 1) [.int .i64 kg, .int .i64 ng, .string sg, .slice pg lg cg] X fpg) := GO_8.out.keep (KeepOn.below hb GO_8.out.lt)
    have BG_9 : Hid (Blk W9 W6.heap.size #[.int .i64 kg, .int .i64 ng, .string sg, .slice pg lg cg] 41) := BG_8.out.next hb
    clear TW_8 BW_8 XO_8 GO_8 BG_8
    clear hb
    go_wp2_with fail
    refine (eqBindS_all d _ _ _ es (XO_9.out.binds (fun _ _ => trivial)) TB9.out).mono ?_
    rintro e W10 ⟨rfl, hb⟩
    clear TB9
    have B10 : Hid (Below w.heap.size w W10) := B9.out.trans (hb.mono B9.out.size)
    have TW_10 : Hid (HVa W10 (fun a => a < W3.heap.size) (d + 1) [.int .i64 kw, .int .i64 nw, .string sw, .slice pw lw cw] X) := TW_9.out.mono (SameOn.of_below hb) (fun _ h => h)
    have BW_10 : Hid (Blk W10 W3.heap.size #[.int .i64 kw, .int .i64 nw, .string sw, .slice pw lw cw] 41) := BW_9.out.next hb
    have XO_10 : Hid (ORows W10 99 5 (OBd W10 d) (.slice px es.length cx) es fpx) := (fun hk => XO_9.out.keep hk (fun cs x f _ hs h => h.keep (hk.sub hs))) (KeepOn.below hb (XO_9.out.lt (fun _ _ _ h => h.lt)))
    have GO_10 : Hid (OVa W10 (d + 1) [.int .i64 kg, .int .i64 ng, .string sg, .slice pg lg cg] X fpg) := GO_9.out.keep (KeepOn.below hb GO_9.out.lt)
    have BG_10 : Hid (Blk W10 W6.heap.size #[.int .i64 kg, .int .i64 ng, .string sg, .slice pg lg cg] 41) := BG_9.out.next hb
    clear TW_9 BW_9 XO_9 GO_9 BG_9
    clear hb
    go_wp2_with fail
    have hkx : 1 + (es.map (cntB d)).sum ≤ 1099511627776 := by have h1 := cntB_le d es; have h2 := HWT.out; omega
    refine (markBindS_any d _ _ es fpx 1 XO_10.out NX.out (by omega) hkx).mono ?_
    rintro e W11 ⟨rfl, -, hb⟩
    have HKX : Hid (1 + (es.map (cntB d)).sum ≤ 1099511627776) := hkx
    clear hkx
    generalize 1 + (es.map (cntB d)).sum = kx_ at *
    have LW : Hid (W3.heap.size < W4.heap.size) := by show _ < _; rw [HSZ4.out]; omega
    have LX : Hid (W4.heap.size ≤ W5.heap.size) := L45
    have LG : Hid (W5.heap.size ≤ W6.heap.size) := L56
    have B11 : Hid (Below w.heap.size w W11) := B10.out.trans (hb.below (fun a ha => by have h1 := GX.out a ha; have h2 := B4.out.size; omega) B10.out.size)
    have TW_11 : Hid (HVa W11 (fun a => a < W3.heap.size) (d + 1) [.int .i64 kw, .int .i64 nw, .string sw, .slice pw lw cw] X) := TW_10.out.mono ⟨hb.size, fun a hS hl => hb.block a hl (fun hm => by have h1 := GX.out a hm; have h2 := LW.out; have h3 : a < W3.heap.size := hS; omega)⟩ (fun _ h => h)
    have BW_11 : Hid (Blk W11 W3.heap.size #[.int .i64 kw, .int .i64 nw, .string sw, .slice pw lw cw] 41) := (hb.block _ BW_10.out.lt (fun hm => by have h1 := GX.out _ hm; have h2 := LW.out; omega)).trans BW_10.out
    have GO_11 : Hid (OVa W11 (d + 1) [.int .i64 kg, .int .i64 ng, .string sg, .slice pg lg cg] X fpg) := GO_10.out.keep (hb.keep (fun a ha => ⟨GO_10.out.lt a ha, fun hm => by have h1 := GX.out a hm; have h2 := GG.out a ha; omega⟩))
    have BG_11 : Hid (Blk W11 W6.heap.size #[.int .i64 kg, .int .i64 ng, .string sg, .slice pg lg cg] 41) := (hb.block _ BG_10.out.lt (fun hm => by have h1 := GX.out _ hm; have h2 := LG.out; omega)).trans BG_10.out
    clear TW_10 BW_10 XO_10 GO_10 BG_10
    clear hb
    have e0 := BG_11.out.cell 0 _ rfl
    have e1 := BG_11.out.cell 1 _ rfl
    have e2 := BG_11.out.cell 2 _ rfl
    have e3 := BG_11.out.cell 3 _ rfl
    have e4 := BW_11.out.cell 0 _ rfl
    have e5 := BW_11.out.cell 1 _ rfl
    have e6 := BW_11.out.cell 2 _ rfl
    have e7 := BW_11.out.cell 3 _ rfl
    have hkx2 := HKX.out
    go_wp2_with fail
    clear e0 e1 e2 e3 e4 e5 e6 e7
    refine (eqVal_all (d + 1) _ _ _ X ⟨_, rfl, GO_11.out.tree (fun _ _ => trivial)⟩ ⟨_, rfl, HVa.mono (SameOn.of_below (Below.refl _ _)) (fun _ _ => trivial) TW_11.out⟩).mono ?_
    rintro e W12 ⟨rfl, hb⟩
    have B12 : Hid (Below w.heap.size w W12) := B11.out.trans (hb.mono B11.out.size)
    have TW_12 : Hid (HVa W12 (fun a => a < W3.heap.size) (d + 1) [.int .i64 kw, .int .i64 nw, .string sw, .slice pw lw cw] X) := TW_11.out.mono (SameOn.of_below hb) (fun _ h => h)
    have BW_12 : Hid (Blk W12 W3.heap.size #[.int .i64 kw, .int .i64 nw, .string sw, .slice pw lw cw] 41) := BW_11.out.next hb
    have GO_12 : Hid (OVa W12 (d + 1) [.int .i64 kg, .int .i64 ng, .string sg, .slice pg lg cg] X fpg) := GO_11.out.keep (KeepOn.below hb GO_11.out.lt)
    have BG_12 : Hid (Blk W12 W6.heap.size #[.int .i64 kg, .int .i64 ng, .string sg, .slice pg lg cg] 41) := BG_11.out.next hb
    clear TW_11 BW_11 GO_11 BG_11
    clear hb
    have e0 := BG_12.out.cell 0 _ rfl
    have e1 := BG_12.out.cell 1 _ rfl
    have e2 := BG_12.out.cell 2 _ rfl
    have e3 := BG_12.out.cell 3 _ rfl
    go_wp2_with fail
    clear e0 e1 e2 e3
    have hgk := GO_12.out.kids
    have hkg : 1 + (X.kids.map (cntV d)).sum ≤ 1099511627776 := by have h1 := cntV_le d X.kids; have h2 := HWX.out; have h3 : wtVa (d + 1) X = X.text.size + wtS (wtVa d) X.kids := rfl; omega
    have HKG : Hid (1 + (X.kids.map (cntV d)).sum ≤ 1099511627776) := hkg
    refine (markVal_any d _ _ _ _ _ X.kids fpg 1 hgk NG.out (by omega) hkg).mono ?_
    rintro e W13 ⟨rfl, mg, hb⟩
    have MG_13 : Hid (ORows W13 41 4 (OVa W13 d) (.slice pg lg cg) (markL (markV d) (cntV d) 1 X.kids) fpg) := mg
    clear mg hgk hkg
    have B13 : Hid (Below w.heap.size w W13) := B12.out.trans (hb.below (fun a ha => by have h1 := GG.out a ha; have h2 := B5.out.size; omega) B12.out.size)
    have TW_13 : Hid (HVa W13 (fun a => a < W3.heap.size) (d + 1) [.int .i64 kw, .int .i64 nw, .string sw, .slice pw lw cw] X) := TW_12.out.mono ⟨hb.size, fun a hS hl => hb.block a hl (fun hm => by have h1 := GG.out a hm; have h2 := LW.out; have h3 := LX.out; have h4 : a < W3.heap.size := hS; omega)⟩ (fun _ h => h)
    have BW_13 : Hid (Blk W13 W3.heap.size #[.int .i64 kw, .int .i64 nw, .string sw, .slice pw lw cw] 41) := (hb.block _ BW_12.out.lt (fun hm => by have h1 := GG.out _ hm; have h2 := LW.out; have h3 := LX.out; omega)).trans BW_12.out
    have BG_13 : Hid (Blk W13 W6.heap.size #[.int .i64 kg, .int .i64 ng, .string sg, .slice pg lg cg] 41) := (hb.block _ BG_12.out.lt (fun hm => by have h1 := GG.out _ hm; omega)).trans BG_12.out
    clear TW_12 BW_12 GO_12 BG_12
    clear hb
    have hkg2 := HKG.out
    generalize hkz : 1 + (X.kids.map (cntV d)).sum = kz at *
    have HKZ : Hid (1 + (X.kids.map (cntV d)).sum = kz) := hkz
    clear hkz
    have e0 := BG_13.out.cell 0 _ rfl
    have e1 := BG_13.out.cell 1 _ rfl
    have e2 := BG_13.out.cell 2 _ rfl
    have e3 := BG_13.out.cell 3 _ rfl
    go_wp2_with fail
    clear e0 e1 e2 e3
    refine (heldVal_any d _ _ _ _ _ X.kids 1 (MG_13.out.tree (fun _ _ => trivial)) (by omega) (by rw [HKZ.out]; exact HKG.out)).mono ?_
    rintro e W14 ⟨rfl, hb⟩
    rw [HKZ.out]
    have B14 : Hid (Below w.heap.size w W14) := B13.out.trans (hb.mono B13.out.size)
    have TW_14 : Hid (HVa W14 (fun a => a < W3.heap.size) (d + 1) [.int .i64 kw, .int .i64 nw, .string sw, .slice pw lw cw] X) := TW_13.out.mono (SameOn.of_below hb) (fun _ h => h)
    have BW_14 : Hid (Blk W14 W3.heap.size #[.int .i64 kw, .int .i64 nw, .string sw, .slice pw lw cw] 41) := BW_13.out.next hb
    have BG_14 : Hid (Blk W14 W6.heap.size #[.int .i64 kg, .int .i64 ng, .string sg, .slice pg lg cg] 41) := BG_13.out.next hb
    have MG_14 : Hid (ORows W14 41 4 (OVa W14 d) (.slice pg lg cg) (markL (markV d) (cntV d) 1 X.kids) fpg) := (fun hk => MG_13.out.keep hk (fun cs x f _ hs h => h.keep (hk.sub hs))) (KeepOn.below hb (MG_13.out.lt (fun _ _ _ h => h.lt)))
    clear TW_13 BW_13 BG_13 MG_13
    clear hb
    go_wp2_with fail
    refine (toBindS_own d _ _ es (H0 _ B14.out) HWT.out).mono ?_
    rintro e W15 ⟨u, fpc, rfl, ro, -, -, hb⟩
    obtain ⟨pc, cc, hu, -⟩ := ro.shape
    subst hu
    have TC : Hid (Rows W15 All 5 (HBd W15 All d) (.slice pc es.length cc) es) := ro.binds (fun _ _ => trivial)
    clear ro
    have B15 : Hid (Below w.heap.size w W15) := B14.out.trans (hb.mono B14.out.size)
    have TW_15 : Hid (HVa W15 (fun a => a < W3.heap.size) (d + 1) [.int .i64 kw, .int .i64 nw, .string sw, .slice pw lw cw] X) := TW_14.out.mono (SameOn.of_below hb) (fun _ h => h)
    have BW_15 : Hid (Blk W15 W3.heap.size #[.int .i64 kw, .int .i64 nw, .string sw, .slice pw lw cw] 41) := BW_14.out.next hb
    have BG_15 : Hid (Blk W15 W6.heap.size #[.int .i64 kg, .int .i64 ng, .string sg, .slice pg lg cg] 41) := BG_14.out.next hb
    have MG_15 : Hid (ORows W15 41 4 (OVa W15 d) (.slice pg lg cg) (markL (markV d) (cntV d) 1 X.kids) fpg) := (fun hk => MG_14.out.keep hk (fun cs x f _ hs h => h.keep (hk.sub hs))) (KeepOn.below hb (MG_14.out.lt (fun _ _ _ h => h.lt)))
    clear TW_14 BW_14 BG_14 MG_14
    clear hb
    go_wp2_with fail
    refine (IL.out _ _ TC.out).mono ?_
    rintro e W16 ⟨cs, fph, rfl, oh, -, -, hb⟩
    obtain ⟨kh, nh, sh, ph, lh, ch, hsh⟩ := oh.shape
    subst hsh
    have HO_16 : Hid (OVa W16 (d + 1) [.int .i64 kh, .int .i64 nh, .string sh, .slice ph lh ch] X fph) := oh
    clear oh TC
    have B16 : Hid (Below w.heap.size w W16) := B15.out.trans (hb.mono B15.out.size)
    have TW_16 : Hid (HVa W16 (fun a => a < W3.heap.size) (d + 1) [.int .i64 kw, .int .i64 nw, .string sw, .slice pw lw cw] X) := TW_15.out.mono (SameOn.of_below hb) (fun _ h => h)
    have BW_16 : Hid (Blk W16 W3.heap.size #[.int .i64 kw, .int .i64 nw, .string sw, .slice pw lw cw] 41) := BW_15.out.next hb
    have BG_16 : Hid (Blk W16 W6.heap.size #[.int .i64 kg, .int .i64 ng, .string sg, .slice pg lg cg] 41) := BG_15.out.next hb
    have MG_16 : Hid (ORows W16 41 4 (OVa W16 d) (.slice pg lg cg) (markL (markV d) (cntV d) 1 X.kids) fpg) := (fun hk => MG_15.out.keep hk (fun cs x f _ hs h => h.keep (hk.sub hs))) (KeepOn.below hb (MG_15.out.lt (fun _ _ _ h => h.lt)))
    clear TW_15 BW_15 BG_15 MG_15
    clear hb
    obtain ⟨W17, hW⟩ : ∃ W, W = (W16.alloc (.cells #[.int .i64 kh, .int .i64 nh, .string sh, .slice ph lh ch] 41)) := ⟨_, rfl⟩
    have hb : Below W16.heap.size W16 W17 := by rw [hW]; exact (Below.refl _ _).alloc (Nat.le_refl _) _
    have BH_17 : Hid (Blk W17 W16.heap.size #[.int .i64 kh, .int .i64 nh, .string sh, .slice ph lh ch] 41) := by
      show Blk _ _ _ _
      rw [hW]; exact Blk.new
    have HSZ17 : Hid (W17.heap.size = W16.heap.size + 1) := by
      show _ = _
      rw [hW]; simp only [alloc_hs]
    have HW17 : Hid (W17 = (W16.alloc (.cells #[.int .i64 kh, .int .i64 nh, .string sh, .slice ph lh ch] 41))) := hW
    have B17 : Hid (Below w.heap.size w W17) := B16.out.trans (hb.mono B16.out.size)
    have TW_17 : Hid (HVa W17 (fun a => a < W3.heap.size) (d + 1) [.int .i64 kw, .int .i64 nw, .string sw, .slice pw lw cw] X) := TW_16.out.mono (SameOn.of_below hb) (fun _ h => h)
    have BW_17 : Hid (Blk W17 W3.heap.size #[.int .i64 kw, .int .i64 nw, .string sw, .slice pw lw cw] 41) := BW_16.out.next hb
    have BG_17 : Hid (Blk W17 W6.heap.size #[.int .i64 kg, .int .i64 ng, .string sg, .slice pg lg cg] 41) := BG_16.out.next hb
    have MG_17 : Hid (ORows W17 41 4 (OVa W17 d) (.slice pg lg cg) (markL (markV d) (cntV d) 1 X.kids) fpg) := (fun hk => MG_16.out.keep hk (fun cs x f _ hs h => h.keep (hk.sub hs))) (KeepOn.below hb (MG_16.out.lt (fun _ _ _ h => h.lt)))
    have HO_17 : Hid (OVa W17 (d + 1) [.int .i64 kh, .int .i64 nh, .string sh, .slice ph lh ch] X fph) := HO_16.out.keep (KeepOn.below hb HO_16.out.lt)
    clear TW_16 BW_16 BG_16 MG_16 HO_16
    clear hb
    have e0 := BH_17.out.cell 0 _ rfl
    have e1 := BH_17.out.cell 1 _ rfl
    have e2 := BH_17.out.cell 2 _ rfl
    have e3 := BH_17.out.cell 3 _ rfl
    have e4 := BW_17.out.cell 0 _ rfl
    have e5 := BW_17.out.cell 1 _ rfl
    have e6 := BW_17.out.cell 2 _ rfl
    have e7 := BW_17.out.cell 3 _ rfl
    rw [HW17.out] at e0 e1 e2 e3 e4 e5 e6 e7
    go_wp2_with fail
    rw [← HW17.out]
    clear e0 e1 e2 e3 e4 e5 e6 e7
    refine (eqVal_all (d + 1) _ _ _ X ⟨_, rfl, HO_17.out.tree (fun _ _ => trivial)⟩ ⟨_, rfl, HVa.mono (SameOn.of_below (Below.refl _ _)) (fun _ _ => trivial) TW_17.out⟩).mono ?_
    rintro e W18 ⟨rfl, hb⟩
    have B18 : Hid (Below w.heap.size w W18) := B17.out.trans (hb.mono B17.out.size)
    have TW_18 : Hid (HVa W18 (fun a => a < W3.heap.size) (d + 1) [.int .i64 kw, .int .i64 nw, .string sw, .slice pw lw cw] X) := TW_17.out.mono (SameOn.of_below hb) (fun _ h => h)
    have BW_18 : Hid (Blk W18 W3.heap.size #[.int .i64 kw, .int .i64 nw, .string sw, .slice pw lw cw] 41) := BW_17.out.next hb
    have BG_18 : Hid (Blk W18 W6.heap.size #[.int .i64 kg, .int .i64 ng, .string sg, .slice pg lg cg] 41) := BG_17.out.next hb
    have MG_18 : Hid (ORows W18 41 4 (OVa W18 d) (.slice pg lg cg) (markL (markV d) (cntV d) 1 X.kids) fpg) := (fun hk => MG_17.out.keep hk (fun cs x f _ hs h => h.keep (hk.sub hs))) (KeepOn.below hb (MG_17.out.lt (fun _ _ _ h => h.lt)))
    have HO_18 : Hid (OVa W18 (d + 1) [.int .i64 kh, .int .i64 nh, .string sh, .slice ph lh ch] X fph) := HO_17.out.keep (KeepOn.below hb HO_17.out.lt)
    have BH_18 : Hid (Blk W18 W16.heap.size #[.int .i64 kh, .int .i64 nh, .string sh, .slice ph lh ch] 41) := BH_17.out.next hb
    clear TW_17 BW_17 BG_17 MG_17 HO_17 BH_17
    clear hb
    have e0 := BG_18.out.cell 0 _ rfl
    have e1 := BG_18.out.cell 1 _ rfl
    have e2 := BG_18.out.cell 2 _ rfl
    have e3 := BG_18.out.cell 3 _ rfl
    go_wp2_with fail
    clear e0 e1 e2 e3
    refine (heldVal_any d _ _ _ _ _ X.kids 1 (MG_18.out.tree (fun _ _ => trivial)) (by omega) (by rw [HKZ.out]; exact HKG.out)).mono ?_
    rintro e W19 ⟨rfl, hb⟩
    rw [HKZ.out]
    have B19 : Hid (Below w.heap.size w W19) := B18.out.trans (hb.mono B18.out.size)
    have TW_19 : Hid (HVa W19 (fun a => a < W3.heap.size) (d + 1) [.int .i64 kw, .int .i64 nw, .string sw, .slice pw lw cw] X) := TW_18.out.mono (SameOn.of_below hb) (fun _ h => h)
    have BW_19 : Hid (Blk W19 W3.heap.size #[.int .i64 kw, .int .i64 nw, .string sw, .slice pw lw cw] 41) := BW_18.out.next hb
    have BG_19 : Hid (Blk W19 W6.heap.size #[.int .i64 kg, .int .i64 ng, .string sg, .slice pg lg cg] 41) := BG_18.out.next hb
    have MG_19 : Hid (ORows W19 41 4 (OVa W19 d) (.slice pg lg cg) (markL (markV d) (cntV d) 1 X.kids) fpg) := (fun hk => MG_18.out.keep hk (fun cs x f _ hs h => h.keep (hk.sub hs))) (KeepOn.below hb (MG_18.out.lt (fun _ _ _ h => h.lt)))
    have HO_19 : Hid (OVa W19 (d + 1) [.int .i64 kh, .int .i64 nh, .string sh, .slice ph lh ch] X fph) := HO_18.out.keep (KeepOn.below hb HO_18.out.lt)
    have BH_19 : Hid (Blk W19 W16.heap.size #[.int .i64 kh, .int .i64 nh, .string sh, .slice ph lh ch] 41) := BH_18.out.next hb
    clear TW_18 BW_18 BG_18 MG_18 HO_18 BH_18
    clear hb
    go_wp2_with fail
    go_ret
    exact ⟨rfl, B19.out⟩
  · go_enter Try.func6, Try.ntmps6
    go_wp2
    go_ret
    exact ⟨rfl, Below.refl _ _⟩
end Go.Proofs.Ytkcajmkagbgfnaa
