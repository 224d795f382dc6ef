/-
  The laws' markVal and heldVal, of one value. (Split from LookWalk: a seat without the laws' sizes.)
-/
import Derived.Test.YtafehfpjogbmfaaDoorValMark
namespace Go.Proofs.YtafehfpjogbmfaaDoor
open Go.ChangeShapes Go.WideShapes Go.ChangeAt Go.RowKit
set_option linter.unusedVariables false

theorem OVa.kids {w : World} {d : Nat} {a b : Int} {c : ByteArray} {v : Value} {x : Va} {fp : List Nat} (h : OVa w (d + 1) [.int .i64 a, .int .i64 b, .string c, v] x fp) : ORows w 24 4 (OVa w d) v x.kids fp := by
  obtain ⟨kv, h, -, -, -, hr⟩ := h
  simp only [List.cons.injEq, and_true] at h
  obtain ⟨-, -, -, rfl⟩ := h
  exact hr
set_option maxHeartbeats 4000000 in
theorem markVal_any (d : Nat) (w : World) (k0 n0 : Int) (t0 : ByteArray) (kv : Value) (es : List Va) (fp : List Nat) (k : Nat) (h : ORows w 24 4 (OVa w d) kv es fp) (hnd : fp.Nodup) (hk1 : 1 ≤ k) (hkb : k + (es.map (cntV d)).sum ≤ 1099511627776) :
    Calls Tryd.prog 7 #[.agg #[.int .i64 k0, .int .i64 n0, .string t0, kv], .int .i64 k] w fun e w' => e = .returned (.int .i64 ((k + (es.map (cntV d)).sum : Nat) : Int)) ∧ ORows w' 24 4 (OVa w' d) kv (markL (markV d) (cntV d) k es) fp ∧ Off fp w w' := by
  have HAL : Hid (Below w.heap.size w (w.alloc (.cells #[.int .i64 k0, .int .i64 n0, .string t0, kv] 24))) := (Below.refl _ _).alloc (Nat.le_refl _) _
  have hk := KeepOn.below HAL.out (h.lt (fun _ _ _ h => h.lt))
  have HR : Hid (ORows (w.alloc (.cells #[.int .i64 k0, .int .i64 n0, .string t0, kv] 24)) 24 4 (OVa (w.alloc (.cells #[.int .i64 k0, .int .i64 n0, .string t0, kv] 24)) d) kv es fp) := h.keep hk (fun cs x f _ hs h => h.keep (hk.sub hs))
  have HND : Hid fp.Nodup := hnd
  have HKB : Hid (k + (es.map (cntV d)).sum ≤ 1099511627776) := hkb
  obtain ⟨p, cap, hv, -⟩ := h.shape
  subst hv
  clear h hk hnd hkb
  go_enter Tryd.func7, Tryd.ntmps7
  go_wp2_with fail
  refine (markS_all d _ _ es fp k HR.out HND.out hk1 HKB.out).mono ?_
  rintro e w1 ⟨rfl, r1, o1⟩
  have R1 : Hid (ORows w1 24 4 (OVa w1 d) (.slice p es.length cap) (markL (markV d) (cntV d) k es) fp) := r1
  have O1 : Hid (Off fp w w1) := (Off.of_below HAL.out).trans o1
  clear r1 o1
  generalize hkz : k + (es.map (cntV d)).sum = kz at *
  have HKZ : Hid (k + (es.map (cntV d)).sum = kz) := hkz
  clear hkz
  go_wp2_with fail
  go_ret
  exact ⟨by rw [HKZ.out]; rfl, R1.out, O1.out⟩

set_option maxHeartbeats 4000000 in
theorem heldVal_any (d : Nat) (w : World) (k0 n0 : Int) (t0 : ByteArray) (kv : Value) (es : List Va) (k : Nat) (h : Rows w All 4 (HVa w All d) kv (markL (markV d) (cntV d) k es)) (hk1 : 1 ≤ k) (hkb : k + (es.map (cntV d)).sum ≤ 1099511627776) :
    Calls Tryd.prog 8 #[.agg #[.int .i64 k0, .int .i64 n0, .string t0, kv], .int .i64 k] w fun e w' => e = .returned (.int .i64 ((k + (es.map (cntV d)).sum : Nat) : Int)) ∧ Below w.heap.size w w' := by
  have HAL : Hid (Below w.heap.size w (w.alloc (.cells #[.int .i64 k0, .int .i64 n0, .string t0, kv] 24))) := (Below.refl _ _).alloc (Nat.le_refl _) _
  have HR : Hid (Rows (w.alloc (.cells #[.int .i64 k0, .int .i64 n0, .string t0, kv] 24)) All 4 (HVa (w.alloc (.cells #[.int .i64 k0, .int .i64 n0, .string t0, kv] 24)) All d) kv (markL (markV d) (cntV d) k es)) := h.mono (SameOn.of_below HAL.out) (fun _ h => h) (fun _ _ _ h => h.mono (SameOn.of_below HAL.out) (fun _ h => h))
  have HKB : Hid (k + (es.map (cntV d)).sum ≤ 1099511627776) := hkb
  obtain ⟨p, cap, hv, -⟩ := id h
  subst hv
  clear h hkb
  go_enter Tryd.func8, Tryd.ntmps8
  go_wp2_with fail
  refine (heldS_all d _ _ es k HR.out hk1 HKB.out).mono ?_
  rintro e w1 ⟨rfl, hb⟩
  have HB1 : Hid (Below w.heap.size w w1) := HAL.out.trans (hb.mono HAL.out.size)
  have hkb2 := HKB.out
  clear hb
  generalize hkz : k + (es.map (cntV d)).sum = kz at *
  have HKZ : Hid (k + (es.map (cntV d)).sum = kz) := hkz
  clear hkz
  go_wp2_with fail
  go_ret
  exact ⟨by rw [HKZ.out]; rfl, HB1.out⟩

end Go.Proofs.YtafehfpjogbmfaaDoor
