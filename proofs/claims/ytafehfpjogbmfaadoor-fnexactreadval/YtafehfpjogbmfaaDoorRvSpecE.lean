/-
  The specification's ReadVal, by contract. (Written by tools/mkrve.py.)
-/
import Derived.Test.YtafehfpjogbmfaaDoorRvSpecD
import Derived.Test.YtafehfpjogbmfaaDoorValOkSpec
namespace Go.Proofs.YtafehfpjogbmfaaDoor
open Go.ChangeShapes Go.WideShapes Go.ChangeAt Go.RowKit
set_option linter.unusedVariables false
set_option linter.unusedSimpArgs false
set_option maxRecDepth 100000

/-- What ReadVal answers. -/
noncomputable def rdV (l : List UInt8) : Va × Bool :=
  if (rvV l 61 0).2 = (l.length : Int) ∧ vaOk (SizeOf.sizeOf (rvV l 61 0).1) (rvV l 61 0).1 200 = true then ((rvV l 61 0).1, true) else (va0, false)
/-- An answer of ReadVal. -/
def RdGot (w : World) (x : Va × Bool) (e : Ending) (w' : World) : Prop := ∃ cs fp, e = .returned (.tuple #[.agg cs.toArray, .bool x.2]) ∧ OVT w' cs x.1 fp ∧ fp.Nodup ∧ (∀ a ∈ fp, w.heap.size ≤ a ∧ a < w'.heap.size) ∧ Below w.heap.size w w'
set_option maxHeartbeats 4000000 in
theorem specReadVal_any {s : ByteArray} (hs : s.size ≤ 1048576) (w : World) : Calls Tryd.prog 4 #[.string s] w (RdGot w (rdV s.data.toList)) := by
  have HLL : Hid (s.data.toList.length = s.size) := by show _ = _; simp
  obtain ⟨w1, hw1⟩ : ∃ w1, w1 = w.alloc (.cells #[.int .i64 0, .int .i64 0, .string ⟨#[]⟩, .slice none 0 0] 24) := ⟨_, rfl⟩
  have R1 : Hid (Blk w1 w.heap.size #[.int .i64 0, .int .i64 0, .string ⟨#[]⟩, .slice none 0 0] 24) := by show Blk _ _ _ _; rw [hw1]; exact Blk.new
  have B1 : Hid (Below w.heap.size w w1) := by show Below _ _ _; rw [hw1]; exact (Below.refl _ _).alloc (Nat.le_refl _) _
  have S1 : w.heap.size + 1 ≤ w1.heap.size := by rw [hw1, alloc_hs]; exact Nat.le_refl _
  have HW1 : Hid (w1 = w.alloc (.cells #[.int .i64 0, .int .i64 0, .string ⟨#[]⟩, .slice none 0 0] 24)) := hw1
  clear hw1
  obtain ⟨x, zz, HV⟩ : ∃ x zz, Hid (rvV s.data.toList 61 0 = (x, zz)) := ⟨_, _, rfl⟩
  have hvc := val_all hs 61 (by omega) w1 0 _ (Nat.zero_le _) rfl
  rw [HV.out] at hvc
  have HVC : Hid (Calls Tryd.prog 9 #[.string s, .int .i64 0, .int .i64 60] w1 (RvGot w1 (x, zz))) := hvc
  have HRD : Hid (rdV s.data.toList = if zz = (s.size : Int) ∧ vaOk (SizeOf.sizeOf x) x 200 = true then (x, true) else (va0, false)) := by
    show _ = _
    unfold rdV
    rw [HV.out, HLL.out]
  clear hvc
  go_enter Tryd.func4, Tryd.ntmps4
  go_wp2_with (rw [← HW1.out])
  refine HVC.out.mono ?_
  rintro e w2 ⟨cs, Xf, rfl, hx, hnd, hrg, hb⟩
  obtain ⟨Xk, Xn, Xt, Xp, Xa, Xb, rfl⟩ := hx.shape
  simp only at hx
  obtain ⟨w3, hw2⟩ : ∃ wk, wk = w2.alloc (.cells #[.int .i64 Xk, .int .i64 Xn, .string Xt, .slice Xp Xa Xb] 24) := ⟨_, rfl⟩
  have hba : Below w2.heap.size w2 w3 := by rw [hw2]; exact (Below.refl _ _).alloc (Nat.le_refl _) _
  have hb2 : Below w1.heap.size w1 w3 := hb.trans (hba.mono hb.size)
  have Sw2 : w1.heap.size ≤ w2.heap.size := hb.size
  have Sw3 : w2.heap.size + 1 ≤ w3.heap.size := by rw [hw2, alloc_hs]; exact Nat.le_refl _
  have X_nd : Hid Xf.Nodup := hnd
  have X_rg : Hid (∀ a ∈ Xf, w1.heap.size ≤ a ∧ a < w2.heap.size) := hrg
  have X3 : Hid (OVT w3 [.int .i64 Xk, .int .i64 Xn, .string Xt, .slice Xp Xa Xb] x Xf) := OVT.keeps _ _ _ _ _ hx (KeepOn.below hba (fun a ha => (hrg a ha).2))
  have QX3 : Hid (Blk w3 w2.heap.size #[.int .i64 Xk, .int .i64 Xn, .string Xt, .slice Xp Xa Xb] 24) := by show Blk _ _ _ _; rw [hw2]; exact Blk.new
  have HW3 : Hid (w3 = w2.alloc (.cells #[.int .i64 Xk, .int .i64 Xn, .string Xt, .slice Xp Xa Xb] 24)) := hw2
  have R3 : Hid (Blk w3 w.heap.size #[.int .i64 0, .int .i64 0, .string ⟨#[]⟩, .slice none 0 0] 24) := R1.out.next hb2
  have B3 : Hid (Below w.heap.size w w3) := B1.out.trans (hb2.mono (by omega))
  clear hx hnd hrg hb hba hb2 hw2
  clear R1 B1 HVC
  go_upto_region 2 with fail
  rw [← HW3.out]
  by_cases hz : zz = (s.size : Int)
  · have h0 : (zz != (s.size : Int)) = false := by simp; exact hz
    have OKC : Hid (Calls Tryd.prog 10 #[.agg #[.int .i64 Xk, .int .i64 Xn, .string Xt, .slice Xp Xa Xb]] w3 fun e w' => e = .returned (.bool (vaOk (SizeOf.sizeOf x) x 200)) ∧ Below w3.heap.size w3 w') := specValOk_any _ _ _ _ (X3.out.fit.tree (fun _ _ => trivial))
    have v0 : w3.cell? ⟨w2.heap.size, 0, none⟩ = some (.int .i64 Xk) := QX3.out.cell 0 _ rfl
    have v1 : w3.cell? ⟨w2.heap.size, 1, none⟩ = some (.int .i64 Xn) := QX3.out.cell 1 _ rfl
    have v2 : w3.cell? ⟨w2.heap.size, 2, none⟩ = some (.string Xt) := QX3.out.cell 2 _ rfl
    have v3 : w3.cell? ⟨w2.heap.size, 3, none⟩ = some (.slice Xp Xa Xb) := QX3.out.cell 3 _ rfl
    have HZ : Hid (zz = (s.size : Int)) := hz
    clear hz
    go_wp2_with fail
    refine OKC.out.mono ?_
    rintro e w4 ⟨rfl, hb⟩
    have S4 : w3.heap.size ≤ w4.heap.size := hb.size
    have R4 : Hid (Blk w4 w.heap.size #[.int .i64 0, .int .i64 0, .string ⟨#[]⟩, .slice none 0 0] 24) := R3.out.next hb
    have B4 : Hid (Below w.heap.size w w4) := B3.out.trans (hb.mono (by omega))
    have X4 : Hid (OVT w4 [.int .i64 Xk, .int .i64 Xn, .string Xt, .slice Xp Xa Xb] x Xf) := OVT.keeps _ _ _ _ _ X3.out (KeepOn.below hb X3.out.lt)
    have Q4 : Hid (Blk w4 w2.heap.size #[.int .i64 Xk, .int .i64 Xn, .string Xt, .slice Xp Xa Xb] 24) := QX3.out.next hb
    clear hb R3 B3 X3 QX3 v0 v1 v2 v3 OKC
    cases hok : vaOk (SizeOf.sizeOf x) x 200 with
    | true =>
      have HR : Hid (rdV s.data.toList = (x, true)) := by show _ = _; rw [HRD.out, if_pos ⟨HZ.out, hok⟩]
      have v0 : w4.cell? ⟨w2.heap.size, 0, none⟩ = some (.int .i64 Xk) := Q4.out.cell 0 _ rfl
      have v1 : w4.cell? ⟨w2.heap.size, 1, none⟩ = some (.int .i64 Xn) := Q4.out.cell 1 _ rfl
      have v2 : w4.cell? ⟨w2.heap.size, 2, none⟩ = some (.string Xt) := Q4.out.cell 2 _ rfl
      have v3 : w4.cell? ⟨w2.heap.size, 3, none⟩ = some (.slice Xp Xa Xb) := Q4.out.cell 3 _ rfl
      have r0 : w4.cell? ⟨w.heap.size, 0, none⟩ = some (.int .i64 0) := R4.out.cell 0 _ rfl
      have rz0 := R4.out.frozen 0
      have r1 : w4.cell? ⟨w.heap.size, 1, none⟩ = some (.int .i64 0) := R4.out.cell 1 _ rfl
      have rz1 := R4.out.frozen 1
      have r2 : w4.cell? ⟨w.heap.size, 2, none⟩ = some (.string ⟨#[]⟩) := R4.out.cell 2 _ rfl
      have rz2 := R4.out.frozen 2
      have r3 : w4.cell? ⟨w.heap.size, 3, none⟩ = some (.slice none 0 0) := R4.out.cell 3 _ rfl
      have rz3 := R4.out.frozen 3
      go_wp2_with fail
      have hon := st4_only (b := w.heap.size) (w := w4) (c0 := .int .i64 Xk) (c1 := .int .i64 Xn) (c2 := .string Xt) (c3 := .slice Xp Xa Xb)
      have hbk := st4_blk R4.out (.int .i64 Xk) (.int .i64 Xn) (.string Xt) (.slice Xp Xa Xb)
      have q0 := hbk.cell 0 _ rfl
      have q1 := hbk.cell 1 _ rfl
      have q2 := hbk.cell 2 _ rfl
      have q3 := hbk.cell 3 _ rfl
      refine bodyPost_ret (v := .tuple #[.agg #[.int .i64 Xk, .int .i64 Xn, .string Xt, .slice Xp Xa Xb], .bool true]) (by simp [results, Tryd.results4, go_sem, q0, q1, q2, q3]) rfl ?_
      rw [HR.out]
      exact ⟨_, Xf, rfl, OVT.keeps _ _ _ _ _ (X4.out) (hon.keep (fun ha => by have := X_rg.out _ ha; omega)), X_nd.out, fun a ha => by have := X_rg.out a ha; have := hon.size; omega, belowOnly B4.out hon (Nat.le_refl _)⟩
    | false =>
      have HR : Hid (rdV s.data.toList = (va0, false)) := by
        show _ = _
        rw [HRD.out, if_neg (fun h => by rw [hok] at h; cases h.2)]
      have r0 : w4.cell? ⟨w.heap.size, 0, none⟩ = some (.int .i64 0) := R4.out.cell 0 _ rfl
      have rz0 := R4.out.frozen 0
      have r1 : w4.cell? ⟨w.heap.size, 1, none⟩ = some (.int .i64 0) := R4.out.cell 1 _ rfl
      have rz1 := R4.out.frozen 1
      have r2 : w4.cell? ⟨w.heap.size, 2, none⟩ = some (.string ⟨#[]⟩) := R4.out.cell 2 _ rfl
      have rz2 := R4.out.frozen 2
      have r3 : w4.cell? ⟨w.heap.size, 3, none⟩ = some (.slice none 0 0) := R4.out.cell 3 _ rfl
      have rz3 := R4.out.frozen 3
      go_wp2_with fail
      have hon := st4_only (b := w.heap.size) (w := w4) (c0 := .int .i64 0) (c1 := .int .i64 0) (c2 := .string ⟨#[]⟩) (c3 := .slice none 0 0)
      have hbk := st4_blk R4.out (.int .i64 0) (.int .i64 0) (.string ⟨#[]⟩) (.slice none 0 0)
      have q0 := hbk.cell 0 _ rfl
      have q1 := hbk.cell 1 _ rfl
      have q2 := hbk.cell 2 _ rfl
      have q3 := hbk.cell 3 _ rfl
      refine bodyPost_ret (v := .tuple #[.agg #[.int .i64 0, .int .i64 0, .string ⟨#[]⟩, .slice none 0 0], .bool false]) (by simp [results, Tryd.results4, go_sem, q0, q1, q2, q3]) rfl ?_
      rw [HR.out]
      exact ⟨_, [], rfl, OVT.keeps _ _ _ _ _ (OVT.leaf okI0 okI0 okSe) (hon.keep (by simp)), List.nodup_nil, fun a ha => by simp at ha, belowOnly B4.out hon (Nat.le_refl _)⟩
  · have h0 : (zz != (s.size : Int)) = true := by simp; exact hz
    have HR : Hid (rdV s.data.toList = (va0, false)) := by
      show _ = _
      rw [HRD.out, if_neg (fun h => hz h.1)]
    have r0 : w3.cell? ⟨w.heap.size, 0, none⟩ = some (.int .i64 0) := R3.out.cell 0 _ rfl
    have rz0 := R3.out.frozen 0
    have r1 : w3.cell? ⟨w.heap.size, 1, none⟩ = some (.int .i64 0) := R3.out.cell 1 _ rfl
    have rz1 := R3.out.frozen 1
    have r2 : w3.cell? ⟨w.heap.size, 2, none⟩ = some (.string ⟨#[]⟩) := R3.out.cell 2 _ rfl
    have rz2 := R3.out.frozen 2
    have r3 : w3.cell? ⟨w.heap.size, 3, none⟩ = some (.slice none 0 0) := R3.out.cell 3 _ rfl
    have rz3 := R3.out.frozen 3
    go_wp2_with fail
    have hon := st4_only (b := w.heap.size) (w := w3) (c0 := .int .i64 0) (c1 := .int .i64 0) (c2 := .string ⟨#[]⟩) (c3 := .slice none 0 0)
    have hbk := st4_blk R3.out (.int .i64 0) (.int .i64 0) (.string ⟨#[]⟩) (.slice none 0 0)
    have q0 := hbk.cell 0 _ rfl
    have q1 := hbk.cell 1 _ rfl
    have q2 := hbk.cell 2 _ rfl
    have q3 := hbk.cell 3 _ rfl
    refine bodyPost_ret (v := .tuple #[.agg #[.int .i64 0, .int .i64 0, .string ⟨#[]⟩, .slice none 0 0], .bool false]) (by simp [results, Tryd.results4, go_sem, q0, q1, q2, q3]) rfl ?_
    rw [HR.out]
    exact ⟨_, [], rfl, OVT.keeps _ _ _ _ _ (OVT.leaf okI0 okI0 okSe) (hon.keep (by simp)), List.nodup_nil, fun a ha => by simp at ha, belowOnly B3.out hon (Nat.le_refl _)⟩
end Go.Proofs.YtafehfpjogbmfaaDoor
