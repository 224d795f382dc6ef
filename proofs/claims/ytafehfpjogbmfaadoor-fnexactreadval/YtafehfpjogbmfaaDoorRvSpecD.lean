/-
  The specification's reader of values, by contract: a value. (Written by tools/mkrvd.py.)
-/
import Derived.Test.YtafehfpjogbmfaaDoorRvSpecC
import Derived.Deep.DeepCutAuto
namespace Go.Proofs.YtafehfpjogbmfaaDoor
open Go.ChangeShapes Go.WideShapes Go.ChangeAt Go.RowKit
set_option linter.unusedVariables false
set_option linter.unusedSimpArgs false
set_option maxRecDepth 100000

theorem extract_cutV (s : ByteArray) (i k : Nat) : (s.extract i k).data.toList = cut s.data.toList i k := by
  unfold cut
  simp [ByteArray.data_extract, Array.toList_extract, List.extract_eq_take_drop]
theorem okI_mid {n : Int} (h0 : -1000000000 ≤ n) (h1 : n ≤ 1000000000) : okI n := by
  show (Lit.int .i64 n).wf = true
  simp only [Lit.wf, Bool.and_eq_true, decide_eq_true_eq]
  exact ⟨Int.le_trans (by decide) h0, Int.le_trans h1 (by decide)⟩
theorem plainV_leaf (l : List UInt8) : ∃ a b t, (plainV l).1 = .mk a b t [] := by
  unfold plainV
  by_cases h1 : atomB (byteArr l) = true
  · rw [if_pos h1]; exact ⟨_, _, _, rfl⟩
  · rw [if_neg h1]
    by_cases h2 : allDig (l.drop (minN l)) = false ∨ (minN l < l.length ∧ 10 < l.length)
    · rw [if_pos h2]; exact ⟨_, _, _, rfl⟩
    · rw [if_neg h2]; exact ⟨_, _, _, rfl⟩
theorem plainV_ok {l : List UInt8} (hl : l.length ≤ maxLen) (h : (plainV l).2 = true) : okI (plainV l).1.kind ∧ okI (plainV l).1.n ∧ okS (plainV l).1.text := by
  unfold plainV at h ⊢
  by_cases h1 : atomB (byteArr l) = true
  · rw [if_pos h1] at h ⊢
    exact ⟨okI_mid (by show _ ≤ (1 : Int); omega) (by show (1 : Int) ≤ _; omega), okI0, by show (byteArr l).size ≤ maxLen; unfold byteArr; show l.toArray.size ≤ maxLen; simpa using hl⟩
  · rw [if_neg h1] at h ⊢
    by_cases h2 : allDig (l.drop (minN l)) = false ∨ (minN l < l.length ∧ 10 < l.length)
    · rw [if_pos h2] at h; cases h
    · rw [if_neg h2] at h ⊢
      refine ⟨okI0, ?_, okSe⟩
      simp only [Bool.and_eq_true] at h
      have hb := h.2.2
      unfold inB at hb
      simp only [Bool.and_eq_true, decide_eq_true_eq, ge_iff_le] at hb
      exact okI_mid (by show _ ≤ numV l; omega) (by show numV l ≤ _; omega)
theorem val_zero {s : ByteArray} (hs : s.size ≤ 1048576) : VCon s 0 := by
  intro w i z hi hz
  have HZ : Hid (z = ((0 : Nat) : Int) - 1) := hz
  have hz0 : z < 0 := by omega
  have HR : Hid (rvV s.data.toList 0 i = (va0, -1)) := by show _ = _; unfold rvV; rfl
  obtain ⟨w1, hw1⟩ : ∃ w1, w1 = w.alloc (.cells #[.int .i64 0, .int .i64 0, .string ⟨#[]⟩, .slice none 0 0] 24) := ⟨_, rfl⟩
  have R1 : Hid (Blk w1 w.heap.size #[.int .i64 0, .int .i64 0, .string ⟨#[]⟩, .slice none 0 0] 24) := by show Blk _ _ _ _; rw [hw1]; exact Blk.new
  have B1 : Hid (Below w.heap.size w w1) := by show Below _ _ _; rw [hw1]; exact (Below.refl _ _).alloc (Nat.le_refl _) _
  have HW1 : Hid (w1 = w.alloc (.cells #[.int .i64 0, .int .i64 0, .string ⟨#[]⟩, .slice none 0 0] 24)) := hw1
  clear hw1 hz
  have r0 : w1.cell? ⟨w.heap.size, 0, none⟩ = some (.int .i64 0) := R1.out.cell 0 _ rfl
  have rz0 := R1.out.frozen 0
  have r1 : w1.cell? ⟨w.heap.size, 1, none⟩ = some (.int .i64 0) := R1.out.cell 1 _ rfl
  have rz1 := R1.out.frozen 1
  have r2 : w1.cell? ⟨w.heap.size, 2, none⟩ = some (.string ⟨#[]⟩) := R1.out.cell 2 _ rfl
  have rz2 := R1.out.frozen 2
  have r3 : w1.cell? ⟨w.heap.size, 3, none⟩ = some (.slice none 0 0) := R1.out.cell 3 _ rfl
  have rz3 := R1.out.frozen 3
  by_cases hin : (s.size : Int) ≤ (i : Int)
  · go_enter Tryd.func9, Tryd.ntmps9
    go_wp2_with (rw [← HW1.out])
    have hon := st4_only (b := w.heap.size) (w := w1) (c0 := .int .i64 0) (c1 := .int .i64 0) (c2 := .string ⟨#[]⟩) (c3 := .slice none 0 0)
    have hbk := st4_blk R1.out (.int .i64 0) (.int .i64 0) (.string ⟨#[]⟩) (.slice none 0 0)
    have q0 := hbk.cell 0 _ rfl
    have q1 := hbk.cell 1 _ rfl
    have q2 := hbk.cell 2 _ rfl
    have q3 := hbk.cell 3 _ rfl
    refine bodyPost_ret (v := .tuple #[.agg #[.int .i64 0, .int .i64 0, .string ⟨#[]⟩, .slice none 0 0], .int .i64 (-1)]) (by simp [results, Tryd.results9, go_sem, q0, q1, q2, q3]) rfl ?_
    rw [HR.out]
    exact ⟨_, [], rfl, OVT.keeps _ _ _ _ _ (OVT.leaf okI0 okI0 okSe) (hon.keep (by simp)), List.nodup_nil, fun a ha => by simp at ha, belowOnly B1.out hon (Nat.le_refl _)⟩
  · go_enter Tryd.func9, Tryd.ntmps9
    go_wp2_with (rw [← HW1.out])
    have hon := st4_only (b := w.heap.size) (w := w1) (c0 := .int .i64 0) (c1 := .int .i64 0) (c2 := .string ⟨#[]⟩) (c3 := .slice none 0 0)
    have hbk := st4_blk R1.out (.int .i64 0) (.int .i64 0) (.string ⟨#[]⟩) (.slice none 0 0)
    have q0 := hbk.cell 0 _ rfl
    have q1 := hbk.cell 1 _ rfl
    have q2 := hbk.cell 2 _ rfl
    have q3 := hbk.cell 3 _ rfl
    refine bodyPost_ret (v := .tuple #[.agg #[.int .i64 0, .int .i64 0, .string ⟨#[]⟩, .slice none 0 0], .int .i64 (-1)]) (by simp [results, Tryd.results9, go_sem, q0, q1, q2, q3]) rfl ?_
    rw [HR.out]
    exact ⟨_, [], rfl, OVT.keeps _ _ _ _ _ (OVT.leaf okI0 okI0 okSe) (hon.keep (by simp)), List.nodup_nil, fun a ha => by simp at ha, belowOnly B1.out hon (Nat.le_refl _)⟩
set_option maxHeartbeats 16000000 in
theorem val_of {s : ByteArray} (hs : s.size ≤ 1048576) {d : Nat} (hd : d ≤ 1000) (hV : VCon s d) : VCon s (d + 1) := by
  intro w i z hi hz
  have hzd : z = (d : Int) := by omega
  subst hzd
  clear hz
  have HV0 : Hid (VCon s d) := hV
  have HT0 : Hid (TCon s d) := tuple_of hs hV
  have HLL : Hid (s.data.toList.length = s.size) := by show _ = _; simp
  have HED : Hid (EndsV s.data.toList.length (rvV s.data.toList d)) := rvV_ends d
  have hsm : s.size ≤ maxLen := by unfold maxLen; omega
  obtain ⟨w1, hw1⟩ : ∃ w1, w1 = w.alloc (.cells #[.int .i64 0, .int .i64 0, .string ⟨#[]⟩, .slice none 0 0] 24) := ⟨_, rfl⟩
  have R1 : Hid (Blk w1 w.heap.size #[.int .i64 0, .int .i64 0, .string ⟨#[]⟩, .slice none 0 0] 24) := by show Blk _ _ _ _; rw [hw1]; exact Blk.new
  have B1 : Hid (Below w.heap.size w w1) := by show Below _ _ _; rw [hw1]; exact (Below.refl _ _).alloc (Nat.le_refl _) _
  have S1 : w.heap.size + 1 ≤ w1.heap.size := by rw [hw1, alloc_hs]; exact Nat.le_refl _
  have HW1 : Hid (w1 = w.alloc (.cells #[.int .i64 0, .int .i64 0, .string ⟨#[]⟩, .slice none 0 0] 24)) := hw1
  clear hw1 hV
  have hd0 : ¬ (d : Int) < 0 := by omega
  go_enter Tryd.func9, Tryd.ntmps9
  go_upto_region 1 with fail
  rw [← HW1.out]
  by_cases hil : i < s.size
  · have hin : ¬ (s.size : Int) ≤ (i : Int) := by omega
    have hb := byte_lt s i hil
    have hg : s.data.toList.getD i 0 = s[i] := byte_getD s i hil
    by_cases h123 : s[i].toNat = 123
    · have h1 : ((s[i].toNat : Int) == 123) = true := by simp [h123]
      have HA : Hid (s.data.toList.getD i 0 = 123) := by show _ = _; rw [hg]; exact UInt8.toNat_inj.1 h123
      clear hg
      obtain ⟨x, zz, HV⟩ : ∃ x zz, Hid (rvT s.data.toList (rvV s.data.toList d) (s.data.toList.length + 1) [] (i + 1) = (x, zz)) := ⟨_, _, rfl⟩
      have hvc := HT0.out w1 (i + 1) _ hil rfl
      rw [HV.out] at hvc
      have HVC : Hid (Calls Tryd.prog 16 #[.string s, .int .i64 ((i : Int) + 1), .int .i64 ((d : Int) - 1)] w1 (RvGot w1 (x, zz))) := hvc
      have HR : Hid (rvV s.data.toList (d + 1) i = (x, zz)) := by
        show _ = _
        conv => lhs; unfold rvV
        rw [if_neg (Decidable.not_not.2 (by rw [HLL.out]; exact hil))]
        rw [if_pos HA.out]
        rw [HV.out]
      clear hvc
      go_wp2_with fail
      refine HVC.out.mono ?_
      rintro e w2 ⟨cs, Xf, rfl, hx, hnd, hrg, hb⟩
      obtain ⟨Xk, Xn, Xt, Xp, Xa, Xb, rfl⟩ := hx.shape
      simp only at hx
      have R2 : Hid (Blk w2 w.heap.size #[.int .i64 0, .int .i64 0, .string ⟨#[]⟩, .slice none 0 0] 24) := R1.out.next hb
      have X2 : Hid (OVT w2 [.int .i64 Xk, .int .i64 Xn, .string Xt, .slice Xp Xa Xb] x Xf) := hx
      have B2 : Hid (Below w.heap.size w w2) := B1.out.trans (hb.mono (by omega))
      have X_rg : Hid (∀ a ∈ Xf, w1.heap.size ≤ a ∧ a < w2.heap.size) := hrg
      have X_nd : Hid Xf.Nodup := hnd
      clear hx hb hrg hnd
      have r0 : w2.cell? ⟨w.heap.size, 0, none⟩ = some (.int .i64 0) := R2.out.cell 0 _ rfl
      have rz0 := R2.out.frozen 0
      have r1 : w2.cell? ⟨w.heap.size, 1, none⟩ = some (.int .i64 0) := R2.out.cell 1 _ rfl
      have rz1 := R2.out.frozen 1
      have r2 : w2.cell? ⟨w.heap.size, 2, none⟩ = some (.string ⟨#[]⟩) := R2.out.cell 2 _ rfl
      have rz2 := R2.out.frozen 2
      have r3 : w2.cell? ⟨w.heap.size, 3, none⟩ = some (.slice none 0 0) := R2.out.cell 3 _ rfl
      have rz3 := R2.out.frozen 3
      go_wp2_with fail
      have hon := st4_only (b := w.heap.size) (w := w2) (c0 := .int .i64 Xk) (c1 := .int .i64 Xn) (c2 := .string Xt) (c3 := .slice Xp Xa Xb)
      have hbk := st4_blk R2.out (.int .i64 Xk) (.int .i64 Xn) (.string Xt) (.slice Xp Xa Xb)
      have q0 := hbk.cell 0 _ rfl
      have q1 := hbk.cell 1 _ rfl
      have q2 := hbk.cell 2 _ rfl
      have q3 := hbk.cell 3 _ rfl
      refine bodyPost_ret (v := .tuple #[.agg #[.int .i64 Xk, .int .i64 Xn, .string Xt, .slice Xp Xa Xb], .int .i64 (zz)]) (by simp [results, Tryd.results9, go_sem, q0, q1, q2, q3]) rfl ?_
      rw [HR.out]
      exact ⟨_, Xf, rfl, OVT.keeps _ _ _ _ _ (X2.out) (hon.keep (fun ha => by have := X_rg.out _ ha; omega)), X_nd.out, fun a ha => by have := X_rg.out a ha; have := hon.size; omega, belowOnly B2.out hon (Nat.le_refl _)⟩
    · by_cases h91 : s[i].toNat = 91
      · have h0 : ((s[i].toNat : Int) == 123) = false := by simp [h91]
        have h1 : ((s[i].toNat : Int) == 91) = true := by simp [h91]
        have HA : Hid (s.data.toList.getD i 0 = 91) := by show _ = _; rw [hg]; exact UInt8.toNat_inj.1 h91
        clear hg
        by_cases hi1 : i + 1 < s.size
        · have hi1' : (i : Int) + 1 < (s.size : Int) := by omega
          have hb1 := byte_lt s (i + 1) hi1
          have hg : s.data.toList.getD (i + 1) 0 = s[i + 1] := byte_getD s (i + 1) hi1
          by_cases h93 : s[i + 1].toNat = 93
          · have h2 : ((s[i + 1].toNat : Int) == 93) = true := by simp [h93]
            have HA1 : Hid (s.data.toList.getD (i + 1) 0 = 93) := by show _ = _; rw [hg]; exact UInt8.toNat_inj.1 h93
            clear hg
            have HR : Hid (rvV s.data.toList (d + 1) i = (.mk 3 0 ⟨#[]⟩ [], (i : Int) + 2)) := by
              show _ = _
              conv => lhs; unfold rvV
              rw [if_neg (Decidable.not_not.2 (by rw [HLL.out]; exact hil))]
              rw [if_neg (by rw [HA.out]; decide)]
              rw [if_pos ⟨HA.out, by rw [HLL.out]; exact hi1, HA1.out⟩]
            have r0 : w1.cell? ⟨w.heap.size, 0, none⟩ = some (.int .i64 0) := R1.out.cell 0 _ rfl
            have rz0 := R1.out.frozen 0
            have r1 : w1.cell? ⟨w.heap.size, 1, none⟩ = some (.int .i64 0) := R1.out.cell 1 _ rfl
            have rz1 := R1.out.frozen 1
            have r2 : w1.cell? ⟨w.heap.size, 2, none⟩ = some (.string ⟨#[]⟩) := R1.out.cell 2 _ rfl
            have rz2 := R1.out.frozen 2
            have r3 : w1.cell? ⟨w.heap.size, 3, none⟩ = some (.slice none 0 0) := R1.out.cell 3 _ rfl
            have rz3 := R1.out.frozen 3
            go_wp2_with fail
            have hon := st4_only (b := w.heap.size) (w := w1) (c0 := .int .i64 3) (c1 := .int .i64 0) (c2 := .string ⟨#[]⟩) (c3 := .slice none 0 0)
            have hbk := st4_blk R1.out (.int .i64 3) (.int .i64 0) (.string ⟨#[]⟩) (.slice none 0 0)
            have q0 := hbk.cell 0 _ rfl
            have q1 := hbk.cell 1 _ rfl
            have q2 := hbk.cell 2 _ rfl
            have q3 := hbk.cell 3 _ rfl
            refine bodyPost_ret (v := .tuple #[.agg #[.int .i64 3, .int .i64 0, .string ⟨#[]⟩, .slice none 0 0], .int .i64 ((i : Int) + 2)]) (by simp [results, Tryd.results9, go_sem, q0, q1, q2, q3]) rfl ?_
            rw [HR.out]
            exact ⟨_, [], rfl, OVT.keeps _ _ _ _ _ (OVT.leaf okI3 okI0 okSe) (hon.keep (by simp)), List.nodup_nil, fun a ha => by simp at ha, belowOnly B1.out hon (Nat.le_refl _)⟩
          · have h2 : ((s[i + 1].toNat : Int) == 93) = false := by simp; omega
            have HNN : Hid (¬ (s.data.toList.getD i 0 = 91 ∧ i + 1 < s.size ∧ s.data.toList.getD (i + 1) 0 = 93)) := by
              intro h
              exact h93 (by rw [hg] at h; rw [h.2.2]; rfl)
            clear hg
            obtain ⟨x, zx, HVX⟩ : ∃ x zx, Hid (rvV s.data.toList d (i + 1) = (x, zx)) := ⟨_, _, rfl⟩
            have hvc := HV0.out w1 (i + 1) _ hil rfl
            rw [HVX.out] at hvc
            have HVC : Hid (Calls Tryd.prog 9 #[.string s, .int .i64 ((i : Int) + 1), .int .i64 ((d : Int) - 1)] w1 (RvGot w1 (x, zx))) := hvc
            have hend := HED.out (i + 1) (by rw [HLL.out]; exact hil)
            rw [HLL.out, HVX.out] at hend
            simp only at hend
            clear hvc
            go_wp2_with fail
            refine HVC.out.mono ?_
            rintro e w2 ⟨cs, Xf, rfl, hx, hnd, hrg, hb⟩
            obtain ⟨Xk, Xn, Xt, Xp, Xa, Xb, rfl⟩ := hx.shape
            simp only at hx
            obtain ⟨w3, hw2⟩ : ∃ wk, wk = w2.alloc (.cells #[.int .i64 Xk, .int .i64 Xn, .string Xt, .slice Xp Xa Xb] 24) := ⟨_, rfl⟩
            have hba : Below w2.heap.size w2 w3 := by rw [hw2]; exact (Below.refl _ _).alloc (Nat.le_refl _) _
            have hb2 : Below w1.heap.size w1 w3 := hb.trans (hba.mono hb.size)
            have Sw2 : w1.heap.size ≤ w2.heap.size := hb.size
            have Sw3 : w2.heap.size + 1 ≤ w3.heap.size := by rw [hw2, alloc_hs]; exact Nat.le_refl _
            have X_nd : Hid Xf.Nodup := hnd
            have X_rg : Hid (∀ a ∈ Xf, w1.heap.size ≤ a ∧ a < w2.heap.size) := hrg
            have X3 : Hid (OVT w3 [.int .i64 Xk, .int .i64 Xn, .string Xt, .slice Xp Xa Xb] x Xf) := OVT.keeps _ _ _ _ _ hx (KeepOn.below hba (fun a ha => (hrg a ha).2))
            have QX3 : Hid (Blk w3 w2.heap.size #[.int .i64 Xk, .int .i64 Xn, .string Xt, .slice Xp Xa Xb] 24) := by show Blk _ _ _ _; rw [hw2]; exact Blk.new
            have HW3 : Hid (w3 = w2.alloc (.cells #[.int .i64 Xk, .int .i64 Xn, .string Xt, .slice Xp Xa Xb] 24)) := hw2
            have R3 : Hid (Blk w3 w.heap.size #[.int .i64 0, .int .i64 0, .string ⟨#[]⟩, .slice none 0 0] 24) := R1.out.next hb2
            have B3 : Hid (Below w.heap.size w w3) := B1.out.trans (hb2.mono (by omega))
            clear hx hnd hrg hb hba hb2 hw2
            clear R1 B1 HVC
            go_upto_region 9 with fail
            rw [← HW3.out]
            clear h0 h1 hb h91 h123 hin
            try clear hb1 h2 h93
            by_cases hz0 : zx < 0
            · have HR : Hid (rvV s.data.toList (d + 1) i = (va0, -1)) := by
                show _ = _
                conv => lhs; unfold rvV
                rw [if_neg (Decidable.not_not.2 (by rw [HLL.out]; exact hil))]
                rw [if_neg (by rw [HA.out]; decide)]
                rw [if_neg (by rw [HLL.out]; exact HNN.out)]
                rw [if_pos HA.out]
                unfold rvC
                rw [HVX.out]
                rw [if_pos (.inl hz0)]
              have r0 : w3.cell? ⟨w.heap.size, 0, none⟩ = some (.int .i64 0) := R3.out.cell 0 _ rfl
              have rz0 := R3.out.frozen 0
              have r1 : w3.cell? ⟨w.heap.size, 1, none⟩ = some (.int .i64 0) := R3.out.cell 1 _ rfl
              have rz1 := R3.out.frozen 1
              have r2 : w3.cell? ⟨w.heap.size, 2, none⟩ = some (.string ⟨#[]⟩) := R3.out.cell 2 _ rfl
              have rz2 := R3.out.frozen 2
              have r3 : w3.cell? ⟨w.heap.size, 3, none⟩ = some (.slice none 0 0) := R3.out.cell 3 _ rfl
              have rz3 := R3.out.frozen 3
              go_wp2_with fail
              have hon := st4_only (b := w.heap.size) (w := w3) (c0 := .int .i64 0) (c1 := .int .i64 0) (c2 := .string ⟨#[]⟩) (c3 := .slice none 0 0)
              have hbk := st4_blk R3.out (.int .i64 0) (.int .i64 0) (.string ⟨#[]⟩) (.slice none 0 0)
              have q0 := hbk.cell 0 _ rfl
              have q1 := hbk.cell 1 _ rfl
              have q2 := hbk.cell 2 _ rfl
              have q3 := hbk.cell 3 _ rfl
              refine bodyPost_ret (v := .tuple #[.agg #[.int .i64 0, .int .i64 0, .string ⟨#[]⟩, .slice none 0 0], .int .i64 (-1)]) (by simp [results, Tryd.results9, go_sem, q0, q1, q2, q3]) rfl ?_
              rw [HR.out]
              exact ⟨_, [], rfl, OVT.keeps _ _ _ _ _ (OVT.leaf okI0 okI0 okSe) (hon.keep (by simp)), List.nodup_nil, fun a ha => by simp at ha, belowOnly B3.out hon (Nat.le_refl _)⟩
            · by_cases hzn : (s.size : Int) ≤ zx
              · have HR : Hid (rvV s.data.toList (d + 1) i = (va0, -1)) := by
                  show _ = _
                  conv => lhs; unfold rvV
                  rw [if_neg (Decidable.not_not.2 (by rw [HLL.out]; exact hil))]
                  rw [if_neg (by rw [HA.out]; decide)]
                  rw [if_neg (by rw [HLL.out]; exact HNN.out)]
                  rw [if_pos HA.out]
                  unfold rvC
                  rw [HVX.out]
                  rw [if_pos (.inr (.inl (by rw [HLL.out]; exact hzn)))]
                have r0 : w3.cell? ⟨w.heap.size, 0, none⟩ = some (.int .i64 0) := R3.out.cell 0 _ rfl
                have rz0 := R3.out.frozen 0
                have r1 : w3.cell? ⟨w.heap.size, 1, none⟩ = some (.int .i64 0) := R3.out.cell 1 _ rfl
                have rz1 := R3.out.frozen 1
                have r2 : w3.cell? ⟨w.heap.size, 2, none⟩ = some (.string ⟨#[]⟩) := R3.out.cell 2 _ rfl
                have rz2 := R3.out.frozen 2
                have r3 : w3.cell? ⟨w.heap.size, 3, none⟩ = some (.slice none 0 0) := R3.out.cell 3 _ rfl
                have rz3 := R3.out.frozen 3
                go_wp2_with fail
                have hon := st4_only (b := w.heap.size) (w := w3) (c0 := .int .i64 0) (c1 := .int .i64 0) (c2 := .string ⟨#[]⟩) (c3 := .slice none 0 0)
                have hbk := st4_blk R3.out (.int .i64 0) (.int .i64 0) (.string ⟨#[]⟩) (.slice none 0 0)
                have q0 := hbk.cell 0 _ rfl
                have q1 := hbk.cell 1 _ rfl
                have q2 := hbk.cell 2 _ rfl
                have q3 := hbk.cell 3 _ rfl
                refine bodyPost_ret (v := .tuple #[.agg #[.int .i64 0, .int .i64 0, .string ⟨#[]⟩, .slice none 0 0], .int .i64 (-1)]) (by simp [results, Tryd.results9, go_sem, q0, q1, q2, q3]) rfl ?_
                rw [HR.out]
                exact ⟨_, [], rfl, OVT.keeps _ _ _ _ _ (OVT.leaf okI0 okI0 okSe) (hon.keep (by simp)), List.nodup_nil, fun a ha => by simp at ha, belowOnly B3.out hon (Nat.le_refl _)⟩
              · obtain ⟨a, rfl⟩ : ∃ a : Nat, zx = a := ⟨zx.toNat, by omega⟩
                have han : a < s.size := by omega
                have hb := byte_lt s a han
                have hg : s.data.toList.getD a 0 = s[a] := byte_getD s a han
                clear hend hz0
                by_cases h124 : s[a].toNat = 124
                · have h1 : ((s[a].toNat : Int) != 124) = false := by simp [h124]
                  have HAX : Hid (s.data.toList.getD a 0 = 124) := by show _ = _; rw [hg]; exact UInt8.toNat_inj.1 h124
                  clear hg
                  obtain ⟨y, zy, HVY⟩ : ∃ y zy, Hid (rvV s.data.toList d (a + 1) = (y, zy)) := ⟨_, _, rfl⟩
                  have hvc := HV0.out w3 (a + 1) _ han rfl
                  rw [HVY.out] at hvc
                  have HVC : Hid (Calls Tryd.prog 9 #[.string s, .int .i64 ((a : Int) + 1), .int .i64 ((d : Int) - 1)] w3 (RvGot w3 (y, zy))) := hvc
                  have hend := HED.out (a + 1) (by rw [HLL.out]; exact han)
                  rw [HLL.out, HVY.out] at hend
                  simp only at hend
                  clear hvc
                  go_wp2_with fail
                  refine HVC.out.mono ?_
                  rintro e w4 ⟨cs, Yf, rfl, hx, hnd, hrg, hb⟩
                  obtain ⟨Yk, Yn, Yt, Yp, Ya, Yb, rfl⟩ := hx.shape
                  simp only at hx
                  obtain ⟨w5, hw2⟩ : ∃ wk, wk = w4.alloc (.cells #[.int .i64 Yk, .int .i64 Yn, .string Yt, .slice Yp Ya Yb] 24) := ⟨_, rfl⟩
                  have hba : Below w4.heap.size w4 w5 := by rw [hw2]; exact (Below.refl _ _).alloc (Nat.le_refl _) _
                  have hb2 : Below w3.heap.size w3 w5 := hb.trans (hba.mono hb.size)
                  have Sw4 : w3.heap.size ≤ w4.heap.size := hb.size
                  have Sw5 : w4.heap.size + 1 ≤ w5.heap.size := by rw [hw2, alloc_hs]; exact Nat.le_refl _
                  have Y_nd : Hid Yf.Nodup := hnd
                  have Y_rg : Hid (∀ a ∈ Yf, w3.heap.size ≤ a ∧ a < w4.heap.size) := hrg
                  have Y5 : Hid (OVT w5 [.int .i64 Yk, .int .i64 Yn, .string Yt, .slice Yp Ya Yb] y Yf) := OVT.keeps _ _ _ _ _ hx (KeepOn.below hba (fun a ha => (hrg a ha).2))
                  have QY5 : Hid (Blk w5 w4.heap.size #[.int .i64 Yk, .int .i64 Yn, .string Yt, .slice Yp Ya Yb] 24) := by show Blk _ _ _ _; rw [hw2]; exact Blk.new
                  have HW5 : Hid (w5 = w4.alloc (.cells #[.int .i64 Yk, .int .i64 Yn, .string Yt, .slice Yp Ya Yb] 24)) := hw2
                  have R5 : Hid (Blk w5 w.heap.size #[.int .i64 0, .int .i64 0, .string ⟨#[]⟩, .slice none 0 0] 24) := R3.out.next hb2
                  have B5 : Hid (Below w.heap.size w w5) := B3.out.trans (hb2.mono (by omega))
                  have X5 : Hid (OVT w5 [.int .i64 Xk, .int .i64 Xn, .string Xt, .slice Xp Xa Xb] x Xf) := OVT.keeps _ _ _ _ _ X3.out (KeepOn.below hb2 (fun a ha => by have := X_rg.out a ha; omega))
                  have QX5 : Hid (Blk w5 w2.heap.size #[.int .i64 Xk, .int .i64 Xn, .string Xt, .slice Xp Xa Xb] 24) := QX3.out.next hb2
                  clear hx hnd hrg hb hba hb2 hw2
                  clear R3 B3 X3 QX3 HVC
                  go_upto_region 12 with fail
                  rw [← HW5.out]
                  by_cases hz0 : zy < 0
                  · have HR : Hid (rvV s.data.toList (d + 1) i = (va0, -1)) := by
                      show _ = _
                      conv => lhs; unfold rvV
                      rw [if_neg (Decidable.not_not.2 (by rw [HLL.out]; exact hil))]
                      rw [if_neg (by rw [HA.out]; decide)]
                      rw [if_neg (by rw [HLL.out]; exact HNN.out)]
                      rw [if_pos HA.out]
                      unfold rvC
                      rw [HVX.out]
                      rw [if_neg (by simp only [Int.toNat_natCast]; rw [HAX.out, HLL.out]; intro h; rcases h with h | h | h; omega; omega; exact h rfl)]
                      simp only [Int.toNat_natCast]
                      rw [HVY.out, if_pos (.inl hz0)]
                    have r0 : w5.cell? ⟨w.heap.size, 0, none⟩ = some (.int .i64 0) := R5.out.cell 0 _ rfl
                    have rz0 := R5.out.frozen 0
                    have r1 : w5.cell? ⟨w.heap.size, 1, none⟩ = some (.int .i64 0) := R5.out.cell 1 _ rfl
                    have rz1 := R5.out.frozen 1
                    have r2 : w5.cell? ⟨w.heap.size, 2, none⟩ = some (.string ⟨#[]⟩) := R5.out.cell 2 _ rfl
                    have rz2 := R5.out.frozen 2
                    have r3 : w5.cell? ⟨w.heap.size, 3, none⟩ = some (.slice none 0 0) := R5.out.cell 3 _ rfl
                    have rz3 := R5.out.frozen 3
                    go_wp2_with fail
                    have hon := st4_only (b := w.heap.size) (w := w5) (c0 := .int .i64 0) (c1 := .int .i64 0) (c2 := .string ⟨#[]⟩) (c3 := .slice none 0 0)
                    have hbk := st4_blk R5.out (.int .i64 0) (.int .i64 0) (.string ⟨#[]⟩) (.slice none 0 0)
                    have q0 := hbk.cell 0 _ rfl
                    have q1 := hbk.cell 1 _ rfl
                    have q2 := hbk.cell 2 _ rfl
                    have q3 := hbk.cell 3 _ rfl
                    refine bodyPost_ret (v := .tuple #[.agg #[.int .i64 0, .int .i64 0, .string ⟨#[]⟩, .slice none 0 0], .int .i64 (-1)]) (by simp [results, Tryd.results9, go_sem, q0, q1, q2, q3]) rfl ?_
                    rw [HR.out]
                    exact ⟨_, [], rfl, OVT.keeps _ _ _ _ _ (OVT.leaf okI0 okI0 okSe) (hon.keep (by simp)), List.nodup_nil, fun a ha => by simp at ha, belowOnly B5.out hon (Nat.le_refl _)⟩
                  · by_cases hzn2 : (s.size : Int) ≤ zy
                    · have HR : Hid (rvV s.data.toList (d + 1) i = (va0, -1)) := by
                        show _ = _
                        conv => lhs; unfold rvV
                        rw [if_neg (Decidable.not_not.2 (by rw [HLL.out]; exact hil))]
                        rw [if_neg (by rw [HA.out]; decide)]
                        rw [if_neg (by rw [HLL.out]; exact HNN.out)]
                        rw [if_pos HA.out]
                        unfold rvC
                        rw [HVX.out]
                        rw [if_neg (by simp only [Int.toNat_natCast]; rw [HAX.out, HLL.out]; intro h; rcases h with h | h | h; omega; omega; exact h rfl)]
                        simp only [Int.toNat_natCast]
                        rw [HVY.out, if_pos (.inr (.inl (by rw [HLL.out]; exact hzn2)))]
                      have r0 : w5.cell? ⟨w.heap.size, 0, none⟩ = some (.int .i64 0) := R5.out.cell 0 _ rfl
                      have rz0 := R5.out.frozen 0
                      have r1 : w5.cell? ⟨w.heap.size, 1, none⟩ = some (.int .i64 0) := R5.out.cell 1 _ rfl
                      have rz1 := R5.out.frozen 1
                      have r2 : w5.cell? ⟨w.heap.size, 2, none⟩ = some (.string ⟨#[]⟩) := R5.out.cell 2 _ rfl
                      have rz2 := R5.out.frozen 2
                      have r3 : w5.cell? ⟨w.heap.size, 3, none⟩ = some (.slice none 0 0) := R5.out.cell 3 _ rfl
                      have rz3 := R5.out.frozen 3
                      go_wp2_with fail
                      have hon := st4_only (b := w.heap.size) (w := w5) (c0 := .int .i64 0) (c1 := .int .i64 0) (c2 := .string ⟨#[]⟩) (c3 := .slice none 0 0)
                      have hbk := st4_blk R5.out (.int .i64 0) (.int .i64 0) (.string ⟨#[]⟩) (.slice none 0 0)
                      have q0 := hbk.cell 0 _ rfl
                      have q1 := hbk.cell 1 _ rfl
                      have q2 := hbk.cell 2 _ rfl
                      have q3 := hbk.cell 3 _ rfl
                      refine bodyPost_ret (v := .tuple #[.agg #[.int .i64 0, .int .i64 0, .string ⟨#[]⟩, .slice none 0 0], .int .i64 (-1)]) (by simp [results, Tryd.results9, go_sem, q0, q1, q2, q3]) rfl ?_
                      rw [HR.out]
                      exact ⟨_, [], rfl, OVT.keeps _ _ _ _ _ (OVT.leaf okI0 okI0 okSe) (hon.keep (by simp)), List.nodup_nil, fun a ha => by simp at ha, belowOnly B5.out hon (Nat.le_refl _)⟩
                    · obtain ⟨b, rfl⟩ : ∃ b : Nat, zy = b := ⟨zy.toNat, by omega⟩
                      have hbn : b < s.size := by omega
                      have hbb := byte_lt s b hbn
                      have hg : s.data.toList.getD b 0 = s[b] := byte_getD s b hbn
                      clear hend hz0
                      by_cases h93 : s[b].toNat = 93
                      · have h2 : ((s[b].toNat : Int) != 93) = false := by simp [h93]
                        have HAY : Hid (s.data.toList.getD b 0 = 93) := by show _ = _; rw [hg]; exact UInt8.toNat_inj.1 h93
                        clear hg
                        have HR : Hid (rvV s.data.toList (d + 1) i = (.mk 4 0 ⟨#[]⟩ [x, y], (b : Int) + 1)) := by
                          show _ = _
                          conv => lhs; unfold rvV
                          rw [if_neg (Decidable.not_not.2 (by rw [HLL.out]; exact hil))]
                          rw [if_neg (by rw [HA.out]; decide)]
                          rw [if_neg (by rw [HLL.out]; exact HNN.out)]
                          rw [if_pos HA.out]
                          unfold rvC
                          rw [HVX.out]
                          rw [if_neg (by simp only [Int.toNat_natCast]; rw [HAX.out, HLL.out]; intro h; rcases h with h | h | h; omega; omega; exact h rfl)]
                          simp only [Int.toNat_natCast]
                          rw [HVY.out, if_neg (by simp only [Int.toNat_natCast]; rw [HAY.out, HLL.out]; intro h; rcases h with h | h | h; omega; omega; exact h rfl)]
                        have x0 : w5.cell? ⟨w2.heap.size, 0, none⟩ = some (.int .i64 Xk) := QX5.out.cell 0 _ rfl
                        have x1 : w5.cell? ⟨w2.heap.size, 1, none⟩ = some (.int .i64 Xn) := QX5.out.cell 1 _ rfl
                        have x2 : w5.cell? ⟨w2.heap.size, 2, none⟩ = some (.string Xt) := QX5.out.cell 2 _ rfl
                        have x3 : w5.cell? ⟨w2.heap.size, 3, none⟩ = some (.slice Xp Xa Xb) := QX5.out.cell 3 _ rfl
                        have y0 : w5.cell? ⟨w4.heap.size, 0, none⟩ = some (.int .i64 Yk) := QY5.out.cell 0 _ rfl
                        have y1 : w5.cell? ⟨w4.heap.size, 1, none⟩ = some (.int .i64 Yn) := QY5.out.cell 1 _ rfl
                        have y2 : w5.cell? ⟨w4.heap.size, 2, none⟩ = some (.string Yt) := QY5.out.cell 2 _ rfl
                        have y3 : w5.cell? ⟨w4.heap.size, 3, none⟩ = some (.slice Yp Ya Yb) := QY5.out.cell 3 _ rfl
                        obtain ⟨w6, hw6⟩ : ∃ w6, w6 = w5.alloc (.cells #[.int .i64 Xk, .int .i64 Xn, .string Xt, .slice Xp Xa Xb, .int .i64 Yk, .int .i64 Yn, .string Yt, .slice Yp Ya Yb] 24) := ⟨_, rfl⟩
                        have hb6 : Below w5.heap.size w5 w6 := by rw [hw6]; exact (Below.refl _ _).alloc (Nat.le_refl _) _
                        have S6 : w5.heap.size + 1 ≤ w6.heap.size := by rw [hw6, alloc_hs]; exact Nat.le_refl _
                        have T6 : Hid (ORows w6 24 4 (OVT w6) (.slice (some ⟨w5.heap.size, 0, none⟩) 2 2) [x, y] (w5.heap.size :: (Xf ++ Yf))) := by show ORows _ _ _ _ _ _ _; rw [hw6]; exact ORows.twoV X5.out Y5.out
                        have R6 : Hid (Blk w6 w.heap.size #[.int .i64 0, .int .i64 0, .string ⟨#[]⟩, .slice none 0 0] 24) := R5.out.next hb6
                        have B6 : Hid (Below w.heap.size w w6) := B5.out.trans (hb6.mono (by omega))
                        have HW6 : Hid (w6 = w5.alloc (.cells #[.int .i64 Xk, .int .i64 Xn, .string Xt, .slice Xp Xa Xb, .int .i64 Yk, .int .i64 Yn, .string Yt, .slice Yp Ya Yb] 24)) := hw6
                        have RG : Hid (∀ a ∈ w5.heap.size :: (Xf ++ Yf), w1.heap.size ≤ a ∧ a < w6.heap.size) := by
                          intro a ha
                          rcases List.mem_cons.1 ha with rfl | ha
                          · omega
                          · rcases List.mem_append.1 ha with ha | ha
                            · have := X_rg.out a ha; omega
                            · have := Y_rg.out a ha; omega
                        have ND : Hid (w5.heap.size :: (Xf ++ Yf)).Nodup := by
                          refine List.nodup_cons.2 ⟨fun ha => ?_, List.nodup_append.2 ⟨X_nd.out, Y_nd.out, fun a ha b hb => ?_⟩⟩
                          · rcases List.mem_append.1 ha with ha | ha
                            · have := X_rg.out _ ha; omega
                            · have := Y_rg.out _ ha; omega
                          · have := X_rg.out a ha; have := Y_rg.out b hb; omega
                        clear hb6 hw6
                        have r0 : w6.cell? ⟨w.heap.size, 0, none⟩ = some (.int .i64 0) := R6.out.cell 0 _ rfl
                        have rz0 := R6.out.frozen 0
                        have r1 : w6.cell? ⟨w.heap.size, 1, none⟩ = some (.int .i64 0) := R6.out.cell 1 _ rfl
                        have rz1 := R6.out.frozen 1
                        have r2 : w6.cell? ⟨w.heap.size, 2, none⟩ = some (.string ⟨#[]⟩) := R6.out.cell 2 _ rfl
                        have rz2 := R6.out.frozen 2
                        have r3 : w6.cell? ⟨w.heap.size, 3, none⟩ = some (.slice none 0 0) := R6.out.cell 3 _ rfl
                        have rz3 := R6.out.frozen 3
                        go_wp2_with (rw [← HW6.out])
                        have hon := st4_only (b := w.heap.size) (w := w6) (c0 := .int .i64 4) (c1 := .int .i64 0) (c2 := .string ⟨#[]⟩) (c3 := .slice (some ⟨w5.heap.size, 0, none⟩) 2 2)
                        have hbk := st4_blk R6.out (.int .i64 4) (.int .i64 0) (.string ⟨#[]⟩) (.slice (some ⟨w5.heap.size, 0, none⟩) 2 2)
                        have q0 := hbk.cell 0 _ rfl
                        have q1 := hbk.cell 1 _ rfl
                        have q2 := hbk.cell 2 _ rfl
                        have q3 := hbk.cell 3 _ rfl
                        refine bodyPost_ret (v := .tuple #[.agg #[.int .i64 4, .int .i64 0, .string ⟨#[]⟩, .slice (some ⟨w5.heap.size, 0, none⟩) 2 2], .int .i64 ((b : Int) + 1)]) (by simp [results, Tryd.results9, go_sem, q0, q1, q2, q3]) rfl ?_
                        rw [HR.out]
                        exact ⟨_, (w5.heap.size :: (Xf ++ Yf)), rfl, OVT.keeps _ _ _ _ _ (OVT.mk okI4 okI0 okSe T6.out) (hon.keep (fun ha => by have := RG.out _ ha; omega)), ND.out, fun a ha => by have := RG.out a ha; have := hon.size; omega, belowOnly B6.out hon (Nat.le_refl _)⟩
                      · have h2 : ((s[b].toNat : Int) != 93) = true := by simp; omega
                        have HAY : Hid (s.data.toList.getD b 0 ≠ 93) := by show _ ≠ _; rw [hg]; exact fun h => h93 (by rw [h]; rfl)
                        clear hg
                        have HR : Hid (rvV s.data.toList (d + 1) i = (va0, -1)) := by
                          show _ = _
                          conv => lhs; unfold rvV
                          rw [if_neg (Decidable.not_not.2 (by rw [HLL.out]; exact hil))]
                          rw [if_neg (by rw [HA.out]; decide)]
                          rw [if_neg (by rw [HLL.out]; exact HNN.out)]
                          rw [if_pos HA.out]
                          unfold rvC
                          rw [HVX.out]
                          rw [if_neg (by simp only [Int.toNat_natCast]; rw [HAX.out, HLL.out]; intro h; rcases h with h | h | h; omega; omega; exact h rfl)]
                          simp only [Int.toNat_natCast]
                          rw [HVY.out, if_pos (.inr (.inr (by simp only [Int.toNat_natCast]; exact HAY.out)))]
                        have r0 : w5.cell? ⟨w.heap.size, 0, none⟩ = some (.int .i64 0) := R5.out.cell 0 _ rfl
                        have rz0 := R5.out.frozen 0
                        have r1 : w5.cell? ⟨w.heap.size, 1, none⟩ = some (.int .i64 0) := R5.out.cell 1 _ rfl
                        have rz1 := R5.out.frozen 1
                        have r2 : w5.cell? ⟨w.heap.size, 2, none⟩ = some (.string ⟨#[]⟩) := R5.out.cell 2 _ rfl
                        have rz2 := R5.out.frozen 2
                        have r3 : w5.cell? ⟨w.heap.size, 3, none⟩ = some (.slice none 0 0) := R5.out.cell 3 _ rfl
                        have rz3 := R5.out.frozen 3
                        go_wp2_with fail
                        have hon := st4_only (b := w.heap.size) (w := w5) (c0 := .int .i64 0) (c1 := .int .i64 0) (c2 := .string ⟨#[]⟩) (c3 := .slice none 0 0)
                        have hbk := st4_blk R5.out (.int .i64 0) (.int .i64 0) (.string ⟨#[]⟩) (.slice none 0 0)
                        have q0 := hbk.cell 0 _ rfl
                        have q1 := hbk.cell 1 _ rfl
                        have q2 := hbk.cell 2 _ rfl
                        have q3 := hbk.cell 3 _ rfl
                        refine bodyPost_ret (v := .tuple #[.agg #[.int .i64 0, .int .i64 0, .string ⟨#[]⟩, .slice none 0 0], .int .i64 (-1)]) (by simp [results, Tryd.results9, go_sem, q0, q1, q2, q3]) rfl ?_
                        rw [HR.out]
                        exact ⟨_, [], rfl, OVT.keeps _ _ _ _ _ (OVT.leaf okI0 okI0 okSe) (hon.keep (by simp)), List.nodup_nil, fun a ha => by simp at ha, belowOnly B5.out hon (Nat.le_refl _)⟩
                · have h1 : ((s[a].toNat : Int) != 124) = true := by simp; omega
                  have HAX : Hid (s.data.toList.getD a 0 ≠ 124) := by show _ ≠ _; rw [hg]; exact fun h => h124 (by rw [h]; rfl)
                  clear hg
                  have HR : Hid (rvV s.data.toList (d + 1) i = (va0, -1)) := by
                    show _ = _
                    conv => lhs; unfold rvV
                    rw [if_neg (Decidable.not_not.2 (by rw [HLL.out]; exact hil))]
                    rw [if_neg (by rw [HA.out]; decide)]
                    rw [if_neg (by rw [HLL.out]; exact HNN.out)]
                    rw [if_pos HA.out]
                    unfold rvC
                    rw [HVX.out]
                    rw [if_pos (.inr (.inr (by simp only [Int.toNat_natCast]; exact HAX.out)))]
                  have r0 : w3.cell? ⟨w.heap.size, 0, none⟩ = some (.int .i64 0) := R3.out.cell 0 _ rfl
                  have rz0 := R3.out.frozen 0
                  have r1 : w3.cell? ⟨w.heap.size, 1, none⟩ = some (.int .i64 0) := R3.out.cell 1 _ rfl
                  have rz1 := R3.out.frozen 1
                  have r2 : w3.cell? ⟨w.heap.size, 2, none⟩ = some (.string ⟨#[]⟩) := R3.out.cell 2 _ rfl
                  have rz2 := R3.out.frozen 2
                  have r3 : w3.cell? ⟨w.heap.size, 3, none⟩ = some (.slice none 0 0) := R3.out.cell 3 _ rfl
                  have rz3 := R3.out.frozen 3
                  go_wp2_with fail
                  have hon := st4_only (b := w.heap.size) (w := w3) (c0 := .int .i64 0) (c1 := .int .i64 0) (c2 := .string ⟨#[]⟩) (c3 := .slice none 0 0)
                  have hbk := st4_blk R3.out (.int .i64 0) (.int .i64 0) (.string ⟨#[]⟩) (.slice none 0 0)
                  have q0 := hbk.cell 0 _ rfl
                  have q1 := hbk.cell 1 _ rfl
                  have q2 := hbk.cell 2 _ rfl
                  have q3 := hbk.cell 3 _ rfl
                  refine bodyPost_ret (v := .tuple #[.agg #[.int .i64 0, .int .i64 0, .string ⟨#[]⟩, .slice none 0 0], .int .i64 (-1)]) (by simp [results, Tryd.results9, go_sem, q0, q1, q2, q3]) rfl ?_
                  rw [HR.out]
                  exact ⟨_, [], rfl, OVT.keeps _ _ _ _ _ (OVT.leaf okI0 okI0 okSe) (hon.keep (by simp)), List.nodup_nil, fun a ha => by simp at ha, belowOnly B3.out hon (Nat.le_refl _)⟩
        · have hi1' : ¬ (i : Int) + 1 < (s.size : Int) := by omega
          have HNN : Hid (¬ (s.data.toList.getD i 0 = 91 ∧ i + 1 < s.size ∧ s.data.toList.getD (i + 1) 0 = 93)) := fun h => hi1 h.2.1
          obtain ⟨x, zx, HVX⟩ : ∃ x zx, Hid (rvV s.data.toList d (i + 1) = (x, zx)) := ⟨_, _, rfl⟩
          have hvc := HV0.out w1 (i + 1) _ hil rfl
          rw [HVX.out] at hvc
          have HVC : Hid (Calls Tryd.prog 9 #[.string s, .int .i64 ((i : Int) + 1), .int .i64 ((d : Int) - 1)] w1 (RvGot w1 (x, zx))) := hvc
          have hend := HED.out (i + 1) (by rw [HLL.out]; exact hil)
          rw [HLL.out, HVX.out] at hend
          simp only at hend
          clear hvc
          go_wp2_with fail
          refine HVC.out.mono ?_
          rintro e w2 ⟨cs, Xf, rfl, hx, hnd, hrg, hb⟩
          obtain ⟨Xk, Xn, Xt, Xp, Xa, Xb, rfl⟩ := hx.shape
          simp only at hx
          obtain ⟨w3, hw2⟩ : ∃ wk, wk = w2.alloc (.cells #[.int .i64 Xk, .int .i64 Xn, .string Xt, .slice Xp Xa Xb] 24) := ⟨_, rfl⟩
          have hba : Below w2.heap.size w2 w3 := by rw [hw2]; exact (Below.refl _ _).alloc (Nat.le_refl _) _
          have hb2 : Below w1.heap.size w1 w3 := hb.trans (hba.mono hb.size)
          have Sw2 : w1.heap.size ≤ w2.heap.size := hb.size
          have Sw3 : w2.heap.size + 1 ≤ w3.heap.size := by rw [hw2, alloc_hs]; exact Nat.le_refl _
          have X_nd : Hid Xf.Nodup := hnd
          have X_rg : Hid (∀ a ∈ Xf, w1.heap.size ≤ a ∧ a < w2.heap.size) := hrg
          have X3 : Hid (OVT w3 [.int .i64 Xk, .int .i64 Xn, .string Xt, .slice Xp Xa Xb] x Xf) := OVT.keeps _ _ _ _ _ hx (KeepOn.below hba (fun a ha => (hrg a ha).2))
          have QX3 : Hid (Blk w3 w2.heap.size #[.int .i64 Xk, .int .i64 Xn, .string Xt, .slice Xp Xa Xb] 24) := by show Blk _ _ _ _; rw [hw2]; exact Blk.new
          have HW3 : Hid (w3 = w2.alloc (.cells #[.int .i64 Xk, .int .i64 Xn, .string Xt, .slice Xp Xa Xb] 24)) := hw2
          have R3 : Hid (Blk w3 w.heap.size #[.int .i64 0, .int .i64 0, .string ⟨#[]⟩, .slice none 0 0] 24) := R1.out.next hb2
          have B3 : Hid (Below w.heap.size w w3) := B1.out.trans (hb2.mono (by omega))
          clear hx hnd hrg hb hba hb2 hw2
          clear R1 B1 HVC
          go_upto_region 9 with fail
          rw [← HW3.out]
          clear h0 h1 hb h91 h123 hin
          try clear hb1 h2 h93
          by_cases hz0 : zx < 0
          · have HR : Hid (rvV s.data.toList (d + 1) i = (va0, -1)) := by
              show _ = _
              conv => lhs; unfold rvV
              rw [if_neg (Decidable.not_not.2 (by rw [HLL.out]; exact hil))]
              rw [if_neg (by rw [HA.out]; decide)]
              rw [if_neg (by rw [HLL.out]; exact HNN.out)]
              rw [if_pos HA.out]
              unfold rvC
              rw [HVX.out]
              rw [if_pos (.inl hz0)]
            have r0 : w3.cell? ⟨w.heap.size, 0, none⟩ = some (.int .i64 0) := R3.out.cell 0 _ rfl
            have rz0 := R3.out.frozen 0
            have r1 : w3.cell? ⟨w.heap.size, 1, none⟩ = some (.int .i64 0) := R3.out.cell 1 _ rfl
            have rz1 := R3.out.frozen 1
            have r2 : w3.cell? ⟨w.heap.size, 2, none⟩ = some (.string ⟨#[]⟩) := R3.out.cell 2 _ rfl
            have rz2 := R3.out.frozen 2
            have r3 : w3.cell? ⟨w.heap.size, 3, none⟩ = some (.slice none 0 0) := R3.out.cell 3 _ rfl
            have rz3 := R3.out.frozen 3
            go_wp2_with fail
            have hon := st4_only (b := w.heap.size) (w := w3) (c0 := .int .i64 0) (c1 := .int .i64 0) (c2 := .string ⟨#[]⟩) (c3 := .slice none 0 0)
            have hbk := st4_blk R3.out (.int .i64 0) (.int .i64 0) (.string ⟨#[]⟩) (.slice none 0 0)
            have q0 := hbk.cell 0 _ rfl
            have q1 := hbk.cell 1 _ rfl
            have q2 := hbk.cell 2 _ rfl
            have q3 := hbk.cell 3 _ rfl
            refine bodyPost_ret (v := .tuple #[.agg #[.int .i64 0, .int .i64 0, .string ⟨#[]⟩, .slice none 0 0], .int .i64 (-1)]) (by simp [results, Tryd.results9, go_sem, q0, q1, q2, q3]) rfl ?_
            rw [HR.out]
            exact ⟨_, [], rfl, OVT.keeps _ _ _ _ _ (OVT.leaf okI0 okI0 okSe) (hon.keep (by simp)), List.nodup_nil, fun a ha => by simp at ha, belowOnly B3.out hon (Nat.le_refl _)⟩
          · exfalso; omega
      · have h0 : ((s[i].toNat : Int) == 123) = false := by simp; omega
        have h1 : ((s[i].toNat : Int) == 91) = false := by simp; omega
        have HA0 : Hid (s.data.toList.getD i 0 ≠ 123) := by show _ ≠ _; rw [hg]; exact fun h => h123 (by rw [h]; rfl)
        have HA : Hid (s.data.toList.getD i 0 ≠ 91) := by show _ ≠ _; rw [hg]; exact fun h => h91 (by rw [h]; rfl)
        clear hg
        obtain ⟨k, hkr⟩ : ∃ k, k = runEnd nmB s.data.toList i := ⟨_, rfl⟩
        have hik : i ≤ k := by rw [hkr]; exact runEnd_ge _ _ _
        have hks : k ≤ s.size := by rw [hkr, ← HLL.out]; exact runEnd_le _ _ _ (by rw [HLL.out]; exact hi)
        have HK : Hid (runEnd nmB s.data.toList i = k) := hkr.symm
        have HN : Hid (∀ w', Calls Tryd.prog 17 #[.string s, .int .i64 (i : Nat)] w' fun e w'' => e = .returned (.int .i64 (k : Int)) ∧ w'' = w') := fun w' => by rw [hkr]; exact l12Name_any s w' i hsm hi
        have hxs : (s.extract i k).size ≤ maxLen := by rw [ByteArray.size_extract]; unfold maxLen; omega
        have HPL : Hid (∀ w', Calls Tryd.prog 18 #[.string (s.extract i k)] w' fun e w'' => e = .returned (.tuple #[.agg (vaC (plainV (cut s.data.toList i k)).1), .bool (plainV (cut s.data.toList i k)).2]) ∧ Below w'.heap.size w' w'') := fun w' => by
          have := l12Plain_any (s.extract i k) w' hxs
          rw [extract_cutV] at this
          exact this
        have HPK : Hid ((plainV (cut s.data.toList i k)).2 = true → okI (plainV (cut s.data.toList i k)).1.kind ∧ okI (plainV (cut s.data.toList i k)).1.n ∧ okS (plainV (cut s.data.toList i k)).1.text) := plainV_ok (by have h1 := hxs; rw [ByteArray.size_extract] at h1; rw [← extract_cutV]; show (s.extract i k).data.size ≤ maxLen; exact hxs)
        have HVR : Hid (rvV s.data.toList (d + 1) i = if (plainV (cut s.data.toList i k)).2 = true then ((plainV (cut s.data.toList i k)).1, (k : Int)) else (va0, -1)) := by
          show _ = _
          conv => lhs; unfold rvV
          rw [if_neg (Decidable.not_not.2 (by rw [HLL.out]; exact hil)), if_neg HA0.out, if_neg (fun h => HA.out h.1), if_neg HA.out, HK.out]
        obtain ⟨xa, xb, xt, hxp⟩ := plainV_leaf (cut s.data.toList i k)
        generalize plainV (cut s.data.toList i k) = PL at *
        obtain ⟨x, ok⟩ := PL
        simp only at hxp
        subst hxp
        have HPC : Hid (∀ w', Calls Tryd.prog 18 #[.string (s.extract i k)] w' fun e w'' => e = .returned (.tuple #[.agg #[.int .i64 xa, .int .i64 xb, .string xt, .slice none 0 0], .bool ok]) ∧ Below w'.heap.size w' w'') := HPL.out
        clear HPL hkr hxs
        have hki : (i : Int) ≤ (k : Int) := by omega
        have hks' : (k : Int) ≤ (s.size : Int) := by omega
        go_wp2_with fail
        refine (HN.out _).mono ?_
        rintro e w2 ⟨rfl, rfl⟩
        go_wp2_with fail
        refine (HPC.out _).mono ?_
        rintro e w3 ⟨rfl, hb⟩
        obtain ⟨w4, hw4⟩ : ∃ w4, w4 = w3.alloc (.cells #[.int .i64 xa, .int .i64 xb, .string xt, .slice none 0 0] 24) := ⟨_, rfl⟩
        have hba : Below w3.heap.size w3 w4 := by rw [hw4]; exact (Below.refl _ _).alloc (Nat.le_refl _) _
        have hb2 : Below w2.heap.size w2 w4 := hb.trans (hba.mono hb.size)
        have S3 : w2.heap.size ≤ w3.heap.size := hb.size
        have S4 : w3.heap.size + 1 ≤ w4.heap.size := by rw [hw4, alloc_hs]; exact Nat.le_refl _
        have R4 : Hid (Blk w4 w.heap.size #[.int .i64 0, .int .i64 0, .string ⟨#[]⟩, .slice none 0 0] 24) := R1.out.next hb2
        have B4 : Hid (Below w.heap.size w w4) := B1.out.trans (hb2.mono (by omega))
        have Q4 : Hid (Blk w4 w3.heap.size #[.int .i64 xa, .int .i64 xb, .string xt, .slice none 0 0] 24) := by show Blk _ _ _ _; rw [hw4]; exact Blk.new
        have HW4 : Hid (w4 = w3.alloc (.cells #[.int .i64 xa, .int .i64 xb, .string xt, .slice none 0 0] 24)) := hw4
        clear hb hba hb2 hw4
        go_upto_region 17 with fail
        rw [← HW4.out]
        cases ok with
        | true =>
          have hpk := HPK.out rfl
          have HR : Hid (rvV s.data.toList (d + 1) i = (.mk xa xb xt [], (k : Int))) := by show _ = _; rw [HVR.out]; rfl
          have r0 : w4.cell? ⟨w.heap.size, 0, none⟩ = some (.int .i64 0) := R4.out.cell 0 _ rfl
          have rz0 := R4.out.frozen 0
          have r1 : w4.cell? ⟨w.heap.size, 1, none⟩ = some (.int .i64 0) := R4.out.cell 1 _ rfl
          have rz1 := R4.out.frozen 1
          have r2 : w4.cell? ⟨w.heap.size, 2, none⟩ = some (.string ⟨#[]⟩) := R4.out.cell 2 _ rfl
          have rz2 := R4.out.frozen 2
          have r3 : w4.cell? ⟨w.heap.size, 3, none⟩ = some (.slice none 0 0) := R4.out.cell 3 _ rfl
          have rz3 := R4.out.frozen 3
          have q0 : w4.cell? ⟨w3.heap.size, 0, none⟩ = some (.int .i64 xa) := Q4.out.cell 0 _ rfl
          have q1 : w4.cell? ⟨w3.heap.size, 1, none⟩ = some (.int .i64 xb) := Q4.out.cell 1 _ rfl
          have q2 : w4.cell? ⟨w3.heap.size, 2, none⟩ = some (.string xt) := Q4.out.cell 2 _ rfl
          have q3 : w4.cell? ⟨w3.heap.size, 3, none⟩ = some (.slice none 0 0) := Q4.out.cell 3 _ rfl
          have HPZ : Hid (okI xa ∧ okI xb ∧ okS xt) := hpk
          clear hpk
          go_wp2_with fail
          clear q0 q1 q2 q3
          have hon := st4_only (b := w.heap.size) (w := w4) (c0 := .int .i64 xa) (c1 := .int .i64 xb) (c2 := .string xt) (c3 := .slice none 0 0)
          have hbk := st4_blk R4.out (.int .i64 xa) (.int .i64 xb) (.string xt) (.slice none 0 0)
          have q0 := hbk.cell 0 _ rfl
          have q1 := hbk.cell 1 _ rfl
          have q2 := hbk.cell 2 _ rfl
          have q3 := hbk.cell 3 _ rfl
          refine bodyPost_ret (v := .tuple #[.agg #[.int .i64 xa, .int .i64 xb, .string xt, .slice none 0 0], .int .i64 (k)]) (by simp [results, Tryd.results9, go_sem, q0, q1, q2, q3]) rfl ?_
          rw [HR.out]
          exact ⟨_, [], rfl, OVT.keeps _ _ _ _ _ (OVT.leaf HPZ.out.1 HPZ.out.2.1 HPZ.out.2.2) (hon.keep (by simp)), List.nodup_nil, fun a ha => by simp at ha, belowOnly B4.out hon (Nat.le_refl _)⟩
        | false =>
          have HR : Hid (rvV s.data.toList (d + 1) i = (va0, -1)) := by
            show _ = _
            rw [HVR.out]; rfl
          have r0 : w4.cell? ⟨w.heap.size, 0, none⟩ = some (.int .i64 0) := R4.out.cell 0 _ rfl
          have rz0 := R4.out.frozen 0
          have r1 : w4.cell? ⟨w.heap.size, 1, none⟩ = some (.int .i64 0) := R4.out.cell 1 _ rfl
          have rz1 := R4.out.frozen 1
          have r2 : w4.cell? ⟨w.heap.size, 2, none⟩ = some (.string ⟨#[]⟩) := R4.out.cell 2 _ rfl
          have rz2 := R4.out.frozen 2
          have r3 : w4.cell? ⟨w.heap.size, 3, none⟩ = some (.slice none 0 0) := R4.out.cell 3 _ rfl
          have rz3 := R4.out.frozen 3
          go_wp2_with fail
          have hon := st4_only (b := w.heap.size) (w := w4) (c0 := .int .i64 0) (c1 := .int .i64 0) (c2 := .string ⟨#[]⟩) (c3 := .slice none 0 0)
          have hbk := st4_blk R4.out (.int .i64 0) (.int .i64 0) (.string ⟨#[]⟩) (.slice none 0 0)
          have q0 := hbk.cell 0 _ rfl
          have q1 := hbk.cell 1 _ rfl
          have q2 := hbk.cell 2 _ rfl
          have q3 := hbk.cell 3 _ rfl
          refine bodyPost_ret (v := .tuple #[.agg #[.int .i64 0, .int .i64 0, .string ⟨#[]⟩, .slice none 0 0], .int .i64 (-1)]) (by simp [results, Tryd.results9, go_sem, q0, q1, q2, q3]) rfl ?_
          rw [HR.out]
          exact ⟨_, [], rfl, OVT.keeps _ _ _ _ _ (OVT.leaf okI0 okI0 okSe) (hon.keep (by simp)), List.nodup_nil, fun a ha => by simp at ha, belowOnly B4.out hon (Nat.le_refl _)⟩
  · have hin : (s.size : Int) ≤ (i : Int) := by omega
    have HR : Hid (rvV s.data.toList (d + 1) i = (va0, -1)) := by
      show _ = _
      conv => lhs; unfold rvV
      rw [if_pos (by rw [HLL.out]; exact hil)]
    have r0 : w1.cell? ⟨w.heap.size, 0, none⟩ = some (.int .i64 0) := R1.out.cell 0 _ rfl
    have rz0 := R1.out.frozen 0
    have r1 : w1.cell? ⟨w.heap.size, 1, none⟩ = some (.int .i64 0) := R1.out.cell 1 _ rfl
    have rz1 := R1.out.frozen 1
    have r2 : w1.cell? ⟨w.heap.size, 2, none⟩ = some (.string ⟨#[]⟩) := R1.out.cell 2 _ rfl
    have rz2 := R1.out.frozen 2
    have r3 : w1.cell? ⟨w.heap.size, 3, none⟩ = some (.slice none 0 0) := R1.out.cell 3 _ rfl
    have rz3 := R1.out.frozen 3
    go_wp2_with fail
    have hon := st4_only (b := w.heap.size) (w := w1) (c0 := .int .i64 0) (c1 := .int .i64 0) (c2 := .string ⟨#[]⟩) (c3 := .slice none 0 0)
    have hbk := st4_blk R1.out (.int .i64 0) (.int .i64 0) (.string ⟨#[]⟩) (.slice none 0 0)
    have q0 := hbk.cell 0 _ rfl
    have q1 := hbk.cell 1 _ rfl
    have q2 := hbk.cell 2 _ rfl
    have q3 := hbk.cell 3 _ rfl
    refine bodyPost_ret (v := .tuple #[.agg #[.int .i64 0, .int .i64 0, .string ⟨#[]⟩, .slice none 0 0], .int .i64 (-1)]) (by simp [results, Tryd.results9, go_sem, q0, q1, q2, q3]) rfl ?_
    rw [HR.out]
    exact ⟨_, [], rfl, OVT.keeps _ _ _ _ _ (OVT.leaf okI0 okI0 okSe) (hon.keep (by simp)), List.nodup_nil, fun a ha => by simp at ha, belowOnly B1.out hon (Nat.le_refl _)⟩
theorem val_all {s : ByteArray} (hs : s.size ≤ 1048576) : ∀ d, d ≤ 1001 → VCon s d
  | 0, _ => val_zero hs
  | d + 1, h => val_of hs (by omega) (val_all hs d (by omega))
end Go.Proofs.YtafehfpjogbmfaaDoor
