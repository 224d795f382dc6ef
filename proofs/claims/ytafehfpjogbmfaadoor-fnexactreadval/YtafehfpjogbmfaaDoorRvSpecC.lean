/-
  The specification's reader of values, by contract: a tuple. (Written by tools/mkrvc.py.)
-/
import Derived.Test.YtafehfpjogbmfaaDoorRvSpecB
import Derived.Test.YtafehfpjogbmfaaDoorRvMath2
import Derived.Test.YtafehfpjogbmfaaDoorRvTree
import Derived.Test.YtafehfpjogbmfaaDoorOnly
namespace Go.Proofs.YtafehfpjogbmfaaDoor
open Go.ChangeShapes Go.WideShapes Go.ChangeAt Go.RowKit
set_option linter.unusedVariables false
set_option linter.unusedSimpArgs false
set_option maxRecDepth 100000

theorem info_va : (Tryd.prog.info? 24).map (fun i => (i.zero, i.size, i.bytes)) = some (some (.agg #[.int .i64 0, .int .i64 0, .string ⟨#[]⟩, .slice none 0 0]), 4, 56) := by kernel_rfl
theorem va_one {a b : Int} {t : ByteArray} {p : Option Addr} {n q : Nat} : ∀ u ∈ [Value.int .i64 a, .int .i64 b, .string t, .slice p n q], u.oneCell' = true := by
  intro u hu
  simp at hu
  rcases hu with rfl | rfl | rfl | rfl <;> rfl
theorem okI0 : okI 0 := by show (Lit.int .i64 0).wf = true; rfl
theorem okI2 : okI 2 := by show (Lit.int .i64 2).wf = true; rfl
theorem okI3 : okI 3 := by show (Lit.int .i64 3).wf = true; rfl
theorem okI4 : okI 4 := by show (Lit.int .i64 4).wf = true; rfl
theorem okSe : okS ⟨#[]⟩ := Nat.zero_le _
/-- What the specification's readers of a value answer and leave. -/
def RvGot (w : World) (x : Va × Int) (e : Ending) (w' : World) : Prop := ∃ cs fp, e = .returned (.tuple #[.agg cs.toArray, .int .i64 x.2]) ∧ OVT w' cs x.1 fp ∧ fp.Nodup ∧ (∀ a ∈ fp, w.heap.size ≤ a ∧ a < w'.heap.size) ∧ Below w.heap.size w w'
def VCon (s : ByteArray) (d : Nat) : Prop := ∀ (w : World) (i : Nat) (z : Int), i ≤ s.size → z = (d : Int) - 1 →
  Calls Tryd.prog 9 #[.string s, .int .i64 i, .int .i64 z] w (RvGot w (rvV s.data.toList d i))
def TCon (s : ByteArray) (d : Nat) : Prop := ∀ (w : World) (i : Nat) (z : Int), i ≤ s.size → z = (d : Int) - 1 →
  Calls Tryd.prog 16 #[.string s, .int .i64 i, .int .i64 z] w (RvGot w (rvT s.data.toList (rvV s.data.toList d) (s.data.toList.length + 1) [] i))
/-- What stands at the head of a tuple's loop. -/
def TupInv (w wr : World) (CV : Value) (acc : List Va) : Prop :=
  Blk wr w.heap.size #[.int .i64 0, .int .i64 0, .string ⟨#[]⟩, .slice none 0 0] 24 ∧ Blk wr (w.heap.size + 1) #[.int .i64 2, .int .i64 0, .string ⟨#[]⟩, CV] 24 ∧
    GrowO 24 4 OVT wr (w.heap.size + 2) wr.heap.size CV acc ∧ Below w.heap.size w wr ∧ w.heap.size + 2 ≤ wr.heap.size
set_option maxHeartbeats 16000000 in
theorem tuple_of {s : ByteArray} (hs : s.size ≤ 1048576) {d : Nat} (hV : VCon s d) : TCon s d := by
  intro w i0 z hi0 hz
  have HV0 : Hid (VCon s d) := hV
  have HLL : Hid (s.data.toList.length = s.size) := by show _ = _; simp
  have HD : Hid (EndsV s.data.toList.length (rvV s.data.toList d)) := rvV_ends d
  obtain ⟨RES, hRES⟩ : ∃ RES, RES = rvT s.data.toList (rvV s.data.toList d) (s.data.toList.length + 1) [] i0 := ⟨_, rfl⟩
  rw [← hRES]
  have HRES : Hid (rvT s.data.toList (rvV s.data.toList d) (s.size + 1) [] i0 = RES) := by show _ = _; rw [hRES, HLL.out]
  have HZ : Hid (z = (d : Int) - 1) := hz
  obtain ⟨w1, hw1⟩ : ∃ w1, w1 = (w.alloc (.cells #[.int .i64 0, .int .i64 0, .string ⟨#[]⟩, .slice none 0 0] 24)).alloc (.cells #[.int .i64 2, .int .i64 0, .string ⟨#[]⟩, .slice none 0 0] 24) := ⟨_, rfl⟩
  have hwa : w.heap.size + 1 = (w.alloc (.cells #[.int .i64 0, .int .i64 0, .string ⟨#[]⟩, .slice none 0 0] 24)).heap.size := by rw [alloc_hs]
  have IN : Hid (TupInv w w1 (.slice none 0 0) []) := by
    have s1 : w1.heap.size = w.heap.size + 2 := by rw [hw1, alloc_hs, alloc_hs]
    refine ⟨?_, ?_, ?_, ?_, by omega⟩
    · rw [hw1]; exact Blk.next Blk.new ((Below.refl _ _).alloc (Nat.le_refl _) _)
    · rw [hw1, hwa]; exact Blk.new
    · rw [s1]; exact GrowO.nil (by omega)
    · rw [hw1]; exact ((Below.refl _ _).alloc (Nat.le_refl _) _).trans ((Below.refl _ _).alloc (by rw [alloc_hs]; omega) _)
  have HW1 : Hid (w1 = (w.alloc (.cells #[.int .i64 0, .int .i64 0, .string ⟨#[]⟩, .slice none 0 0] 24)).alloc (.cells #[.int .i64 2, .int .i64 0, .string ⟨#[]⟩, .slice none 0 0] 24)) := hw1
  clear hw1 hwa hV hz hRES
  go_enter Tryd.func16, Tryd.ntmps16
  go_wp2_with fail
  rw [← HW1.out]
  go_loopw [1] (fun iv wr => ∃ (k i : Nat) (acc : List Va) (CV : Value), iv = .int .i64 i ∧ i ≤ s.size ∧ s.size - i < k ∧ acc.length ≤ i ∧ Hid (rvT s.data.toList (rvV s.data.toList d) k acc i = RES) ∧ Hid (TupInv w wr CV acc)) (fun iv _ => s.size - (intOf iv).toNat)
  case atStart => exact ⟨s.size + 1, i0, [], _, rfl, hi0, by omega, Nat.zero_le _, HRES.out, IN.out⟩
  case round =>
    clear IN HRES
    obtain ⟨k, i, acc, CV, rfl, hi, hk, hacc, HF, HI⟩ := hrel
    obtain ⟨cR, cE, cG, cB, S0⟩ := HI.out
    obtain ⟨cp, cc, rfl, -, -⟩ := id cG.shape
    clear HI
    have R0 : Hid (Blk wr w.heap.size #[.int .i64 0, .int .i64 0, .string ⟨#[]⟩, .slice none 0 0] 24) := cR
    have E0 : Hid (Blk wr (w.heap.size + 1) #[.int .i64 2, .int .i64 0, .string ⟨#[]⟩, .slice cp acc.length cc] 24) := cE
    have G0 : Hid (GrowO 24 4 OVT wr (w.heap.size + 2) wr.heap.size (.slice cp acc.length cc) acc) := cG
    have B0 : Hid (Below w.heap.size w wr) := cB
    clear cR cE cG cB
    obtain ⟨k, rfl⟩ : ∃ k', k = k' + 1 := ⟨k - 1, by omega⟩
    have hend := HD.out i (by rw [HLL.out]; exact hi)
    rw [HLL.out] at hend
    obtain ⟨x, zz, HV⟩ : ∃ x zz, Hid (rvV s.data.toList d i = (x, zz)) := ⟨_, _, rfl⟩
    have hvc : Calls Tryd.prog 9 #[.string s, .int .i64 i, .int .i64 z] wr (RvGot wr (x, zz)) := by rw [← HV.out]; exact HV0.out wr i z hi HZ.out
    have HVC : Hid (Calls Tryd.prog 9 #[.string s, .int .i64 i, .int .i64 z] wr (RvGot wr (x, zz))) := hvc
    rw [HV.out] at hend
    simp only at hend
    clear hvc
    go_wp2_with fail
    refine HVC.out.mono ?_
    rintro e w1 ⟨cs, Xf, rfl, hx, hnd, hrg, hb⟩
    obtain ⟨Xk, Xn, Xt, Xp, Xa, Xb, rfl⟩ := hx.shape
    simp only at hx
    have S1 : wr.heap.size ≤ w1.heap.size := hb.size
    obtain ⟨w2, hw2⟩ : ∃ w2, w2 = w1.alloc (.cells #[.int .i64 Xk, .int .i64 Xn, .string Xt, .slice Xp Xa Xb] 24) := ⟨_, rfl⟩
    have hba : Below w1.heap.size w1 w2 := by rw [hw2]; exact (Below.refl _ _).alloc (Nat.le_refl _) _
    have hb2 : Below wr.heap.size wr w2 := hb.trans (hba.mono S1)
    have S2 : w1.heap.size + 1 ≤ w2.heap.size := by rw [hw2, alloc_hs]; exact Nat.le_refl _
    have X_nd : Hid Xf.Nodup := hnd
    have X_rg : Hid (∀ a ∈ Xf, wr.heap.size ≤ a ∧ a < w2.heap.size) := fun a ha => by have := hrg a ha; omega
    have X2 : Hid (OVT w2 [.int .i64 Xk, .int .i64 Xn, .string Xt, .slice Xp Xa Xb] x Xf) := OVT.keeps _ _ _ _ _ hx (KeepOn.below hba (fun a ha => (hrg a ha).2))
    have R2 : Hid (Blk w2 w.heap.size #[.int .i64 0, .int .i64 0, .string ⟨#[]⟩, .slice none 0 0] 24) := R0.out.next hb2
    have E2 : Hid (Blk w2 (w.heap.size + 1) #[.int .i64 2, .int .i64 0, .string ⟨#[]⟩, .slice cp acc.length cc] 24) := E0.out.next hb2
    have G2 : Hid (GrowO 24 4 OVT w2 (w.heap.size + 2) wr.heap.size (.slice cp acc.length cc) acc) := G0.out.next OVT.keeps hb2
    have B2 : Hid (Below w.heap.size w w2) := B0.out.trans (hb2.mono (by omega))
    have Q2 : Hid (Blk w2 w1.heap.size #[.int .i64 Xk, .int .i64 Xn, .string Xt, .slice Xp Xa Xb] 24) := by show Blk _ _ _ _; rw [hw2]; exact Blk.new
    have HW2 : Hid (w2 = w1.alloc (.cells #[.int .i64 Xk, .int .i64 Xn, .string Xt, .slice Xp Xa Xb] 24)) := hw2
    clear hx hnd hrg hb hba hb2 hw2 R0 E0 G0 B0 HVC
    go_upto_region 3 with fail
    rw [← HW2.out]
    by_cases hz0 : zz < 0
    · have HR : Hid (RES = (va0, -1)) := by
        show _ = _
        rw [← HF.out]
        unfold rvT
        rw [HV.out, if_pos (.inl hz0)]
      have r0 : w2.cell? ⟨w.heap.size, 0, none⟩ = some (.int .i64 0) := R2.out.cell 0 _ rfl
      have rz0 := R2.out.frozen 0
      have r1 : w2.cell? ⟨w.heap.size, 1, none⟩ = some (.int .i64 0) := R2.out.cell 1 _ rfl
      have rz1 := R2.out.frozen 1
      have r2 : w2.cell? ⟨w.heap.size, 2, none⟩ = some (.string ⟨#[]⟩) := R2.out.cell 2 _ rfl
      have rz2 := R2.out.frozen 2
      have r3 : w2.cell? ⟨w.heap.size, 3, none⟩ = some (.slice none 0 0) := R2.out.cell 3 _ rfl
      have rz3 := R2.out.frozen 3
      clear HF HV E2 G2 Q2 X2
      go_wp2_with fail
      have hon := st4_only (b := w.heap.size) (w := w2) (c0 := .int .i64 0) (c1 := .int .i64 0) (c2 := .string ⟨#[]⟩) (c3 := .slice none 0 0)
      have hbk := st4_blk R2.out (.int .i64 0) (.int .i64 0) (.string ⟨#[]⟩) (.slice none 0 0)
      have q0 := hbk.cell 0 _ rfl
      have q1 := hbk.cell 1 _ rfl
      have q2 := hbk.cell 2 _ rfl
      have q3 := hbk.cell 3 _ rfl
      refine bodyPost_ret (v := .tuple #[.agg #[.int .i64 0, .int .i64 0, .string ⟨#[]⟩, .slice none 0 0], .int .i64 (-1)]) (by simp [results, Tryd.results16, go_sem, q0, q1, q2, q3]) rfl ?_
      rw [HR.out]
      exact ⟨_, [], rfl, OVT.keeps _ _ _ _ _ (OVT.leaf okI0 okI0 okSe) (hon.keep (by simp)), List.nodup_nil, fun a ha => by simp at ha, belowOnly B2.out hon (Nat.le_refl _)⟩
    · by_cases hzn : (s.size : Int) ≤ zz
      · have HR : Hid (RES = (va0, -1)) := by
          show _ = _
          rw [← HF.out]
          unfold rvT
          rw [HV.out, if_pos (.inr (.inl (by rw [HLL.out]; exact hzn)))]
        have r0 : w2.cell? ⟨w.heap.size, 0, none⟩ = some (.int .i64 0) := R2.out.cell 0 _ rfl
        have rz0 := R2.out.frozen 0
        have r1 : w2.cell? ⟨w.heap.size, 1, none⟩ = some (.int .i64 0) := R2.out.cell 1 _ rfl
        have rz1 := R2.out.frozen 1
        have r2 : w2.cell? ⟨w.heap.size, 2, none⟩ = some (.string ⟨#[]⟩) := R2.out.cell 2 _ rfl
        have rz2 := R2.out.frozen 2
        have r3 : w2.cell? ⟨w.heap.size, 3, none⟩ = some (.slice none 0 0) := R2.out.cell 3 _ rfl
        have rz3 := R2.out.frozen 3
        clear HF HV E2 G2 Q2 X2
        go_wp2_with fail
        have hon := st4_only (b := w.heap.size) (w := w2) (c0 := .int .i64 0) (c1 := .int .i64 0) (c2 := .string ⟨#[]⟩) (c3 := .slice none 0 0)
        have hbk := st4_blk R2.out (.int .i64 0) (.int .i64 0) (.string ⟨#[]⟩) (.slice none 0 0)
        have q0 := hbk.cell 0 _ rfl
        have q1 := hbk.cell 1 _ rfl
        have q2 := hbk.cell 2 _ rfl
        have q3 := hbk.cell 3 _ rfl
        refine bodyPost_ret (v := .tuple #[.agg #[.int .i64 0, .int .i64 0, .string ⟨#[]⟩, .slice none 0 0], .int .i64 (-1)]) (by simp [results, Tryd.results16, go_sem, q0, q1, q2, q3]) rfl ?_
        rw [HR.out]
        exact ⟨_, [], rfl, OVT.keeps _ _ _ _ _ (OVT.leaf okI0 okI0 okSe) (hon.keep (by simp)), List.nodup_nil, fun a ha => by simp at ha, belowOnly B2.out hon (Nat.le_refl _)⟩
      · obtain ⟨a, rfl⟩ : ∃ a : Nat, zz = a := ⟨zz.toNat, by omega⟩
        have han : a < s.size := by omega
        have hai : i < a := by omega
        have hb := byte_lt s a han
        have hg : s.data.toList.getD a 0 = s[a] := byte_getD s a han
        clear hend hz0
        by_cases h44 : s[a].toNat = 44
        · have h1 : ((s[a].toNat : Int) != 44) = false := by simp [h44]
          have h2 : ((s[a].toNat : Int) == 125) = false := by simp [h44]
          have HA : Hid (s.data.toList.getD a 0 = 44) := by show _ = _; rw [hg]; exact UInt8.toNat_inj.1 h44
          clear hg
          have cE3 : w2.cell? ⟨w.heap.size + 1, 3, none⟩ = some (.slice cp acc.length cc) := E2.out.cell 3 _ rfl
          have zE3 := E2.out.frozen 3
          have v0 : w2.cell? ⟨w1.heap.size, 0, none⟩ = some (.int .i64 Xk) := Q2.out.cell 0 _ rfl
          have v1 : w2.cell? ⟨w1.heap.size, 1, none⟩ = some (.int .i64 Xn) := Q2.out.cell 1 _ rfl
          have v2 : w2.cell? ⟨w1.heap.size, 2, none⟩ = some (.string Xt) := Q2.out.cell 2 _ rfl
          have v3 : w2.cell? ⟨w1.heap.size, 3, none⟩ = some (.slice Xp Xa Xb) := Q2.out.cell 3 _ rfl
          have hll : acc.length ≤ 100000000 := by omega
          have hob : w.heap.size + 1 < w.heap.size + 2 := by omega
          go_wp2_with (at_builtin; refine wpList_push OVT.keeps 22 24 4 56 _ rfl _ _ rfl Tryd.underlying22 info_va rfl (by decide) (by decide) (w.heap.size + 2) wr.heap.size (.slice cp acc.length cc) acc rfl [.int .i64 Xk, .int .i64 Xn, .string Xt, .slice Xp Xa Xb] rfl x Xf G2.out X2.out X_nd.out (fun a ha => by have := X_rg.out a ha; omega) rfl va_one hll ?_)
          intro v5 w5 hg5 hb5
          obtain ⟨p5, c5, hv5, -⟩ := hg5.shape
          rw [List.length_append] at hv5
          simp only [List.length_singleton] at hv5
          subst hv5
          have al : Below w2.heap.size w2 (w2.alloc (.cells #[.int .i64 Xk, .int .i64 Xn, .string Xt, .slice Xp Xa Xb] 24)) := (Below.refl _ _).alloc (Nat.le_refl _) _
          have hb25 : Below (w.heap.size + 2) w2 w5 := (al.mono (by omega)).trans hb5
          have R5 : Hid (Blk w5 w.heap.size #[.int .i64 0, .int .i64 0, .string ⟨#[]⟩, .slice none 0 0] 24) := (hb25.block _ (by omega)).trans R2.out
          have E5 : Hid (Blk w5 (w.heap.size + 1) #[.int .i64 2, .int .i64 0, .string ⟨#[]⟩, .slice cp acc.length cc] 24) := (hb25.block _ (by omega)).trans E2.out
          have B5 : Hid (Below w.heap.size w w5) := B2.out.trans (hb25.mono (by omega))
          have S5 : w2.heap.size ≤ w5.heap.size := hb25.size
          have k3 := E5.out.cell 3 _ rfl
          have kz3 := E5.out.frozen 3
          obtain ⟨w7, hw7⟩ : ∃ w7, w7 = w5.setCell ⟨w.heap.size + 1, 3, none⟩ (.slice p5 (acc.length + 1) c5) := ⟨_, rfl⟩
          have HW7 : Hid (w7 = w5.setCell ⟨w.heap.size + 1, 3, none⟩ (.slice p5 (acc.length + 1) c5)) := hw7
          have s7 : w7.heap.size = w5.heap.size := by rw [hw7]; simp [World.setCell]
          have on7 : OnlyB (w.heap.size + 1) w5 w7 := by rw [hw7]; exact OnlyB.set
          have R7 : Hid (Blk w7 w.heap.size #[.int .i64 0, .int .i64 0, .string ⟨#[]⟩, .slice none 0 0] 24) := R5.out.only on7 (by omega)
          have E7 : Hid (Blk w7 (w.heap.size + 1) #[.int .i64 2, .int .i64 0, .string ⟨#[]⟩, .slice p5 (acc.length + 1) c5] 24) := by show Blk _ _ _ _; rw [hw7]; exact E5.out.same rfl
          have B7 : Hid (Below w.heap.size w w7) := belowOnly B5.out on7 (by omega)
          have G7 : Hid (GrowO 24 4 OVT w7 (w.heap.size + 2) w7.heap.size (.slice p5 (acc.length + 1) c5) (acc ++ [x])) := by show GrowO _ _ _ _ _ _ _ _; rw [s7]; exact hg5.only OVT.keeps on7 (.inl (by omega))
          clear hg5 hb5 al hb25 hw7 cE3 zE3 v0 v1 v2 v3 on7 R5 E5 B5 R2 E2 G2 B2 Q2 X2
          have HR : Hid (rvT s.data.toList (rvV s.data.toList d) k (acc ++ [x]) (a + 1) = RES) := by
            show _ = _
            rw [← HF.out]
            conv => rhs; unfold rvT
            rw [HV.out, if_neg (by simp only [Int.toNat_natCast]; rw [HA.out, HLL.out]; intro h; rcases h with h | h | h; omega; omega; exact h.1 rfl), if_neg (by simp only [Int.toNat_natCast]; rw [HA.out]; decide)]
            rfl
          have HI : Hid (TupInv w w7 (.slice p5 (acc.length + 1) c5) (acc ++ [x])) := ⟨R7.out, E7.out, G7.out, B7.out, by omega⟩
          clear HF HV
          go_wp2_with (rw [← HW7.out])
          go_round
          case rel => exact ⟨k, a + 1, acc ++ [x], .slice p5 (acc.length + 1) c5, by go_num, by omega, by omega, by simp; omega, HR.out, HI.out⟩
          case measure => simp [intOf]; omega
        · have h1 : ((s[a].toNat : Int) != 44) = true := by simp; omega
          by_cases h125 : s[a].toNat = 125
          · have h2 : ((s[a].toNat : Int) == 125) = true := by simp [h125]
            have h3 : ((s[a].toNat : Int) != 125) = false := by simp [h125]
            have HA : Hid (s.data.toList.getD a 0 = 125) := by show _ = _; rw [hg]; exact UInt8.toNat_inj.1 h125
            clear hg
            have cE3 : w2.cell? ⟨w.heap.size + 1, 3, none⟩ = some (.slice cp acc.length cc) := E2.out.cell 3 _ rfl
            have zE3 := E2.out.frozen 3
            have v0 : w2.cell? ⟨w1.heap.size, 0, none⟩ = some (.int .i64 Xk) := Q2.out.cell 0 _ rfl
            have v1 : w2.cell? ⟨w1.heap.size, 1, none⟩ = some (.int .i64 Xn) := Q2.out.cell 1 _ rfl
            have v2 : w2.cell? ⟨w1.heap.size, 2, none⟩ = some (.string Xt) := Q2.out.cell 2 _ rfl
            have v3 : w2.cell? ⟨w1.heap.size, 3, none⟩ = some (.slice Xp Xa Xb) := Q2.out.cell 3 _ rfl
            have hll : acc.length ≤ 100000000 := by omega
            have hob : w.heap.size + 1 < w.heap.size + 2 := by omega
            go_wp2_with (at_builtin; refine wpList_push OVT.keeps 22 24 4 56 _ rfl _ _ rfl Tryd.underlying22 info_va rfl (by decide) (by decide) (w.heap.size + 2) wr.heap.size (.slice cp acc.length cc) acc rfl [.int .i64 Xk, .int .i64 Xn, .string Xt, .slice Xp Xa Xb] rfl x Xf G2.out X2.out X_nd.out (fun a ha => by have := X_rg.out a ha; omega) rfl va_one hll ?_)
            intro v5 w5 hg5 hb5
            obtain ⟨p5, c5, hv5, -⟩ := hg5.shape
            rw [List.length_append] at hv5
            simp only [List.length_singleton] at hv5
            subst hv5
            have al : Below w2.heap.size w2 (w2.alloc (.cells #[.int .i64 Xk, .int .i64 Xn, .string Xt, .slice Xp Xa Xb] 24)) := (Below.refl _ _).alloc (Nat.le_refl _) _
            have hb25 : Below (w.heap.size + 2) w2 w5 := (al.mono (by omega)).trans hb5
            have R5 : Hid (Blk w5 w.heap.size #[.int .i64 0, .int .i64 0, .string ⟨#[]⟩, .slice none 0 0] 24) := (hb25.block _ (by omega)).trans R2.out
            have E5 : Hid (Blk w5 (w.heap.size + 1) #[.int .i64 2, .int .i64 0, .string ⟨#[]⟩, .slice cp acc.length cc] 24) := (hb25.block _ (by omega)).trans E2.out
            have B5 : Hid (Below w.heap.size w w5) := B2.out.trans (hb25.mono (by omega))
            have S5 : w2.heap.size ≤ w5.heap.size := hb25.size
            have k3 := E5.out.cell 3 _ rfl
            have kz3 := E5.out.frozen 3
            obtain ⟨w7, hw7⟩ : ∃ w7, w7 = w5.setCell ⟨w.heap.size + 1, 3, none⟩ (.slice p5 (acc.length + 1) c5) := ⟨_, rfl⟩
            have HW7 : Hid (w7 = w5.setCell ⟨w.heap.size + 1, 3, none⟩ (.slice p5 (acc.length + 1) c5)) := hw7
            have s7 : w7.heap.size = w5.heap.size := by rw [hw7]; simp [World.setCell]
            have on7 : OnlyB (w.heap.size + 1) w5 w7 := by rw [hw7]; exact OnlyB.set
            have R7 : Hid (Blk w7 w.heap.size #[.int .i64 0, .int .i64 0, .string ⟨#[]⟩, .slice none 0 0] 24) := R5.out.only on7 (by omega)
            have E7 : Hid (Blk w7 (w.heap.size + 1) #[.int .i64 2, .int .i64 0, .string ⟨#[]⟩, .slice p5 (acc.length + 1) c5] 24) := by show Blk _ _ _ _; rw [hw7]; exact E5.out.same rfl
            have B7 : Hid (Below w.heap.size w w7) := belowOnly B5.out on7 (by omega)
            have G7 : Hid (GrowO 24 4 OVT w7 (w.heap.size + 2) w7.heap.size (.slice p5 (acc.length + 1) c5) (acc ++ [x])) := by show GrowO _ _ _ _ _ _ _ _; rw [s7]; exact hg5.only OVT.keeps on7 (.inl (by omega))
            clear hg5 hb5 al hb25 hw7 cE3 zE3 v0 v1 v2 v3 on7 R5 E5 B5 R2 E2 G2 B2 Q2 X2
            have HR : Hid (RES = (.mk 2 0 ⟨#[]⟩ (acc ++ [x]), (a : Int) + 1)) := by
              show _ = _
              rw [← HF.out]
              unfold rvT
              rw [HV.out, if_neg (by simp only [Int.toNat_natCast]; rw [HA.out, HLL.out]; intro h; rcases h with h | h | h; omega; omega; exact h.2 rfl), if_pos (by simp only [Int.toNat_natCast]; exact HA.out)]
            obtain ⟨kf, kr, knd, krg, -, -⟩ := GrowO.done G7.out
            clear HF HV G7
            have e0 : w7.cell? ⟨(w.heap.size + 1), 0, none⟩ = some (.int .i64 2) := E7.out.cell 0 _ rfl
            have e1 : w7.cell? ⟨(w.heap.size + 1), 1, none⟩ = some (.int .i64 0) := E7.out.cell 1 _ rfl
            have e2 : w7.cell? ⟨(w.heap.size + 1), 2, none⟩ = some (.string ⟨#[]⟩) := E7.out.cell 2 _ rfl
            have e3 : w7.cell? ⟨(w.heap.size + 1), 3, none⟩ = some (.slice p5 (acc.length + 1) c5) := E7.out.cell 3 _ rfl
            have r0 : w7.cell? ⟨w.heap.size, 0, none⟩ = some (.int .i64 0) := R7.out.cell 0 _ rfl
            have rz0 := R7.out.frozen 0
            have r1 : w7.cell? ⟨w.heap.size, 1, none⟩ = some (.int .i64 0) := R7.out.cell 1 _ rfl
            have rz1 := R7.out.frozen 1
            have r2 : w7.cell? ⟨w.heap.size, 2, none⟩ = some (.string ⟨#[]⟩) := R7.out.cell 2 _ rfl
            have rz2 := R7.out.frozen 2
            have r3 : w7.cell? ⟨w.heap.size, 3, none⟩ = some (.slice none 0 0) := R7.out.cell 3 _ rfl
            have rz3 := R7.out.frozen 3
            go_wp2_with (rw [← HW7.out])
            have hon := st4_only (b := w.heap.size) (w := w7) (c0 := .int .i64 2) (c1 := .int .i64 0) (c2 := .string ⟨#[]⟩) (c3 := .slice p5 (acc.length + 1) c5)
            have hbk := st4_blk R7.out (.int .i64 2) (.int .i64 0) (.string ⟨#[]⟩) (.slice p5 (acc.length + 1) c5)
            have q0 := hbk.cell 0 _ rfl
            have q1 := hbk.cell 1 _ rfl
            have q2 := hbk.cell 2 _ rfl
            have q3 := hbk.cell 3 _ rfl
            refine bodyPost_ret (v := .tuple #[.agg #[.int .i64 2, .int .i64 0, .string ⟨#[]⟩, .slice p5 (acc.length + 1) c5], .int .i64 ((a : Int) + 1)]) (by simp [results, Tryd.results16, go_sem, q0, q1, q2, q3]) rfl ?_
            rw [HR.out]
            exact ⟨_, kf, rfl, OVT.keeps _ _ _ _ _ (OVT.mk okI2 okI0 okSe kr) (hon.keep (fun ha => by have := krg _ ha; omega)), knd, fun b hb => by have := krg b hb; have := hon.size; omega, belowOnly B7.out hon (Nat.le_refl _)⟩
          · have h3 : ((s[a].toNat : Int) != 125) = true := by simp; omega
            have hA1 : s.data.toList.getD a 0 ≠ 44 := by rw [hg]; exact fun h => h44 (by rw [h]; rfl)
            have hA2 : s.data.toList.getD a 0 ≠ 125 := by rw [hg]; exact fun h => h125 (by rw [h]; rfl)
            have HA : Hid (s.data.toList.getD a 0 ≠ 44 ∧ s.data.toList.getD a 0 ≠ 125) := ⟨hA1, hA2⟩
            clear hg hA1 hA2
            have HR : Hid (RES = (va0, -1)) := by
              show _ = _
              rw [← HF.out]
              unfold rvT
              rw [HV.out, if_pos (.inr (.inr (by simp only [Int.toNat_natCast]; exact HA.out)))]
            have r0 : w2.cell? ⟨w.heap.size, 0, none⟩ = some (.int .i64 0) := R2.out.cell 0 _ rfl
            have rz0 := R2.out.frozen 0
            have r1 : w2.cell? ⟨w.heap.size, 1, none⟩ = some (.int .i64 0) := R2.out.cell 1 _ rfl
            have rz1 := R2.out.frozen 1
            have r2 : w2.cell? ⟨w.heap.size, 2, none⟩ = some (.string ⟨#[]⟩) := R2.out.cell 2 _ rfl
            have rz2 := R2.out.frozen 2
            have r3 : w2.cell? ⟨w.heap.size, 3, none⟩ = some (.slice none 0 0) := R2.out.cell 3 _ rfl
            have rz3 := R2.out.frozen 3
            clear HF HV E2 G2 Q2 X2
            go_wp2_with fail
            have hon := st4_only (b := w.heap.size) (w := w2) (c0 := .int .i64 0) (c1 := .int .i64 0) (c2 := .string ⟨#[]⟩) (c3 := .slice none 0 0)
            have hbk := st4_blk R2.out (.int .i64 0) (.int .i64 0) (.string ⟨#[]⟩) (.slice none 0 0)
            have q0 := hbk.cell 0 _ rfl
            have q1 := hbk.cell 1 _ rfl
            have q2 := hbk.cell 2 _ rfl
            have q3 := hbk.cell 3 _ rfl
            refine bodyPost_ret (v := .tuple #[.agg #[.int .i64 0, .int .i64 0, .string ⟨#[]⟩, .slice none 0 0], .int .i64 (-1)]) (by simp [results, Tryd.results16, go_sem, q0, q1, q2, q3]) rfl ?_
            rw [HR.out]
            exact ⟨_, [], rfl, OVT.keeps _ _ _ _ _ (OVT.leaf okI0 okI0 okSe) (hon.keep (by simp)), List.nodup_nil, fun a ha => by simp at ha, belowOnly B2.out hon (Nat.le_refl _)⟩
end Go.Proofs.YtafehfpjogbmfaaDoor
