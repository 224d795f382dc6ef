/-
  The program's ReadVal, by contract. (Written by tools/mkrvtop.py.)
-/
import Derived.Test.YtafehfpjogbmfaaDoorRvImplD
import Derived.Test.YtafehfpjogbmfaaDoorRvSpecE
import Derived.Test.YtafehfpjogbmfaaDoorValOkTop
namespace Go.Proofs.YtafehfpjogbmfaaDoor
open Go.ChangeShapes Go.WideShapes Go.ChangeAt Go.RowKit
set_option linter.unusedVariables false
set_option linter.unusedSimpArgs false
set_option maxRecDepth 100000

/-- What the program's reading answers, said by its own reader. -/
theorem rdV_none {l : List UInt8} (h : pV (l.length + 1) 61 l = none) : rdV l = (va0, false) := by
  unfold rdV
  rw [if_neg]
  intro ⟨h1, h2⟩
  have h3 := pV_of (l := l) 61 0 _ _ (Nat.zero_le _) (Prod.ext rfl h1 : rvV l 61 0 = ((rvV l 61 0).1, (l.length : Int))) (by omega) (.inl rfl)
  rw [List.drop_zero, h] at h3
  cases h3
theorem rdV_left {l : List UInt8} {x : Va} {c : UInt8} {r : List UInt8} (h : pV (l.length + 1) 61 l = some (x, c :: r)) : rdV l = (va0, false) := by
  unfold rdV
  rw [if_neg]
  intro ⟨h1, h2⟩
  have h3 := pV_of (l := l) 61 0 _ _ (Nat.zero_le _) (Prod.ext rfl h1 : rvV l 61 0 = ((rvV l 61 0).1, (l.length : Int))) (by omega) (.inl rfl)
  rw [List.drop_zero, h] at h3
  simp at h3
theorem rdV_whole {l : List UInt8} {x : Va} (h : pV (l.length + 1) 61 l = some (x, [])) : rdV l = if vaOk (SizeOf.sizeOf x) x 200 = true then (x, true) else (va0, false) := by
  by_cases ho : vaOk (SizeOf.sizeOf x) x 200 = true
  · rw [if_pos ho]
    obtain ⟨e, he, h1, h2⟩ := rvV_of (l := l) 61 0 x [] (Nat.zero_le _) (by rw [List.drop_zero]; exact h) ⟨_, _, ho⟩
    have hel : e = l.length := by
      have := congrArg List.length h2
      simp at this
      omega
    unfold rdV
    rw [h1, if_pos ⟨by rw [hel], ho⟩]
  · rw [if_neg ho]
    unfold rdV
    rw [if_neg]
    intro ⟨h1, h2⟩
    have h3 := pV_of (l := l) 61 0 _ _ (Nat.zero_le _) (Prod.ext rfl h1 : rvV l 61 0 = ((rvV l 61 0).1, (l.length : Int))) (by omega) (.inl rfl)
    rw [List.drop_zero, h] at h3
    simp only [Option.some.injEq, Prod.mk.injEq] at h3
    rw [← h3.1] at h2
    exact ho h2
set_option maxHeartbeats 8000000 in
theorem implReadVal_any {s : ByteArray} (hs : s.size ≤ 1048576) (w : World) (hK : KeysAt w) (hP : PowAt w) : Calls Tryd.prog 5 #[.string s] w (RdGot w (rdV s.data.toList)) := by
  have hll : s.data.toList.length = s.size := by simp
  obtain ⟨w1, hw1⟩ : ∃ w1, w1 = (w.alloc (.cells #[.int .i64 0, .int .i64 0, .string ⟨#[]⟩, .slice none 0 0] 24)).alloc (.cells #[.string s, .int .i64 0] 34) := ⟨_, rfl⟩
  have hwa : w.heap.size + 1 = (w.alloc (.cells #[.int .i64 0, .int .i64 0, .string ⟨#[]⟩, .slice none 0 0] 24)).heap.size := by rw [alloc_hs]
  have S1 : w1.heap.size = w.heap.size + 2 := by rw [hw1, alloc_hs, alloc_hs]
  have B1 : Hid (Below w.heap.size w w1) := by show Below _ _ _; rw [hw1]; exact ((Below.refl _ _).alloc (Nat.le_refl _) _).trans ((Below.refl _ _).alloc (by rw [alloc_hs]; omega) _)
  have R1 : Hid (Blk w1 w.heap.size #[.int .i64 0, .int .i64 0, .string ⟨#[]⟩, .slice none 0 0] 24) := by show Blk _ _ _ _; rw [hw1]; exact Blk.next Blk.new ((Below.refl _ _).alloc (Nat.le_refl _) _)
  have hrb : RB w1 (w.heap.size + 1) s.data.toList 0 := by
    show Blk _ _ _ _
    rw [show byteArr s.data.toList = s from rfl, hw1, hwa]
    exact Blk.new
  have HW1 : Hid (w1 = (w.alloc (.cells #[.int .i64 0, .int .i64 0, .string ⟨#[]⟩, .slice none 0 0] 24)).alloc (.cells #[.string s, .int .i64 0] 34)) := hw1
  have T1 : Hid (TabV w w1) := ⟨hK, hP, B1.out⟩
  have HKW : Hid (KeysAt w) := hK
  have hvc := value_any (w0 := w) (m := s.data.toList.length + 1) (by omega) 61 w1 (w.heap.size + 1) s.data.toList 0 T1.out (by omega) hrb (by omega) (by omega) (by omega) (by omega)
  obtain ⟨RES, hRES⟩ : ∃ RES, RES = pV (s.data.toList.length + 1) 61 s.data.toList := ⟨_, rfl⟩
  rw [← hRES] at hvc
  have HRES : Hid (pV (s.data.toList.length + 1) 61 s.data.toList = RES) := hRES.symm
  obtain ⟨OUT, hOUT⟩ : ∃ OUT, OUT = rdV s.data.toList := ⟨_, rfl⟩
  rw [← hOUT]
  have HOUT : Hid (rdV s.data.toList = OUT) := hOUT.symm
  have HVC : Hid (Calls Tryd.prog 11 #[.pointer (some ⟨(w.heap.size + 1), 0, none⟩)] w1 fun e w' => ∃ Xk Xn Xt Xp Xa Xb, e = .returned (.tuple #[.agg #[.int .i64 Xk, .int .i64 Xn, .string Xt, .slice Xp Xa Xb], .bool RES.isSome]) ∧ Off [(w.heap.size + 1)] w1 w' ∧ ∀ x r, RES = some (x, r) → ∃ fp, OVT w' [.int .i64 Xk, .int .i64 Xn, .string Xt, .slice Xp Xa Xb] x fp ∧ fp.Nodup ∧ (∀ a ∈ fp, w1.heap.size ≤ a ∧ a < w'.heap.size) ∧ RB w' (w.heap.size + 1) r 0) := hvc
  clear hw1 hwa hrb hvc hRES hOUT hK hP
  cases hr : RES with
  | none =>
    have HR : Hid (OUT = (va0, false)) := by show _ = _; rw [← HOUT.out]; exact rdV_none (by rw [HRES.out, hr])
    have HS : RES.isSome = false := by rw [hr]; rfl
    rw [HS] at HVC
    clear HRES HOUT hr HS
    go_enter Tryd.func5, Tryd.ntmps5
    go_wp2_with (rw [← HW1.out])
    refine HVC.out.mono ?_
    rintro e w2 ⟨Xk, Xn, Xt, Xp, Xa, Xb, rfl, ho, hh⟩
    have HH : Hid (∀ x r, RES = some (x, r) → ∃ fp, OVT w2 [.int .i64 Xk, .int .i64 Xn, .string Xt, .slice Xp Xa Xb] x fp ∧ fp.Nodup ∧ (∀ a ∈ fp, w1.heap.size ≤ a ∧ a < w2.heap.size) ∧ RB w2 (w.heap.size + 1) r 0) := hh
    have S2 : w1.heap.size ≤ w2.heap.size := ho.size
    obtain ⟨w3, hw3⟩ : ∃ w3, w3 = w2.alloc (.cells #[.int .i64 Xk, .int .i64 Xn, .string Xt, .slice Xp Xa Xb] 24) := ⟨_, rfl⟩
    have hba : Below w2.heap.size w2 w3 := by rw [hw3]; exact (Below.refl _ _).alloc (Nat.le_refl _) _
    have S3 : w2.heap.size + 1 ≤ w3.heap.size := by rw [hw3, alloc_hs]; exact Nat.le_refl _
    have B3 : Hid (Below w.heap.size w w3) := (B1.out.trans (ho.below (by intro g hg; simp at hg; omega) (by omega))).trans (hba.mono (by omega))
    have R3 : Hid (Blk w3 w.heap.size #[.int .i64 0, .int .i64 0, .string ⟨#[]⟩, .slice none 0 0] 24) := (blkOffV R1.out ho (by omega)).next hba
    have Q3 : Hid (Blk w3 w2.heap.size #[.int .i64 Xk, .int .i64 Xn, .string Xt, .slice Xp Xa Xb] 24) := by show Blk _ _ _ _; rw [hw3]; exact Blk.new
    have HW3 : Hid (w3 = w2.alloc (.cells #[.int .i64 Xk, .int .i64 Xn, .string Xt, .slice Xp Xa Xb] 24)) := hw3
    clear ho hh hw3
    have r0 : w3.cell? ⟨w.heap.size, 0, none⟩ = some (.int .i64 0) := R3.out.cell 0 _ rfl
    have rz0 := R3.out.frozen 0
    have r1 : w3.cell? ⟨w.heap.size, 1, none⟩ = some (.int .i64 0) := R3.out.cell 1 _ rfl
    have rz1 := R3.out.frozen 1
    have r2 : w3.cell? ⟨w.heap.size, 2, none⟩ = some (.string ⟨#[]⟩) := R3.out.cell 2 _ rfl
    have rz2 := R3.out.frozen 2
    have r3 : w3.cell? ⟨w.heap.size, 3, none⟩ = some (.slice none 0 0) := R3.out.cell 3 _ rfl
    have rz3 := R3.out.frozen 3
    go_wp2_with (rw [← HW3.out])
    have hon := st4_only (b := w.heap.size) (w := w3) (c0 := .int .i64 0) (c1 := .int .i64 0) (c2 := .string ⟨#[]⟩) (c3 := .slice none 0 0)
    have hbk := st4_blk R3.out (.int .i64 0) (.int .i64 0) (.string ⟨#[]⟩) (.slice none 0 0)
    have q0 := hbk.cell 0 _ rfl
    have q1 := hbk.cell 1 _ rfl
    have q2 := hbk.cell 2 _ rfl
    have q3 := hbk.cell 3 _ rfl
    refine bodyPost_ret (v := .tuple #[.agg #[.int .i64 0, .int .i64 0, .string ⟨#[]⟩, .slice none 0 0], .bool false]) (by simp [results, Tryd.results5, go_sem, q0, q1, q2, q3]) rfl ?_
    rw [HR.out]
    exact ⟨_, [], rfl, OVT.keeps _ _ _ _ _ (OVT.leaf okI0V okI0V (Nat.zero_le _)) (hon.keep (by simp)), List.nodup_nil, fun a ha => by simp at ha, belowOnly B3.out hon (Nat.le_refl _)⟩
  | some p =>
    obtain ⟨x, r⟩ := p
    have HS : RES.isSome = true := by rw [hr]; rfl
    rw [HS] at HVC
    have HX : Hid (RES = some (x, r)) := hr
    clear HS hr
    cases r with
    | cons c r =>
      have HR : Hid (OUT = (va0, false)) := by show _ = _; rw [← HOUT.out]; exact rdV_left (by rw [HRES.out, HX.out])
      clear HRES HOUT
      go_enter Tryd.func5, Tryd.ntmps5
      go_wp2_with (rw [← HW1.out])
      refine HVC.out.mono ?_
      rintro e w2 ⟨Xk, Xn, Xt, Xp, Xa, Xb, rfl, ho, hh⟩
      have HH : Hid (∀ x r, RES = some (x, r) → ∃ fp, OVT w2 [.int .i64 Xk, .int .i64 Xn, .string Xt, .slice Xp Xa Xb] x fp ∧ fp.Nodup ∧ (∀ a ∈ fp, w1.heap.size ≤ a ∧ a < w2.heap.size) ∧ RB w2 (w.heap.size + 1) r 0) := hh
      have S2 : w1.heap.size ≤ w2.heap.size := ho.size
      obtain ⟨w3, hw3⟩ : ∃ w3, w3 = w2.alloc (.cells #[.int .i64 Xk, .int .i64 Xn, .string Xt, .slice Xp Xa Xb] 24) := ⟨_, rfl⟩
      have hba : Below w2.heap.size w2 w3 := by rw [hw3]; exact (Below.refl _ _).alloc (Nat.le_refl _) _
      have S3 : w2.heap.size + 1 ≤ w3.heap.size := by rw [hw3, alloc_hs]; exact Nat.le_refl _
      have B3 : Hid (Below w.heap.size w w3) := (B1.out.trans (ho.below (by intro g hg; simp at hg; omega) (by omega))).trans (hba.mono (by omega))
      have R3 : Hid (Blk w3 w.heap.size #[.int .i64 0, .int .i64 0, .string ⟨#[]⟩, .slice none 0 0] 24) := (blkOffV R1.out ho (by omega)).next hba
      have Q3 : Hid (Blk w3 w2.heap.size #[.int .i64 Xk, .int .i64 Xn, .string Xt, .slice Xp Xa Xb] 24) := by show Blk _ _ _ _; rw [hw3]; exact Blk.new
      have HW3 : Hid (w3 = w2.alloc (.cells #[.int .i64 Xk, .int .i64 Xn, .string Xt, .slice Xp Xa Xb] 24)) := hw3
      clear ho hh hw3
      obtain ⟨fp, h1, h2, h3, h4⟩ := HH.out _ _ HX.out
      have RB3 : Hid (RB w3 (w.heap.size + 1) (c :: r) 0) := (by rw [HW3.out]; exact Blk.next h4 ((Below.refl _ _).alloc (Nat.le_refl _) _))
      have k0 : w3.cell? ⟨(w.heap.size + 1), 0, none⟩ = some (.string (byteArr (c :: r))) := RB3.out.cell 0 _ rfl
      have hemp : (byteArr (c :: r)).toList.isEmpty = false := by rw [Lib.toList_data]; rfl
      have hemp2 : (byteArr (c :: r)).toList = c :: r := by rw [Lib.toList_data]; rfl
      clear h1 h2 h3 h4
      have r0 : w3.cell? ⟨w.heap.size, 0, none⟩ = some (.int .i64 0) := R3.out.cell 0 _ rfl
      have rz0 := R3.out.frozen 0
      have r1 : w3.cell? ⟨w.heap.size, 1, none⟩ = some (.int .i64 0) := R3.out.cell 1 _ rfl
      have rz1 := R3.out.frozen 1
      have r2 : w3.cell? ⟨w.heap.size, 2, none⟩ = some (.string ⟨#[]⟩) := R3.out.cell 2 _ rfl
      have rz2 := R3.out.frozen 2
      have r3 : w3.cell? ⟨w.heap.size, 3, none⟩ = some (.slice none 0 0) := R3.out.cell 3 _ rfl
      have rz3 := R3.out.frozen 3
      go_wp2_with (rw [← HW3.out])
      have hon := st4_only (b := w.heap.size) (w := w3) (c0 := .int .i64 0) (c1 := .int .i64 0) (c2 := .string ⟨#[]⟩) (c3 := .slice none 0 0)
      have hbk := st4_blk R3.out (.int .i64 0) (.int .i64 0) (.string ⟨#[]⟩) (.slice none 0 0)
      have q0 := hbk.cell 0 _ rfl
      have q1 := hbk.cell 1 _ rfl
      have q2 := hbk.cell 2 _ rfl
      have q3 := hbk.cell 3 _ rfl
      refine bodyPost_ret (v := .tuple #[.agg #[.int .i64 0, .int .i64 0, .string ⟨#[]⟩, .slice none 0 0], .bool false]) (by simp [results, Tryd.results5, go_sem, q0, q1, q2, q3]) rfl ?_
      rw [HR.out]
      exact ⟨_, [], rfl, OVT.keeps _ _ _ _ _ (OVT.leaf okI0V okI0V (Nat.zero_le _)) (hon.keep (by simp)), List.nodup_nil, fun a ha => by simp at ha, belowOnly B3.out hon (Nat.le_refl _)⟩
    | nil =>
      have hw := rdV_whole (l := s.data.toList) (x := x) (by rw [HRES.out, HX.out])
      rw [HOUT.out] at hw
      have HR0 : Hid (OUT = if vaOk (SizeOf.sizeOf x) x 200 = true then (x, true) else (va0, false)) := hw
      clear HRES HOUT hw
      go_enter Tryd.func5, Tryd.ntmps5
      go_wp2_with (rw [← HW1.out])
      refine HVC.out.mono ?_
      rintro e w2 ⟨Xk, Xn, Xt, Xp, Xa, Xb, rfl, ho, hh⟩
      have HH : Hid (∀ x r, RES = some (x, r) → ∃ fp, OVT w2 [.int .i64 Xk, .int .i64 Xn, .string Xt, .slice Xp Xa Xb] x fp ∧ fp.Nodup ∧ (∀ a ∈ fp, w1.heap.size ≤ a ∧ a < w2.heap.size) ∧ RB w2 (w.heap.size + 1) r 0) := hh
      have S2 : w1.heap.size ≤ w2.heap.size := ho.size
      obtain ⟨w3, hw3⟩ : ∃ w3, w3 = w2.alloc (.cells #[.int .i64 Xk, .int .i64 Xn, .string Xt, .slice Xp Xa Xb] 24) := ⟨_, rfl⟩
      have hba : Below w2.heap.size w2 w3 := by rw [hw3]; exact (Below.refl _ _).alloc (Nat.le_refl _) _
      have S3 : w2.heap.size + 1 ≤ w3.heap.size := by rw [hw3, alloc_hs]; exact Nat.le_refl _
      have B3 : Hid (Below w.heap.size w w3) := (B1.out.trans (ho.below (by intro g hg; simp at hg; omega) (by omega))).trans (hba.mono (by omega))
      have R3 : Hid (Blk w3 w.heap.size #[.int .i64 0, .int .i64 0, .string ⟨#[]⟩, .slice none 0 0] 24) := (blkOffV R1.out ho (by omega)).next hba
      have Q3 : Hid (Blk w3 w2.heap.size #[.int .i64 Xk, .int .i64 Xn, .string Xt, .slice Xp Xa Xb] 24) := by show Blk _ _ _ _; rw [hw3]; exact Blk.new
      have HW3 : Hid (w3 = w2.alloc (.cells #[.int .i64 Xk, .int .i64 Xn, .string Xt, .slice Xp Xa Xb] 24)) := hw3
      clear ho hh hw3
      obtain ⟨fp, h1, h2, h3, h4⟩ := HH.out _ _ HX.out
      have RB3 : Hid (RB w3 (w.heap.size + 1) [] 0) := (by rw [HW3.out]; exact Blk.next h4 ((Below.refl _ _).alloc (Nat.le_refl _) _))
      have k0 : w3.cell? ⟨(w.heap.size + 1), 0, none⟩ = some (.string (byteArr [])) := RB3.out.cell 0 _ rfl
      have hemp : (byteArr []).toList.isEmpty = true := by rw [Lib.toList_data]; rfl
      have hemp2 : (byteArr []).toList = [] := by rw [Lib.toList_data]; rfl
      have X3 : Hid (OVT w3 [.int .i64 Xk, .int .i64 Xn, .string Xt, .slice Xp Xa Xb] x fp) := (by rw [HW3.out]; exact OVT.keeps _ _ _ _ _ h1 (KeepOn.below ((Below.refl _ _).alloc (Nat.le_refl _) _) (fun a ha => (h3 a ha).2)))
      have X_nd : Hid fp.Nodup := h2
      have X_rg : Hid (∀ a ∈ fp, w1.heap.size ≤ a ∧ a < w2.heap.size) := h3
      have OKC : Hid (Calls Tryd.prog 12 #[.agg #[.int .i64 Xk, .int .i64 Xn, .string Xt, .slice Xp Xa Xb]] w3 fun e w' => e = .returned (.bool (vaOk (SizeOf.sizeOf x) x 200)) ∧ Below w3.heap.size w3 w') := implValOk_any _ _ _ _ (HKW.out.below B3.out) (X3.out.fit.tree (fun _ _ => trivial))
      have v0 : w3.cell? ⟨w2.heap.size, 0, none⟩ = some (.int .i64 Xk) := Q3.out.cell 0 _ rfl
      have v1 : w3.cell? ⟨w2.heap.size, 1, none⟩ = some (.int .i64 Xn) := Q3.out.cell 1 _ rfl
      have v2 : w3.cell? ⟨w2.heap.size, 2, none⟩ = some (.string Xt) := Q3.out.cell 2 _ rfl
      have v3 : w3.cell? ⟨w2.heap.size, 3, none⟩ = some (.slice Xp Xa Xb) := Q3.out.cell 3 _ rfl
      clear h1 h2 h3 h4 HH
      cases hok : vaOk (SizeOf.sizeOf x) x 200 with
      | false =>
        rw [hok] at OKC HR0
        have HR : Hid (OUT = (va0, false)) := HR0.out
        clear hok HR0
        go_wp2_with (rw [← HW3.out])
        refine OKC.out.mono ?_
        rintro e w4 ⟨rfl, hb⟩
        have B4 : Hid (Below w.heap.size w w4) := B3.out.trans (hb.mono (by omega))
        have R4 : Hid (Blk w4 w.heap.size #[.int .i64 0, .int .i64 0, .string ⟨#[]⟩, .slice none 0 0] 24) := R3.out.next hb
        clear hb v0 v1 v2 v3
        have r0 : w4.cell? ⟨w.heap.size, 0, none⟩ = some (.int .i64 0) := R4.out.cell 0 _ rfl
        have rz0 := R4.out.frozen 0
        have r1 : w4.cell? ⟨w.heap.size, 1, none⟩ = some (.int .i64 0) := R4.out.cell 1 _ rfl
        have rz1 := R4.out.frozen 1
        have r2 : w4.cell? ⟨w.heap.size, 2, none⟩ = some (.string ⟨#[]⟩) := R4.out.cell 2 _ rfl
        have rz2 := R4.out.frozen 2
        have r3 : w4.cell? ⟨w.heap.size, 3, none⟩ = some (.slice none 0 0) := R4.out.cell 3 _ rfl
        have rz3 := R4.out.frozen 3
        go_wp2_with fail
        have hon := st4_only (b := w.heap.size) (w := w4) (c0 := .int .i64 0) (c1 := .int .i64 0) (c2 := .string ⟨#[]⟩) (c3 := .slice none 0 0)
        have hbk := st4_blk R4.out (.int .i64 0) (.int .i64 0) (.string ⟨#[]⟩) (.slice none 0 0)
        have q0 := hbk.cell 0 _ rfl
        have q1 := hbk.cell 1 _ rfl
        have q2 := hbk.cell 2 _ rfl
        have q3 := hbk.cell 3 _ rfl
        refine bodyPost_ret (v := .tuple #[.agg #[.int .i64 0, .int .i64 0, .string ⟨#[]⟩, .slice none 0 0], .bool false]) (by simp [results, Tryd.results5, go_sem, q0, q1, q2, q3]) rfl ?_
        rw [HR.out]
        exact ⟨_, [], rfl, OVT.keeps _ _ _ _ _ (OVT.leaf okI0V okI0V (Nat.zero_le _)) (hon.keep (by simp)), List.nodup_nil, fun a ha => by simp at ha, belowOnly B4.out hon (Nat.le_refl _)⟩
      | true =>
        rw [hok] at OKC HR0
        have HR : Hid (OUT = (x, true)) := HR0.out
        clear hok HR0
        go_wp2_with (rw [← HW3.out])
        refine OKC.out.mono ?_
        rintro e w4 ⟨rfl, hb⟩
        have S4 : w3.heap.size ≤ w4.heap.size := hb.size
        have B4 : Hid (Below w.heap.size w w4) := B3.out.trans (hb.mono (by omega))
        have R4 : Hid (Blk w4 w.heap.size #[.int .i64 0, .int .i64 0, .string ⟨#[]⟩, .slice none 0 0] 24) := R3.out.next hb
        have Q4 : Hid (Blk w4 w2.heap.size #[.int .i64 Xk, .int .i64 Xn, .string Xt, .slice Xp Xa Xb] 24) := Q3.out.next hb
        have X4 : Hid (OVT w4 [.int .i64 Xk, .int .i64 Xn, .string Xt, .slice Xp Xa Xb] x fp) := OVT.keeps _ _ _ _ _ X3.out (KeepOn.below hb X3.out.lt)
        clear hb v0 v1 v2 v3
        have v0 : w4.cell? ⟨w2.heap.size, 0, none⟩ = some (.int .i64 Xk) := Q4.out.cell 0 _ rfl
        have v1 : w4.cell? ⟨w2.heap.size, 1, none⟩ = some (.int .i64 Xn) := Q4.out.cell 1 _ rfl
        have v2 : w4.cell? ⟨w2.heap.size, 2, none⟩ = some (.string Xt) := Q4.out.cell 2 _ rfl
        have v3 : w4.cell? ⟨w2.heap.size, 3, none⟩ = some (.slice Xp Xa Xb) := Q4.out.cell 3 _ rfl
        have r0 : w4.cell? ⟨w.heap.size, 0, none⟩ = some (.int .i64 0) := R4.out.cell 0 _ rfl
        have rz0 := R4.out.frozen 0
        have r1 : w4.cell? ⟨w.heap.size, 1, none⟩ = some (.int .i64 0) := R4.out.cell 1 _ rfl
        have rz1 := R4.out.frozen 1
        have r2 : w4.cell? ⟨w.heap.size, 2, none⟩ = some (.string ⟨#[]⟩) := R4.out.cell 2 _ rfl
        have rz2 := R4.out.frozen 2
        have r3 : w4.cell? ⟨w.heap.size, 3, none⟩ = some (.slice none 0 0) := R4.out.cell 3 _ rfl
        have rz3 := R4.out.frozen 3
        go_wp2_with fail
        have hon := st4_only (b := w.heap.size) (w := w4) (c0 := .int .i64 Xk) (c1 := .int .i64 Xn) (c2 := .string Xt) (c3 := .slice Xp Xa Xb)
        have hbk := st4_blk R4.out (.int .i64 Xk) (.int .i64 Xn) (.string Xt) (.slice Xp Xa Xb)
        have q0 := hbk.cell 0 _ rfl
        have q1 := hbk.cell 1 _ rfl
        have q2 := hbk.cell 2 _ rfl
        have q3 := hbk.cell 3 _ rfl
        refine bodyPost_ret (v := .tuple #[.agg #[.int .i64 Xk, .int .i64 Xn, .string Xt, .slice Xp Xa Xb], .bool true]) (by simp [results, Tryd.results5, go_sem, q0, q1, q2, q3]) rfl ?_
        rw [HR.out]
        exact ⟨_, fp, rfl, OVT.keeps _ _ _ _ _ X4.out (hon.keep (fun ha => by have := X_rg.out _ ha; omega)), X_nd.out, fun a ha => by have := X_rg.out a ha; have := hon.size; omega, belowOnly B4.out hon (Nat.le_refl _)⟩
end Go.Proofs.YtafehfpjogbmfaaDoor
