/-
  The program's reader of values, by contract: a value at every depth. (Written by tools/mkrvvalue.py.)
-/
import Derived.Test.YtafehfpjogbmfaaDoorRvImplC
namespace Go.Proofs.YtafehfpjogbmfaaDoor
open Go.ChangeShapes Go.WideShapes Go.ChangeAt Go.RowKit
set_option linter.unusedVariables false
set_option linter.unusedSimpArgs false
set_option maxRecDepth 100000

theorem pre2 {l : List UInt8} {a b : UInt8} : Lib.hasPrefix l [a, b] = decide (l.take 2 = [a, b]) := by
  rw [← Lib.hasPrefix_of_take, Bool.eq_iff_iff]
  simp only [Bool.and_eq_true, decide_eq_true_eq, beq_iff_eq, List.length_cons, List.length_nil]
  constructor
  · exact fun h => h.2
  · intro h
    refine ⟨?_, h⟩
    have := congrArg List.length h
    simp at this
    omega
theorem accept2_yes {b : Nat} {l : List UInt8} {o : Int} (w : World) (hB : RB w b l o) (h : l.take 2 = [91, 93]) :
    Calls Tryd.prog 20 #[.pointer (some ⟨b, 0, none⟩), .string ⟨#[91, 93]⟩] w fun e w' => e = .returned (.bool true) ∧ RB w' b (l.drop 2) o ∧ OnlyB b w w' := by
  have := accept_any [91, 93] w hB
  unfold Lib.trimPrefix at this
  rw [pre2, if_pos (by rw [h]; rfl), decide_eq_true h] at this
  exact this
theorem accept2_no {b : Nat} {l : List UInt8} {o : Int} (w : World) (hB : RB w b l o) (h : ¬ l.take 2 = [91, 93]) :
    Calls Tryd.prog 20 #[.pointer (some ⟨b, 0, none⟩), .string ⟨#[91, 93]⟩] w fun e w' => e = .returned (.bool false) ∧ RB w' b l o ∧ OnlyB b w w' := by
  have := accept_any [91, 93] w hB
  unfold Lib.trimPrefix at this
  rw [pre2, decide_eq_false h] at this
  exact this
theorem okI3V : okI 3 := by show (Lit.int .i64 3).wf = true; rfl
theorem okI2V : okI 2 := by show (Lit.int .i64 2).wf = true; rfl
theorem okI4V : okI 4 := by show (Lit.int .i64 4).wf = true; rfl
set_option maxHeartbeats 16000000 in
theorem value_succ {w0 : World} {m d : Nat} (hm : m ≤ 1048577) (hW : WhoC w0 m d) : ValC w0 m (d + 1) := by
  intro w b l o hT hb0 hB hl _ hod ho
  have hblt : b < w.heap.size := hB.lt
  have HOD : Hid (o = 60 - (d : Int)) := by show _ = _; omega
  have HL : Hid (l.length < m) := hl
  have hl1 : Hid ((l.drop 1).length < m) := by show _ < _; simp; omega
  have HM : Hid (m ≤ 1048577) := hm
  have HHO : Hid (0 ≤ o) := ho
  clear hod hl ho hm
  have HT : Hid (TabV w0 w) := hT
  have HW0 : Hid (WhoC w0 m d) := hW
  obtain ⟨RES, hRES⟩ : ∃ RES, RES = pV m (d + 1) l := ⟨_, rfl⟩
  rw [← hRES]
  have HRES : Hid (pV m (d + 1) l = RES) := hRES.symm
  obtain ⟨w1, hw1⟩ : ∃ w1, w1 = w.alloc (.cells #[.int .i64 0, .int .i64 0, .string ⟨#[]⟩, .slice none 0 0] 24) := ⟨_, rfl⟩
  have S1 : w1.heap.size = w.heap.size + 1 := by rw [hw1, alloc_hs]
  have K1 : Hid (Below w.heap.size w w1) := by show Below _ _ _; rw [hw1]; exact (Below.refl _ _).alloc (Nat.le_refl _) _
  have RB1 : Hid (RB w1 b l o) := Blk.next hB K1.out
  have R1 : Hid (Blk w1 w.heap.size #[.int .i64 0, .int .i64 0, .string ⟨#[]⟩, .slice none 0 0] 24) := by show Blk _ _ _ _; rw [hw1]; exact Blk.new
  have HW1 : Hid (w1 = w.alloc (.cells #[.int .i64 0, .int .i64 0, .string ⟨#[]⟩, .slice none 0 0] 24)) := hw1
  clear hT hB hW hRES hw1
  by_cases c0 : l.take 2 = [91, 93]
  · have HR : Hid (RES = some (.mk 3 0 ⟨#[]⟩ [], l.drop 2)) := by
      show _ = _
      rw [← HRES.out]
      unfold pV
      rw [if_pos c0]
    have AE : Hid (Calls Tryd.prog 20 #[.pointer (some ⟨b, 0, none⟩), .string ⟨#[91, 93]⟩] w1 fun e w' => e = .returned (.bool true) ∧ RB w' b (l.drop 2) o ∧ OnlyB b w1 w') := accept2_yes w1 RB1.out c0
    clear HRES c0
    go_enter Tryd.func11, Tryd.ntmps11
    go_wp2_with (rw [← HW1.out])
    refine AE.out.mono ?_
    rintro e w2 ⟨rfl, hrb, on⟩
    have RBw2 : Hid (RB w2 b (l.drop 2) o) := hrb
    have ONw2 : Hid (OnlyB b w1 w2) := on
    clear hrb on
    have R2 : Hid (Blk w2 w.heap.size #[.int .i64 0, .int .i64 0, .string ⟨#[]⟩, .slice none 0 0] 24) := R1.out.only ONw2.out (by omega)
    have O2 : Hid (Off [b] w w2) := (Off.of_below (fp := [b]) K1.out).trans (offSelfV ONw2.out)
    have r0 : w2.cell? ⟨w.heap.size, 0, none⟩ = some (.int .i64 0) := R2.out.cell 0 _ rfl
    have rz0 := R2.out.frozen 0
    have r1 : w2.cell? ⟨w.heap.size, 1, none⟩ = some (.int .i64 0) := R2.out.cell 1 _ rfl
    have rz1 := R2.out.frozen 1
    have r2 : w2.cell? ⟨w.heap.size, 2, none⟩ = some (.string ⟨#[]⟩) := R2.out.cell 2 _ rfl
    have rz2 := R2.out.frozen 2
    have r3 : w2.cell? ⟨w.heap.size, 3, none⟩ = some (.slice none 0 0) := R2.out.cell 3 _ rfl
    have rz3 := R2.out.frozen 3
    go_wp2_with fail
    have hon := st4_only (b := w.heap.size) (w := w2) (c0 := .int .i64 3) (c1 := .int .i64 0) (c2 := .string ⟨#[]⟩) (c3 := .slice none 0 0)
    have hbk := st4_blk R2.out (.int .i64 3) (.int .i64 0) (.string ⟨#[]⟩) (.slice none 0 0)
    have q0 := hbk.cell 0 _ rfl
    have q1 := hbk.cell 1 _ rfl
    have q2 := hbk.cell 2 _ rfl
    have q3 := hbk.cell 3 _ rfl
    refine bodyPost_ret (v := .tuple #[.agg #[.int .i64 3, .int .i64 0, .string ⟨#[]⟩, .slice none 0 0], .bool true]) (by simp [results, Tryd.results11, go_sem, q0, q1, q2, q3]) rfl ?_
    rw [HR.out]
    refine ⟨3, 0, ⟨#[]⟩, none, 0, 0, rfl, offOnlyV O2.out hon (Nat.le_refl _), fun x r hx => ?_⟩
    simp only [Option.some.injEq, Prod.mk.injEq] at hx
    obtain ⟨rfl, rfl⟩ := hx
    exact ⟨[], OVT.leaf okI3V okI0V (Nat.zero_le _), List.nodup_nil, fun a ha => by simp at ha, Blk.only RBw2.out hon (by omega)⟩
  have AN : Hid (Calls Tryd.prog 20 #[.pointer (some ⟨b, 0, none⟩), .string ⟨#[91, 93]⟩] w1 fun e w' => e = .returned (.bool false) ∧ RB w' b l o ∧ OnlyB b w1 w') := accept2_no w1 RB1.out c0
  by_cases c1 : l.take 1 = [91]
  · have HR : Hid (pW (pV m d) 4 124 93 m [] (l.drop 1) = RES) := by
      show _ = _
      rw [← HRES.out]
      conv => rhs; unfold pV
      rw [if_neg c0, if_pos c1]
    have A1 : Hid (∀ w2, RB w2 b l o → Calls Tryd.prog 20 #[.pointer (some ⟨b, 0, none⟩), .string ⟨#[91]⟩] w2 fun e w' => e = .returned (.bool true) ∧ RB w' b (l.drop 1) o ∧ OnlyB b w2 w') := fun w2 h => accept_yes w2 h c1
    clear HRES c0 c1
    go_enter Tryd.func11, Tryd.ntmps11
    go_wp2_with (rw [← HW1.out])
    refine AN.out.mono ?_
    rintro e w2 ⟨rfl, hrb, on⟩
    have RBw2 : Hid (RB w2 b l o) := hrb
    have ONw2 : Hid (OnlyB b w1 w2) := on
    clear hrb on
    go_wp2_with fail
    refine (A1.out _ RBw2.out).mono ?_
    rintro e w3 ⟨rfl, hrb, on⟩
    have RBw3 : Hid (RB w3 b (l.drop 1) o) := hrb
    have ONw3 : Hid (OnlyB b w1 w3) := ONw2.out.trans on
    clear hrb on
    have R9 : Hid (Blk w3 w.heap.size #[.int .i64 0, .int .i64 0, .string ⟨#[]⟩, .slice none 0 0] 24) := R1.out.only ONw3.out (by omega)
    have O9 : Hid (Off [b] w w3) := (Off.of_below (fp := [b]) K1.out).trans (offSelfV ONw3.out)
    have T9 : Hid (TabV w0 w3) := HT.out.offed O9.out hb0
    have S9 : w3.heap.size = w1.heap.size := ONw3.out.size
    have CC : Hid (Calls Tryd.prog 21 #[.pointer (some ⟨b, 0, none⟩), .int .i64 4, .string ⟨#[124]⟩, .string ⟨#[93]⟩] w3 (PvGot w3 b o RES)) := by show Calls _ _ _ _ _; rw [← HR.out]; exact HW0.out w3 b _ o 4 124 93 T9.out hb0 RBw3.out hl1.out HOD.out HHO.out okI4V
    go_wp2_with fail
    refine CC.out.mono ?_
    rintro e wr ⟨Xk, Xn, Xt, Xp, Xa, Xb, rfl, ho, hh⟩
    have HO : Hid (Off [b] w3 wr) := ho
    have HH : Hid (∀ x r, RES = some (x, r) → ∃ fp, OVT wr [.int .i64 Xk, .int .i64 Xn, .string Xt, .slice Xp Xa Xb] x fp ∧ fp.Nodup ∧ (∀ a ∈ fp, w3.heap.size ≤ a ∧ a < wr.heap.size) ∧ RB wr b r o) := hh
    have Rr : Hid (Blk wr w.heap.size #[.int .i64 0, .int .i64 0, .string ⟨#[]⟩, .slice none 0 0] 24) := blkOffV R9.out ho (by omega)
    clear ho hh
    have r0 : wr.cell? ⟨w.heap.size, 0, none⟩ = some (.int .i64 0) := Rr.out.cell 0 _ rfl
    have rz0 := Rr.out.frozen 0
    have r1 : wr.cell? ⟨w.heap.size, 1, none⟩ = some (.int .i64 0) := Rr.out.cell 1 _ rfl
    have rz1 := Rr.out.frozen 1
    have r2 : wr.cell? ⟨w.heap.size, 2, none⟩ = some (.string ⟨#[]⟩) := Rr.out.cell 2 _ rfl
    have rz2 := Rr.out.frozen 2
    have r3 : wr.cell? ⟨w.heap.size, 3, none⟩ = some (.slice none 0 0) := Rr.out.cell 3 _ rfl
    have rz3 := Rr.out.frozen 3
    go_wp2_with fail
    have hon := st4_only (b := w.heap.size) (w := wr) (c0 := .int .i64 Xk) (c1 := .int .i64 Xn) (c2 := .string Xt) (c3 := .slice Xp Xa Xb)
    have hbk := st4_blk Rr.out (.int .i64 Xk) (.int .i64 Xn) (.string Xt) (.slice Xp Xa Xb)
    have q0 := hbk.cell 0 _ rfl
    have q1 := hbk.cell 1 _ rfl
    have q2 := hbk.cell 2 _ rfl
    have q3 := hbk.cell 3 _ rfl
    refine bodyPost_ret (v := .tuple #[.agg #[.int .i64 Xk, .int .i64 Xn, .string Xt, .slice Xp Xa Xb], .bool RES.isSome]) (by simp [results, Tryd.results11, go_sem, q0, q1, q2, q3]) rfl ?_
    refine ⟨Xk, Xn, Xt, Xp, Xa, Xb, rfl, offOnlyV (O9.out.trans HO.out) hon (Nat.le_refl _), fun x r hx => ?_⟩
    obtain ⟨fp, h1, h2, h3, h4⟩ := HH.out x r hx
    exact ⟨fp, OVT.keeps _ _ _ _ _ h1 (hon.keep (fun ha => by have := h3 _ ha; omega)), h2, fun a ha => by have := h3 a ha; have := hon.size; omega, Blk.only h4 hon (by omega)⟩
  have AN1 : Hid (∀ w2, RB w2 b l o → Calls Tryd.prog 20 #[.pointer (some ⟨b, 0, none⟩), .string ⟨#[91]⟩] w2 fun e w' => e = .returned (.bool false) ∧ RB w' b l o ∧ OnlyB b w2 w') := fun w2 h => accept_no w2 h c1
  by_cases c2 : l.take 1 = [123]
  · have HR : Hid (pW (pV m d) 2 44 125 m [] (l.drop 1) = RES) := by
      show _ = _
      rw [← HRES.out]
      conv => rhs; unfold pV
      rw [if_neg c0, if_neg c1, if_pos c2]
    have A2 : Hid (∀ w2, RB w2 b l o → Calls Tryd.prog 20 #[.pointer (some ⟨b, 0, none⟩), .string ⟨#[123]⟩] w2 fun e w' => e = .returned (.bool true) ∧ RB w' b (l.drop 1) o ∧ OnlyB b w2 w') := fun w2 h => accept_yes w2 h c2
    clear HRES c0 c1 c2
    go_enter Tryd.func11, Tryd.ntmps11
    go_wp2_with (rw [← HW1.out])
    refine AN.out.mono ?_
    rintro e w2 ⟨rfl, hrb, on⟩
    have RBw2 : Hid (RB w2 b l o) := hrb
    have ONw2 : Hid (OnlyB b w1 w2) := on
    clear hrb on
    go_wp2_with fail
    refine (AN1.out _ RBw2.out).mono ?_
    rintro e w3 ⟨rfl, hrb, on⟩
    have RBw3 : Hid (RB w3 b l o) := hrb
    have ONw3 : Hid (OnlyB b w1 w3) := ONw2.out.trans on
    clear hrb on
    go_wp2_with fail
    refine (A2.out _ RBw3.out).mono ?_
    rintro e w4 ⟨rfl, hrb, on⟩
    have RBw4 : Hid (RB w4 b (l.drop 1) o) := hrb
    have ONw4 : Hid (OnlyB b w1 w4) := ONw3.out.trans on
    clear hrb on
    have R9 : Hid (Blk w4 w.heap.size #[.int .i64 0, .int .i64 0, .string ⟨#[]⟩, .slice none 0 0] 24) := R1.out.only ONw4.out (by omega)
    have O9 : Hid (Off [b] w w4) := (Off.of_below (fp := [b]) K1.out).trans (offSelfV ONw4.out)
    have T9 : Hid (TabV w0 w4) := HT.out.offed O9.out hb0
    have S9 : w4.heap.size = w1.heap.size := ONw4.out.size
    have CC : Hid (Calls Tryd.prog 21 #[.pointer (some ⟨b, 0, none⟩), .int .i64 2, .string ⟨#[44]⟩, .string ⟨#[125]⟩] w4 (PvGot w4 b o RES)) := by show Calls _ _ _ _ _; rw [← HR.out]; exact HW0.out w4 b _ o 2 44 125 T9.out hb0 RBw4.out hl1.out HOD.out HHO.out okI2V
    go_wp2_with fail
    refine CC.out.mono ?_
    rintro e wr ⟨Xk, Xn, Xt, Xp, Xa, Xb, rfl, ho, hh⟩
    have HO : Hid (Off [b] w4 wr) := ho
    have HH : Hid (∀ x r, RES = some (x, r) → ∃ fp, OVT wr [.int .i64 Xk, .int .i64 Xn, .string Xt, .slice Xp Xa Xb] x fp ∧ fp.Nodup ∧ (∀ a ∈ fp, w4.heap.size ≤ a ∧ a < wr.heap.size) ∧ RB wr b r o) := hh
    have Rr : Hid (Blk wr w.heap.size #[.int .i64 0, .int .i64 0, .string ⟨#[]⟩, .slice none 0 0] 24) := blkOffV R9.out ho (by omega)
    clear ho hh
    have r0 : wr.cell? ⟨w.heap.size, 0, none⟩ = some (.int .i64 0) := Rr.out.cell 0 _ rfl
    have rz0 := Rr.out.frozen 0
    have r1 : wr.cell? ⟨w.heap.size, 1, none⟩ = some (.int .i64 0) := Rr.out.cell 1 _ rfl
    have rz1 := Rr.out.frozen 1
    have r2 : wr.cell? ⟨w.heap.size, 2, none⟩ = some (.string ⟨#[]⟩) := Rr.out.cell 2 _ rfl
    have rz2 := Rr.out.frozen 2
    have r3 : wr.cell? ⟨w.heap.size, 3, none⟩ = some (.slice none 0 0) := Rr.out.cell 3 _ rfl
    have rz3 := Rr.out.frozen 3
    go_wp2_with fail
    have hon := st4_only (b := w.heap.size) (w := wr) (c0 := .int .i64 Xk) (c1 := .int .i64 Xn) (c2 := .string Xt) (c3 := .slice Xp Xa Xb)
    have hbk := st4_blk Rr.out (.int .i64 Xk) (.int .i64 Xn) (.string Xt) (.slice Xp Xa Xb)
    have q0 := hbk.cell 0 _ rfl
    have q1 := hbk.cell 1 _ rfl
    have q2 := hbk.cell 2 _ rfl
    have q3 := hbk.cell 3 _ rfl
    refine bodyPost_ret (v := .tuple #[.agg #[.int .i64 Xk, .int .i64 Xn, .string Xt, .slice Xp Xa Xb], .bool RES.isSome]) (by simp [results, Tryd.results11, go_sem, q0, q1, q2, q3]) rfl ?_
    refine ⟨Xk, Xn, Xt, Xp, Xa, Xb, rfl, offOnlyV (O9.out.trans HO.out) hon (Nat.le_refl _), fun x r hx => ?_⟩
    obtain ⟨fp, h1, h2, h3, h4⟩ := HH.out x r hx
    exact ⟨fp, OVT.keeps _ _ _ _ _ h1 (hon.keep (fun ha => by have := h3 _ ha; omega)), h2, fun a ha => by have := h3 a ha; have := hon.size; omega, Blk.only h4 hon (by omega)⟩
  · have HR : Hid ((match sgV (l.take (wLen l)) with | none => none | some x => some (x, l.drop (wLen l))) = RES) := by
      show _ = _
      rw [← HRES.out]
      conv => rhs; unfold pV
      rw [if_neg c0, if_neg c1, if_neg c2]
      rfl
    have A2 : Hid (∀ w2, RB w2 b l o → Calls Tryd.prog 20 #[.pointer (some ⟨b, 0, none⟩), .string ⟨#[123]⟩] w2 fun e w' => e = .returned (.bool false) ∧ RB w' b l o ∧ OnlyB b w2 w') := fun w2 h => accept_no w2 h c2
    clear HRES c0 c1 c2
    go_enter Tryd.func11, Tryd.ntmps11
    go_wp2_with (rw [← HW1.out])
    refine AN.out.mono ?_
    rintro e w2 ⟨rfl, hrb, on⟩
    have RBw2 : Hid (RB w2 b l o) := hrb
    have ONw2 : Hid (OnlyB b w1 w2) := on
    clear hrb on
    go_wp2_with fail
    refine (AN1.out _ RBw2.out).mono ?_
    rintro e w3 ⟨rfl, hrb, on⟩
    have RBw3 : Hid (RB w3 b l o) := hrb
    have ONw3 : Hid (OnlyB b w1 w3) := ONw2.out.trans on
    clear hrb on
    go_wp2_with fail
    refine (A2.out _ RBw3.out).mono ?_
    rintro e w4 ⟨rfl, hrb, on⟩
    have RBw4 : Hid (RB w4 b l o) := hrb
    have ONw4 : Hid (OnlyB b w1 w4) := ONw3.out.trans on
    clear hrb on
    have R9 : Hid (Blk w4 w.heap.size #[.int .i64 0, .int .i64 0, .string ⟨#[]⟩, .slice none 0 0] 24) := R1.out.only ONw4.out (by omega)
    have O9 : Hid (Off [b] w w4) := (Off.of_below (fp := [b]) K1.out).trans (offSelfV ONw4.out)
    have T9 : Hid (TabV w0 w4) := HT.out.offed O9.out hb0
    have S9 : w4.heap.size = w1.heap.size := ONw4.out.size
    have CC : Hid (Calls Tryd.prog 22 #[.pointer (some ⟨b, 0, none⟩)] w4 (PvGot w4 b o RES)) := by show Calls _ _ _ _ _; rw [← HR.out]; exact single_any w4 T9.out RBw4.out (by have := HL.out; have := HM.out; omega) hb0
    go_wp2_with fail
    refine CC.out.mono ?_
    rintro e wr ⟨Xk, Xn, Xt, Xp, Xa, Xb, rfl, ho, hh⟩
    have HO : Hid (Off [b] w4 wr) := ho
    have HH : Hid (∀ x r, RES = some (x, r) → ∃ fp, OVT wr [.int .i64 Xk, .int .i64 Xn, .string Xt, .slice Xp Xa Xb] x fp ∧ fp.Nodup ∧ (∀ a ∈ fp, w4.heap.size ≤ a ∧ a < wr.heap.size) ∧ RB wr b r o) := hh
    have Rr : Hid (Blk wr w.heap.size #[.int .i64 0, .int .i64 0, .string ⟨#[]⟩, .slice none 0 0] 24) := blkOffV R9.out ho (by omega)
    clear ho hh
    have r0 : wr.cell? ⟨w.heap.size, 0, none⟩ = some (.int .i64 0) := Rr.out.cell 0 _ rfl
    have rz0 := Rr.out.frozen 0
    have r1 : wr.cell? ⟨w.heap.size, 1, none⟩ = some (.int .i64 0) := Rr.out.cell 1 _ rfl
    have rz1 := Rr.out.frozen 1
    have r2 : wr.cell? ⟨w.heap.size, 2, none⟩ = some (.string ⟨#[]⟩) := Rr.out.cell 2 _ rfl
    have rz2 := Rr.out.frozen 2
    have r3 : wr.cell? ⟨w.heap.size, 3, none⟩ = some (.slice none 0 0) := Rr.out.cell 3 _ rfl
    have rz3 := Rr.out.frozen 3
    go_wp2_with fail
    have hon := st4_only (b := w.heap.size) (w := wr) (c0 := .int .i64 Xk) (c1 := .int .i64 Xn) (c2 := .string Xt) (c3 := .slice Xp Xa Xb)
    have hbk := st4_blk Rr.out (.int .i64 Xk) (.int .i64 Xn) (.string Xt) (.slice Xp Xa Xb)
    have q0 := hbk.cell 0 _ rfl
    have q1 := hbk.cell 1 _ rfl
    have q2 := hbk.cell 2 _ rfl
    have q3 := hbk.cell 3 _ rfl
    refine bodyPost_ret (v := .tuple #[.agg #[.int .i64 Xk, .int .i64 Xn, .string Xt, .slice Xp Xa Xb], .bool RES.isSome]) (by simp [results, Tryd.results11, go_sem, q0, q1, q2, q3]) rfl ?_
    refine ⟨Xk, Xn, Xt, Xp, Xa, Xb, rfl, offOnlyV (O9.out.trans HO.out) hon (Nat.le_refl _), fun x r hx => ?_⟩
    obtain ⟨fp, h1, h2, h3, h4⟩ := HH.out x r hx
    exact ⟨fp, OVT.keeps _ _ _ _ _ h1 (hon.keep (fun ha => by have := h3 _ ha; omega)), h2, fun a ha => by have := h3 a ha; have := hon.size; omega, Blk.only h4 hon (by omega)⟩
theorem value_any {w0 : World} {m : Nat} (hm : m ≤ 1048577) : ∀ d, ValC w0 m d
  | 0 => fun w b l o _ _ _ _ h => by omega
  | d + 1 => value_succ hm (whole_of hm (value_any hm d))
end Go.Proofs.YtafehfpjogbmfaaDoor
