/-
  The program's reader of values: a list's cell or a tuple, by contract. (Written by tools/mkrvwhole.py.)
-/
import Derived.Test.YtafehfpjogbmfaaDoorRvImplB
namespace Go.Proofs.YtafehfpjogbmfaaDoor
open Go.ChangeShapes Go.WideShapes Go.ChangeAt Go.RowKit
set_option linter.unusedVariables false
set_option linter.unusedSimpArgs false
set_option maxRecDepth 100000

theorem infoV : (Tryd.prog.info? 24).map (fun i => (i.zero, i.size, i.bytes)) = some (some (.agg #[.int .i64 0, .int .i64 0, .string ⟨#[]⟩, .slice none 0 0]), 4, 56) := by kernel_rfl
theorem oneV {a b : Int} {t : ByteArray} {p : Option Addr} {n q : Nat} : ∀ u ∈ [Value.int .i64 a, .int .i64 b, .string t, .slice p n q], u.oneCell' = true := by
  intro u hu
  simp at hu
  rcases hu with rfl | rfl | rfl | rfl <;> rfl
theorem pre1 {l : List UInt8} {c : UInt8} : Lib.hasPrefix l [c] = decide (l.take 1 = [c]) := by
  unfold Lib.hasPrefix
  cases l with
  | nil => rfl
  | cons a l =>
    by_cases h : c = a
    · subst h; simp
    · have h1 : (c == a) = false := beq_eq_false_iff_ne.2 h
      have h2 : ¬ a = c := fun e => h e.symm
      simp [List.isPrefixOf, h1, h2]
theorem trim1 {l : List UInt8} {c : UInt8} : Lib.trimPrefix l [c] = if l.take 1 = [c] then l.drop 1 else l := by
  unfold Lib.trimPrefix
  rw [pre1]
  by_cases h : l.take 1 = [c]
  · rw [if_pos h, if_pos (decide_eq_true h)]; rfl
  · rw [if_neg h, if_neg (by simp [h])]
theorem accept_yes {b : Nat} {l : List UInt8} {o : Int} {c : UInt8} (w : World) (hB : RB w b l o) (h : l.take 1 = [c]) :
    Calls Tryd.prog 20 #[.pointer (some ⟨b, 0, none⟩), .string ⟨#[c]⟩] w fun e w' => e = .returned (.bool true) ∧ RB w' b (l.drop 1) o ∧ OnlyB b w w' := by
  have := accept_any [c] w hB
  rw [pre1, trim1, if_pos h, decide_eq_true h] at this
  exact this
theorem accept_no {b : Nat} {l : List UInt8} {o : Int} {c : UInt8} (w : World) (hB : RB w b l o) (h : ¬ l.take 1 = [c]) :
    Calls Tryd.prog 20 #[.pointer (some ⟨b, 0, none⟩), .string ⟨#[c]⟩] w fun e w' => e = .returned (.bool false) ∧ RB w' b l o ∧ OnlyB b w w' := by
  have := accept_any [c] w hB
  rw [pre1, trim1, if_neg h, decide_eq_false h] at this
  exact this
def ValC (w0 : World) (m d : Nat) : Prop := ∀ (w : World) (b : Nat) (l : List UInt8) (o : Int), TabV w0 w → w0.heap.size ≤ b → RB w b l o → l.length < m → 1 ≤ d → o = 61 - (d : Int) → 0 ≤ o →
  Calls Tryd.prog 11 #[.pointer (some ⟨b, 0, none⟩)] w (PvGot w b o (pV m d l))
def WhoC (w0 : World) (m d : Nat) : Prop := ∀ (w : World) (b : Nat) (l : List UInt8) (o kd : Int) (b1 e1 : UInt8), TabV w0 w → w0.heap.size ≤ b → RB w b l o → l.length < m → o = 60 - (d : Int) → 0 ≤ o → okI kd →
  Calls Tryd.prog 21 #[.pointer (some ⟨b, 0, none⟩), .int .i64 kd, .string ⟨#[b1]⟩, .string ⟨#[e1]⟩] w (PvGot w b o (pW (pV m d) kd b1 e1 m [] l))
theorem pW_none {V : List UInt8 → Option (Va × List UInt8)} {k : Int} {b e : UInt8} {m : Nat} {acc : List Va} {l : List UInt8} (h : V l = none) : pW V k b e m acc l = none := by
  cases m with
  | zero => rfl
  | succ m => unfold pW; rw [h]
/-- What stands at the head of the loop. -/
def WhoInv (w wr : World) (b : Nat) (o kd : Int) (CV : Value) (acc : List Va) (l : List UInt8) : Prop :=
  Blk wr w.heap.size #[.int .i64 0, .int .i64 0, .string ⟨#[]⟩, .slice none 0 0] 24 ∧ Blk wr (w.heap.size + 1) #[.int .i64 kd, .int .i64 0, .string ⟨#[]⟩, CV] 24 ∧
    GrowO 24 4 OVT wr (w.heap.size + 2) wr.heap.size CV acc ∧ RB wr b l (o + 1) ∧ Off [b] w wr ∧ w.heap.size + 2 ≤ wr.heap.size
set_option maxHeartbeats 16000000 in
theorem whole_of {w0 : World} {m d : Nat} (hm : m ≤ 1048577) (hV : ValC w0 m d) : WhoC w0 m d := by
  intro w b l o kd b1 e1 hT hb0 hB hl hod ho hkd
  have hblt : b < w.heap.size := hB.lt
  have HOD : Hid (o = 60 - (d : Int)) := hod
  have ho60 : o ≤ 60 := by omega
  clear hod
  have HT : Hid (TabV w0 w) := hT
  have HK : Hid (okI kd) := hkd
  have HV0 : Hid (ValC w0 m d) := hV
  obtain ⟨RES, hRES⟩ : ∃ RES, RES = pW (pV m d) kd b1 e1 m [] l := ⟨_, rfl⟩
  rw [← hRES]
  have HRES : Hid (pW (pV m d) kd b1 e1 m [] l = RES) := hRES.symm
  obtain ⟨w1, hw1⟩ : ∃ w1, w1 = (w.alloc (.cells #[.int .i64 0, .int .i64 0, .string ⟨#[]⟩, .slice none 0 0] 24)).alloc (.cells #[.int .i64 kd, .int .i64 0, .string ⟨#[]⟩, .slice none 0 0] 24) := ⟨_, rfl⟩
  have hwa : w.heap.size + 1 = (w.alloc (.cells #[.int .i64 0, .int .i64 0, .string ⟨#[]⟩, .slice none 0 0] 24)).heap.size := by rw [alloc_hs]
  have s1 : w1.heap.size = w.heap.size + 2 := by rw [hw1, alloc_hs, alloc_hs]
  have K1 : Hid (Below w.heap.size w w1) := by show Below _ _ _; rw [hw1]; exact ((Below.refl _ _).alloc (Nat.le_refl _) _).trans ((Below.refl _ _).alloc (by rw [alloc_hs]; omega) _)
  have RB1 : Hid (RB w1 b l o) := Blk.next hB K1.out
  have R1 : Hid (Blk w1 w.heap.size #[.int .i64 0, .int .i64 0, .string ⟨#[]⟩, .slice none 0 0] 24) := by show Blk _ _ _ _; rw [hw1]; exact Blk.next Blk.new ((Below.refl _ _).alloc (Nat.le_refl _) _)
  have E1 : Hid (Blk w1 (w.heap.size + 1) #[.int .i64 kd, .int .i64 0, .string ⟨#[]⟩, .slice none 0 0] 24) := by show Blk _ _ _ _; rw [hw1, hwa]; exact Blk.new
  have HW1 : Hid (w1 = (w.alloc (.cells #[.int .i64 0, .int .i64 0, .string ⟨#[]⟩, .slice none 0 0] 24)).alloc (.cells #[.int .i64 kd, .int .i64 0, .string ⟨#[]⟩, .slice none 0 0] 24)) := hw1
  have c1 : w1.cell? ⟨b, 1, none⟩ = some (.int .i64 o) := RB1.out.cell 1 _ rfl
  have z1 := RB1.out.frozen 1
  obtain ⟨w2, hw2⟩ : ∃ w2, w2 = w1.setCell ⟨b, 1, none⟩ (.int .i64 (o + 1)) := ⟨_, rfl⟩
  have on2 : OnlyB b w1 w2 := by rw [hw2]; exact OnlyB.set
  have s2 : w2.heap.size = w.heap.size + 2 := by rw [on2.size, s1]
  have RB2 : Hid (RB w2 b l (o + 1)) := by show Blk _ _ _ _; rw [hw2]; exact RB1.out.same rfl
  have R2 : Hid (Blk w2 w.heap.size #[.int .i64 0, .int .i64 0, .string ⟨#[]⟩, .slice none 0 0] 24) := R1.out.only on2 (by omega)
  have E2 : Hid (Blk w2 (w.heap.size + 1) #[.int .i64 kd, .int .i64 0, .string ⟨#[]⟩, .slice none 0 0] 24) := E1.out.only on2 (by omega)
  have O2 : Hid (Off [b] w w2) := (Off.of_below (fp := [b]) K1.out).trans (offSelfV on2)
  have HW2 : Hid (w2 = w1.setCell ⟨b, 1, none⟩ (.int .i64 (o + 1))) := hw2
  have IN : Hid (WhoInv w w2 b o kd (.slice none 0 0) [] l) := ⟨R2.out, E2.out, by rw [s2]; exact GrowO.nil (by omega), RB2.out, O2.out, by omega⟩
  have c2 : w2.cell? ⟨b, 1, none⟩ = some (.int .i64 (o + 1)) := RB2.out.cell 1 _ rfl
  clear hT hB hkd hV hRES hw1 hw2 hwa on2 R1 E1 RB1
  by_cases hd0 : d = 0
  · have g60 : (60 : Int) < o + 1 := by have := HOD.out; omega
    have HR : Hid (RES = none) := by
      show _ = _
      rw [← HRES.out, hd0]
      exact pW_none rfl
    clear HRES IN hd0
    have r0 : w2.cell? ⟨w.heap.size, 0, none⟩ = some (.int .i64 0) := R2.out.cell 0 _ rfl
    have rz0 := R2.out.frozen 0
    have r1 : w2.cell? ⟨w.heap.size, 1, none⟩ = some (.int .i64 0) := R2.out.cell 1 _ rfl
    have rz1 := R2.out.frozen 1
    have r2 : w2.cell? ⟨w.heap.size, 2, none⟩ = some (.string ⟨#[]⟩) := R2.out.cell 2 _ rfl
    have rz2 := R2.out.frozen 2
    have r3 : w2.cell? ⟨w.heap.size, 3, none⟩ = some (.slice none 0 0) := R2.out.cell 3 _ rfl
    have rz3 := R2.out.frozen 3
    go_enter Tryd.func21, Tryd.ntmps21
    go_wp2_with (first | rw [← HW1.out] | rw [← HW2.out])
    have hon := st4_only (b := w.heap.size) (w := w2) (c0 := .int .i64 0) (c1 := .int .i64 0) (c2 := .string ⟨#[]⟩) (c3 := .slice none 0 0)
    have hbk := st4_blk R2.out (.int .i64 0) (.int .i64 0) (.string ⟨#[]⟩) (.slice none 0 0)
    have q0 := hbk.cell 0 _ rfl
    have q1 := hbk.cell 1 _ rfl
    have q2 := hbk.cell 2 _ rfl
    have q3 := hbk.cell 3 _ rfl
    refine bodyPost_ret (v := .tuple #[.agg #[.int .i64 0, .int .i64 0, .string ⟨#[]⟩, .slice none 0 0], .bool false]) (by simp [results, Tryd.results21, go_sem, q0, q1, q2, q3]) rfl ?_
    rw [HR.out]
    exact ⟨0, 0, ⟨#[]⟩, none, 0, 0, rfl, offOnlyV O2.out hon (Nat.le_refl _), fun x r h => by cases h⟩
  · have HD1 : Hid (1 ≤ d) := by show 1 ≤ d; omega
    have g60 : ¬ ((60 : Int) < o + 1) := by have := HOD.out; omega
    clear hd0 R2 E2 RB2 O2
    go_enter Tryd.func21, Tryd.ntmps21
    go_wp2_with (first | rw [← HW1.out] | rw [← HW2.out])
    go_loopg [11, 12] m (fun g _ _ wr => ∃ (acc : List Va) (CV : Value) (l' : List UInt8), l'.length < g ∧ l'.length < m ∧ acc.length + l'.length ≤ l.length ∧ Hid (pW (pV m d) kd b1 e1 g acc l' = RES) ∧ Hid (WhoInv w wr b o kd CV acc l'))
    case atStart => exact ⟨[], _, l, hl, hl, by simp, HRES.out, IN.out⟩
    case round =>
      clear IN HRES HW1 HW2 K1 c1 z1 c2
      obtain ⟨acc, CV, l', hlg, hlm, hacc, HF, HI⟩ := hrel
      obtain ⟨cR, cE, cG, cB, cO, S0⟩ := HI.out
      obtain ⟨cp, cc, rfl, -, -⟩ := id cG.shape
      clear HI
      obtain ⟨g, rfl⟩ : ∃ g, gk = g + 1 := ⟨gk - 1, by omega⟩
      have R0 : Hid (Blk wr w.heap.size #[.int .i64 0, .int .i64 0, .string ⟨#[]⟩, .slice none 0 0] 24) := cR
      have E0 : Hid (Blk wr (w.heap.size + 1) #[.int .i64 kd, .int .i64 0, .string ⟨#[]⟩, .slice cp acc.length cc] 24) := cE
      have G0 : Hid (GrowO 24 4 OVT wr (w.heap.size + 2) wr.heap.size (.slice cp acc.length cc) acc) := cG
      have RB0 : Hid (RB wr b l' (o + 1)) := cB
      have O0 : Hid (Off [b] w wr) := cO
      have T0 : Hid (TabV w0 wr) := HT.out.offed cO hb0
      have hvc := HV0.out wr b l' (o + 1) T0.out hb0 cB hlm HD1.out (by have := HOD.out; omega) (by omega)
      clear cR cE cG cB cO
      cases hpv : pV m d l' with
      | none =>
        have HVC : Hid (Calls Tryd.prog 11 #[.pointer (some ⟨b, 0, none⟩)] wr fun e w' => ∃ ck cn ct cp cl cq, e = .returned (.tuple #[.agg #[.int .i64 ck, .int .i64 cn, .string ct, .slice cp cl cq], .bool false]) ∧ Off [b] wr w') := by
          rw [hpv] at hvc
          exact hvc.mono fun e w' ⟨ck, cn, ct, cp, cl, cq, he, ho, _⟩ => ⟨ck, cn, ct, cp, cl, cq, he, ho⟩
        have HR : Hid (RES = none) := by show _ = _; rw [← HF.out]; exact pW_none hpv
        clear hvc HF
        go_wp2_with fail
        refine HVC.out.mono ?_
        rintro e w1 ⟨Xk, Xn, Xt, Xp, Xa, Xb, rfl, ho1⟩
        obtain ⟨w2, hw2⟩ : ∃ w2, w2 = w1.alloc (.cells #[.int .i64 Xk, .int .i64 Xn, .string Xt, .slice Xp Xa Xb] 24) := ⟨_, rfl⟩
        have hba : Below w1.heap.size w1 w2 := by rw [hw2]; exact (Below.refl _ _).alloc (Nat.le_refl _) _
        have O2 : Hid (Off [b] w w2) := O0.out.trans (ho1.trans (Off.of_below hba))
        have R2 : Hid (Blk w2 w.heap.size #[.int .i64 0, .int .i64 0, .string ⟨#[]⟩, .slice none 0 0] 24) := (blkOffV R0.out ho1 (by omega)).next hba
        have HW2 : Hid (w2 = w1.alloc (.cells #[.int .i64 Xk, .int .i64 Xn, .string Xt, .slice Xp Xa Xb] 24)) := hw2
        clear ho1 hba hw2 R0 E0 G0 RB0 O0
        have r0 : w2.cell? ⟨w.heap.size, 0, none⟩ = some (.int .i64 0) := R2.out.cell 0 _ rfl
        have rz0 := R2.out.frozen 0
        have r1 : w2.cell? ⟨w.heap.size, 1, none⟩ = some (.int .i64 0) := R2.out.cell 1 _ rfl
        have rz1 := R2.out.frozen 1
        have r2 : w2.cell? ⟨w.heap.size, 2, none⟩ = some (.string ⟨#[]⟩) := R2.out.cell 2 _ rfl
        have rz2 := R2.out.frozen 2
        have r3 : w2.cell? ⟨w.heap.size, 3, none⟩ = some (.slice none 0 0) := R2.out.cell 3 _ rfl
        have rz3 := R2.out.frozen 3
        go_wp2_with (rw [← HW2.out])
        have hon := st4_only (b := w.heap.size) (w := w2) (c0 := .int .i64 0) (c1 := .int .i64 0) (c2 := .string ⟨#[]⟩) (c3 := .slice none 0 0)
        have hbk := st4_blk R2.out (.int .i64 0) (.int .i64 0) (.string ⟨#[]⟩) (.slice none 0 0)
        have q0 := hbk.cell 0 _ rfl
        have q1 := hbk.cell 1 _ rfl
        have q2 := hbk.cell 2 _ rfl
        have q3 := hbk.cell 3 _ rfl
        refine bodyPost_ret (v := .tuple #[.agg #[.int .i64 0, .int .i64 0, .string ⟨#[]⟩, .slice none 0 0], .bool false]) (by simp [results, Tryd.results21, go_sem, q0, q1, q2, q3]) rfl ?_
        rw [HR.out]
        exact ⟨0, 0, ⟨#[]⟩, none, 0, 0, rfl, offOnlyV O2.out hon (Nat.le_refl _), fun x r h => by cases h⟩
      | some p =>
        obtain ⟨x, r⟩ := p
        have HVC : Hid (Calls Tryd.prog 11 #[.pointer (some ⟨b, 0, none⟩)] wr fun e w' => ∃ ck cn ct cp cl cq fp, e = .returned (.tuple #[.agg #[.int .i64 ck, .int .i64 cn, .string ct, .slice cp cl cq], .bool true]) ∧ Off [b] wr w' ∧ OVT w' [.int .i64 ck, .int .i64 cn, .string ct, .slice cp cl cq] x fp ∧ fp.Nodup ∧ (∀ a ∈ fp, wr.heap.size ≤ a ∧ a < w'.heap.size) ∧ RB w' b r (o + 1)) := by
          rw [hpv] at hvc
          refine hvc.mono fun e w' ⟨ck, cn, ct, cp, cl, cq, he, ho, hh⟩ => ?_
          obtain ⟨fp, h1, h2, h3, h4⟩ := hh x r rfl
          exact ⟨ck, cn, ct, cp, cl, cq, fp, he, ho, h1, h2, h3, h4⟩
        have hrl : r.length ≤ l'.length := pV_len _ _ _ _ hpv
        have HP : Hid (pV m d l' = some (x, r)) := hpv
        clear hvc hpv
        go_wp2_with fail
        refine HVC.out.mono ?_
        rintro e w1 ⟨Xk, Xn, Xt, Xp, Xa, Xb, Xf, rfl, ho1, hx, hnd, hrg, hrb⟩
        have S1 : wr.heap.size ≤ w1.heap.size := ho1.size
        obtain ⟨w2, hw2⟩ : ∃ w2, w2 = w1.alloc (.cells #[.int .i64 Xk, .int .i64 Xn, .string Xt, .slice Xp Xa Xb] 24) := ⟨_, rfl⟩
        have hba : Below w1.heap.size w1 w2 := by rw [hw2]; exact (Below.refl _ _).alloc (Nat.le_refl _) _
        have S2 : w1.heap.size + 1 ≤ w2.heap.size := by rw [hw2, alloc_hs]; exact Nat.le_refl _
        have X_nd : Hid Xf.Nodup := hnd
        have X_rg : Hid (∀ a ∈ Xf, wr.heap.size ≤ a ∧ a < w2.heap.size) := fun a ha => by have := hrg a ha; omega
        have X2 : Hid (OVT w2 [.int .i64 Xk, .int .i64 Xn, .string Xt, .slice Xp Xa Xb] x Xf) := OVT.keeps _ _ _ _ _ hx (KeepOn.below hba (fun a ha => (hrg a ha).2))
        have R2 : Hid (Blk w2 w.heap.size #[.int .i64 0, .int .i64 0, .string ⟨#[]⟩, .slice none 0 0] 24) := (blkOffV R0.out ho1 (by omega)).next hba
        have E2 : Hid (Blk w2 (w.heap.size + 1) #[.int .i64 kd, .int .i64 0, .string ⟨#[]⟩, .slice cp acc.length cc] 24) := (blkOffV E0.out ho1 (by omega)).next hba
        have G2 : Hid (GrowO 24 4 OVT w2 (w.heap.size + 2) wr.heap.size (.slice cp acc.length cc) acc) := (G0.out.off OVT.keeps ho1 (by omega)).next OVT.keeps hba
        have RB2 : Hid (RB w2 b r (o + 1)) := Blk.next hrb hba
        have O2 : Hid (Off [b] w w2) := O0.out.trans (ho1.trans (Off.of_below hba))
        have Q2 : Hid (Blk w2 w1.heap.size #[.int .i64 Xk, .int .i64 Xn, .string Xt, .slice Xp Xa Xb] 24) := by show Blk _ _ _ _; rw [hw2]; exact Blk.new
        have HW2 : Hid (w2 = w1.alloc (.cells #[.int .i64 Xk, .int .i64 Xn, .string Xt, .slice Xp Xa Xb] 24)) := hw2
        clear hx hnd hrg hrb ho1 hba hw2 R0 E0 G0 RB0 O0 HVC
        have cE3 : w2.cell? ⟨(w.heap.size + 1), 3, none⟩ = some (.slice cp acc.length cc) := E2.out.cell 3 _ rfl
        have zE3 := E2.out.frozen 3
        have v0 : w2.cell? ⟨w1.heap.size, 0, none⟩ = some (.int .i64 Xk) := Q2.out.cell 0 _ rfl
        have v1 : w2.cell? ⟨w1.heap.size, 1, none⟩ = some (.int .i64 Xn) := Q2.out.cell 1 _ rfl
        have v2 : w2.cell? ⟨w1.heap.size, 2, none⟩ = some (.string Xt) := Q2.out.cell 2 _ rfl
        have v3 : w2.cell? ⟨w1.heap.size, 3, none⟩ = some (.slice Xp Xa Xb) := Q2.out.cell 3 _ rfl
        have hll : acc.length ≤ 100000000 := by omega
        go_wp2_with (first
          | (rw [← HW2.out])
          | (at_builtin; refine wpList_push OVT.keeps 22 24 4 56 _ rfl _ _ rfl Tryd.underlying22 infoV rfl (by decide) (by decide) (w.heap.size + 2) wr.heap.size (.slice cp acc.length cc) acc rfl [.int .i64 Xk, .int .i64 Xn, .string Xt, .slice Xp Xa Xb] rfl x Xf G2.out X2.out X_nd.out (fun a ha => by have := X_rg.out a ha; omega) rfl oneV hll ?_))
        intro v5 w5 hg5 hb5
        obtain ⟨p5, c5, hv5, -⟩ := hg5.shape
        rw [List.length_append] at hv5
        simp only [List.length_singleton] at hv5
        subst hv5
        have al : Below w2.heap.size w2 (w2.alloc (.cells #[.int .i64 Xk, .int .i64 Xn, .string Xt, .slice Xp Xa Xb] 24)) := (Below.refl _ _).alloc (Nat.le_refl _) _
        have hb25 : Below (w.heap.size + 2) w2 w5 := (al.mono (by omega)).trans hb5
        have R5 : Hid (Blk w5 w.heap.size #[.int .i64 0, .int .i64 0, .string ⟨#[]⟩, .slice none 0 0] 24) := (hb25.block _ (by omega)).trans R2.out
        have E5 : Hid (Blk w5 (w.heap.size + 1) #[.int .i64 kd, .int .i64 0, .string ⟨#[]⟩, .slice cp acc.length cc] 24) := (hb25.block _ (by omega)).trans E2.out
        have RB5 : Hid (RB w5 b r (o + 1)) := (hb25.block _ (by omega)).trans RB2.out
        have O5 : Hid (Off [b] w w5) := O2.out.under (by omega : w.heap.size ≤ w.heap.size + 2) hb25
        have S5 : w2.heap.size ≤ w5.heap.size := hb25.size
        have k3 := E5.out.cell 3 _ rfl
        have kz3 := E5.out.frozen 3
        obtain ⟨w7, hw7⟩ : ∃ w7, w7 = w5.setCell ⟨(w.heap.size + 1), 3, none⟩ (.slice p5 (acc.length + 1) c5) := ⟨_, rfl⟩
        have HW7 : Hid (w7 = w5.setCell ⟨(w.heap.size + 1), 3, none⟩ (.slice p5 (acc.length + 1) c5)) := hw7
        have s7 : w7.heap.size = w5.heap.size := by rw [hw7]; simp [World.setCell]
        have on7 : OnlyB (w.heap.size + 1) w5 w7 := by rw [hw7]; exact OnlyB.set
        have R7 : Hid (Blk w7 w.heap.size #[.int .i64 0, .int .i64 0, .string ⟨#[]⟩, .slice none 0 0] 24) := R5.out.only on7 (by omega)
        have E7 : Hid (Blk w7 (w.heap.size + 1) #[.int .i64 kd, .int .i64 0, .string ⟨#[]⟩, .slice p5 (acc.length + 1) c5] 24) := by show Blk _ _ _ _; rw [hw7]; exact E5.out.same rfl
        have RB7 : Hid (RB w7 b r (o + 1)) := Blk.only RB5.out on7 (by omega)
        have O7 : Hid (Off [b] w w7) := offOnlyV O5.out on7 (by omega)
        have G7 : Hid (GrowO 24 4 OVT w7 (w.heap.size + 2) w7.heap.size (.slice p5 (acc.length + 1) c5) (acc ++ [x])) := by show GrowO _ _ _ _ _ _ _ _; rw [s7]; exact hg5.only OVT.keeps on7 (.inl (by omega))
        clear hg5 hb5 al hb25 hw7 cE3 zE3 v0 v1 v2 v3 on7 R5 E5 RB5 O5 R2 E2 G2 RB2 O2 Q2 X2
        by_cases he : r.take 1 = [e1]
        · have HR : Hid (RES = some (.mk kd 0 ⟨#[]⟩ (acc ++ [x]), r.drop 1)) := by
            show _ = _
            rw [← HF.out]
            unfold pW
            rw [HP.out]
            simp only
            rw [if_pos he]
          have AE : Hid (Calls Tryd.prog 20 #[.pointer (some ⟨b, 0, none⟩), .string ⟨#[e1]⟩] w7 fun e w' => e = .returned (.bool true) ∧ RB w' b (r.drop 1) (o + 1) ∧ OnlyB b w7 w') := accept_yes w7 RB7.out he
          clear HF HP
          go_wp2_with (first
            | (rw [← HW7.out])
            | (go_at_call 20; go_must (refine (AE.out).mono ?_; rintro e w8 ⟨rfl, hrb8, on8⟩; have RB8 : Hid (RB w8 b (r.drop 1) (o + 1)) := hrb8; have ON8 : Hid (OnlyB b w7 w8) := on8; clear hrb8 on8; have k1 : w8.cell? ⟨b, 1, none⟩ = some (.int .i64 (o + 1)) := RB8.out.cell 1 _ rfl; have kz1 := RB8.out.frozen 1; obtain ⟨w9, hw9⟩ : ∃ w9, w9 = w8.setCell ⟨b, 1, none⟩ (.int .i64 o) := ⟨_, rfl⟩; have HW9 : Hid (w9 = w8.setCell ⟨b, 1, none⟩ (.int .i64 o)) := hw9; have ON9 : Hid (OnlyB b w7 w9) := (ON8.out.trans (by rw [hw9]; exact OnlyB.set)); have RB9 : Hid (RB w9 b (r.drop 1) o) := (by show Blk _ _ _ _; rw [hw9]; exact RB8.out.same rfl); clear hw9; have R9 : Hid (Blk w9 w.heap.size #[.int .i64 0, .int .i64 0, .string ⟨#[]⟩, .slice none 0 0] 24) := R7.out.only ON9.out (by omega); have E9 : Hid (Blk w9 (w.heap.size + 1) #[.int .i64 kd, .int .i64 0, .string ⟨#[]⟩, .slice p5 (acc.length + 1) c5] 24) := E7.out.only ON9.out (by omega); have e0 : w9.cell? ⟨(w.heap.size + 1), 0, none⟩ = some (.int .i64 kd) := E9.out.cell 0 _ rfl; have e1' : w9.cell? ⟨(w.heap.size + 1), 1, none⟩ = some (.int .i64 0) := E9.out.cell 1 _ rfl; have e2 : w9.cell? ⟨(w.heap.size + 1), 2, none⟩ = some (.string ⟨#[]⟩) := E9.out.cell 2 _ rfl; have e3 : w9.cell? ⟨(w.heap.size + 1), 3, none⟩ = some (.slice p5 (acc.length + 1) c5) := E9.out.cell 3 _ rfl; have r0 : w9.cell? ⟨w.heap.size, 0, none⟩ = some (.int .i64 0) := R9.out.cell 0 _ rfl; have rz0 := R9.out.frozen 0; have r1 : w9.cell? ⟨w.heap.size, 1, none⟩ = some (.int .i64 0) := R9.out.cell 1 _ rfl; have rz1 := R9.out.frozen 1; have r2 : w9.cell? ⟨w.heap.size, 2, none⟩ = some (.string ⟨#[]⟩) := R9.out.cell 2 _ rfl; have rz2 := R9.out.frozen 2; have r3 : w9.cell? ⟨w.heap.size, 3, none⟩ = some (.slice none 0 0) := R9.out.cell 3 _ rfl; have rz3 := R9.out.frozen 3))
            | (rw [← HW9.out]))
          have O9 : Hid (Off [b] w w9) := O7.out.trans (offSelfV ON9.out)
          have S9 : w9.heap.size = w7.heap.size := ON9.out.size
          have G9 : Hid (GrowO 24 4 OVT w9 (w.heap.size + 2) w9.heap.size (.slice p5 (acc.length + 1) c5) (acc ++ [x])) := by show GrowO _ _ _ _ _ _ _ _; rw [S9]; exact G7.out.only OVT.keeps ON9.out (.inl (by omega))
          obtain ⟨kf, kr, knd, krg, -, -⟩ := GrowO.done G9.out
          have hon := st4_only (b := w.heap.size) (w := w9) (c0 := .int .i64 kd) (c1 := .int .i64 0) (c2 := .string ⟨#[]⟩) (c3 := .slice p5 (acc.length + 1) c5)
          have hbk := st4_blk R9.out (.int .i64 kd) (.int .i64 0) (.string ⟨#[]⟩) (.slice p5 (acc.length + 1) c5)
          have q0 := hbk.cell 0 _ rfl
          have q1 := hbk.cell 1 _ rfl
          have q2 := hbk.cell 2 _ rfl
          have q3 := hbk.cell 3 _ rfl
          refine bodyPost_ret (v := .tuple #[.agg #[.int .i64 kd, .int .i64 0, .string ⟨#[]⟩, .slice p5 (acc.length + 1) c5], .bool true]) (by simp [results, Tryd.results21, go_sem, q0, q1, q2, q3]) rfl ?_
          rw [HR.out]
          refine ⟨kd, 0, ⟨#[]⟩, p5, acc.length + 1, c5, rfl, offOnlyV O9.out hon (Nat.le_refl _), ?_⟩
          intro y r' hy
          simp only [Option.some.injEq, Prod.mk.injEq] at hy
          obtain ⟨rfl, rfl⟩ := hy
          exact ⟨kf, OVT.keeps _ _ _ _ _ (OVT.mk HK.out okI0V (Nat.zero_le _) kr) (hon.keep (fun ha => by have := krg _ ha; omega)), knd, fun a ha => by have := krg a ha; have := hon.size; omega, Blk.only RB9.out hon (by omega)⟩
        · have AN : Hid (Calls Tryd.prog 20 #[.pointer (some ⟨b, 0, none⟩), .string ⟨#[e1]⟩] w7 fun e w' => e = .returned (.bool false) ∧ RB w' b r (o + 1) ∧ OnlyB b w7 w') := accept_no w7 RB7.out he
          by_cases hbt : r.take 1 = [b1]
          · have HR : Hid (pW (pV m d) kd b1 e1 g (acc ++ [x]) (r.drop 1) = RES) := by
              show _ = _
              rw [← HF.out]
              conv => rhs; unfold pW
              rw [HP.out]
              simp only
              rw [if_neg he, if_pos hbt]
            have AB : Hid (∀ w8, RB w8 b r (o + 1) → Calls Tryd.prog 20 #[.pointer (some ⟨b, 0, none⟩), .string ⟨#[b1]⟩] w8 fun e w' => e = .returned (.bool true) ∧ RB w' b (r.drop 1) (o + 1) ∧ OnlyB b w8 w') := fun w8 h => accept_yes w8 h hbt
            have hr1 : 1 ≤ r.length := by
              cases r with
              | nil => simp at hbt
              | cons c r => simp
            have HE : Hid (¬ r.take 1 = [e1]) := he
            have HBT : Hid (r.take 1 = [b1]) := hbt
            clear HF HP he hbt
            go_wp2_with (rw [← HW7.out])
            refine AN.out.mono ?_
            rintro e w8 ⟨rfl, hrb8, on8⟩
            have RB8 : Hid (RB w8 b r (o + 1)) := hrb8
            have ON8 : Hid (OnlyB b w7 w8) := on8
            clear hrb8 on8
            go_wp2_with fail
            refine (AB.out _ RB8.out).mono ?_
            rintro e w9 ⟨rfl, hrb9, on9⟩
            have RB9 : Hid (RB w9 b (r.drop 1) (o + 1)) := hrb9
            have ON9 : Hid (OnlyB b w7 w9) := ON8.out.trans on9
            clear hrb9 on9
            go_wp2_with fail
            go_roundg g
            case measure => omega
            case rel =>
              refine ⟨acc ++ [x], .slice p5 (acc.length + 1) c5, r.drop 1, by simp; omega, by simp; omega, by simp; omega, HR.out, R7.out.only ON9.out (by omega), E7.out.only ON9.out (by omega), ?_, RB9.out, O7.out.trans (offSelfV ON9.out), by rw [ON9.out.size]; omega⟩
              rw [ON9.out.size]
              exact G7.out.only OVT.keeps ON9.out (.inl (by omega))
          · have HR : Hid (RES = none) := by
              show _ = _
              rw [← HF.out]
              unfold pW
              rw [HP.out]
              simp only
              rw [if_neg he, if_neg hbt]
            have AB : Hid (∀ w8, RB w8 b r (o + 1) → Calls Tryd.prog 20 #[.pointer (some ⟨b, 0, none⟩), .string ⟨#[b1]⟩] w8 fun e w' => e = .returned (.bool false) ∧ RB w' b r (o + 1) ∧ OnlyB b w8 w') := fun w8 h => accept_no w8 h hbt
            clear HF HP he hbt
            go_wp2_with (rw [← HW7.out])
            refine AN.out.mono ?_
            rintro e w8 ⟨rfl, hrb8, on8⟩
            have RB8 : Hid (RB w8 b r (o + 1)) := hrb8
            have ON8 : Hid (OnlyB b w7 w8) := on8
            clear hrb8 on8
            go_wp2_with fail
            refine (AB.out _ RB8.out).mono ?_
            rintro e w9 ⟨rfl, hrb9, on9⟩
            have ON9 : Hid (OnlyB b w7 w9) := ON8.out.trans on9
            clear hrb9 on9
            have R9 : Hid (Blk w9 w.heap.size #[.int .i64 0, .int .i64 0, .string ⟨#[]⟩, .slice none 0 0] 24) := R7.out.only ON9.out (by omega)
            have O9 : Hid (Off [b] w w9) := O7.out.trans (offSelfV ON9.out)
            have r0 : w9.cell? ⟨w.heap.size, 0, none⟩ = some (.int .i64 0) := R9.out.cell 0 _ rfl
            have rz0 := R9.out.frozen 0
            have r1 : w9.cell? ⟨w.heap.size, 1, none⟩ = some (.int .i64 0) := R9.out.cell 1 _ rfl
            have rz1 := R9.out.frozen 1
            have r2 : w9.cell? ⟨w.heap.size, 2, none⟩ = some (.string ⟨#[]⟩) := R9.out.cell 2 _ rfl
            have rz2 := R9.out.frozen 2
            have r3 : w9.cell? ⟨w.heap.size, 3, none⟩ = some (.slice none 0 0) := R9.out.cell 3 _ rfl
            have rz3 := R9.out.frozen 3
            go_wp2_with fail
            have hon := st4_only (b := w.heap.size) (w := w9) (c0 := .int .i64 0) (c1 := .int .i64 0) (c2 := .string ⟨#[]⟩) (c3 := .slice none 0 0)
            have hbk := st4_blk R9.out (.int .i64 0) (.int .i64 0) (.string ⟨#[]⟩) (.slice none 0 0)
            have q0 := hbk.cell 0 _ rfl
            have q1 := hbk.cell 1 _ rfl
            have q2 := hbk.cell 2 _ rfl
            have q3 := hbk.cell 3 _ rfl
            refine bodyPost_ret (v := .tuple #[.agg #[.int .i64 0, .int .i64 0, .string ⟨#[]⟩, .slice none 0 0], .bool false]) (by simp [results, Tryd.results21, go_sem, q0, q1, q2, q3]) rfl ?_
            rw [HR.out]
            exact ⟨0, 0, ⟨#[]⟩, none, 0, 0, rfl, offOnlyV O9.out hon (Nat.le_refl _), fun x r h => by cases h⟩
end Go.Proofs.YtafehfpjogbmfaaDoor
