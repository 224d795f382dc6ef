/-
  The laws' toResult: a copy of what a run answers.
-/
import Derived.Test.YthcdppdmiicelaaDoorResSz
import Derived.Test.YthcdppdmiicelaaDoorValTo
namespace Go.Proofs.YthcdppdmiicelaaDoor
open Go.ChangeShapes Go.WideShapes Go.ChangeAt Go.RowKit
set_option linter.unusedVariables false

set_option maxHeartbeats 4000000 in
theorem toResult_all (d : Nat) : ToC 15 (fun w v m => ∃ cs, v = .agg cs.toArray ∧ HRe w All d cs m) (fun w S v m => ∃ cs, v = .agg cs.toArray ∧ HRe w S d cs m) (wtRe d) := by
  have h0 := toVal_own d
  have h1 := toValS_of (toVal_own d)
  intro w v e i1 hwt
  obtain ⟨cs, rfl, sk, sn, st, p1, n1, q1, ov, rfl, s0, s1, f0, f1⟩ := i1
  have hw0 : wtVa d e.val ≤ 1048576 := by unfold wtRe at hwt; omega
  have hw1 : wtS (wtVa d) e.out ≤ 1048576 := by unfold wtRe at hwt; omega
  have E0 : ∀ w', SameOn All w w' → HVa w' All d [.int .i64 sk, .int .i64 sn, .string st, .slice p1 n1 q1] e.val := fun w' hw => f0.mono hw (fun _ h => h)
  obtain ⟨po, co, rfl, hrest⟩ := id f1
  have E1 : ∀ w', SameOn All w w' → Rows w' All 4 (HVa w' All d) (.slice po e.out.length co) e.out := fun w' hw => f1.mono hw (fun _ h => h) (fun _ _ _ => HVa.mono hw (fun _ h => h))
  clear f0 f1 hrest hwt
  go_enter Tryd.func15, Tryd.ntmps15
  go_wp2_with fail
  have hal : Below w.heap.size w (((w.alloc (.cells #[.int .i64 e.code, .string e.why, .int .i64 sk, .int .i64 sn, .string st, .slice p1 n1 q1, .slice po e.out.length co] 35)).alloc (.cells #[.int .i64 0, .string ⟨#[]⟩, .int .i64 0, .int .i64 0, .string ⟨#[]⟩, .slice none 0 0, .slice none 0 0] 39)).alloc (.cells #[.int .i64 e.code, .string e.why, .int .i64 0, .int .i64 0, .string ⟨#[]⟩, .slice none 0 0, .slice none 0 0] 39)) := (((Below.refl _ _).alloc (Nat.le_refl _) _).alloc (by simp only [alloc_hs]; omega) _).alloc (by simp only [alloc_hs]; omega) _
  refine (h0 _ _ e.val ⟨_, rfl, E0 _ (SameOn.of_below hal)⟩ hw0).mono ?_
  rintro ex w1 ⟨u, fp, rfl, ⟨cs, rfl, r0⟩, hnd, hrg, hb⟩
  have bA := ((Blk.new (w := w) (cs := #[.int .i64 e.code, .string e.why, .int .i64 sk, .int .i64 sn, .string st, .slice p1 n1 q1, .slice po e.out.length co]) (t := 35)).alloc (o := .cells #[.int .i64 0, .string ⟨#[]⟩, .int .i64 0, .int .i64 0, .string ⟨#[]⟩, .slice none 0 0, .slice none 0 0] 39)).alloc (o := .cells #[.int .i64 e.code, .string e.why, .int .i64 0, .int .i64 0, .string ⟨#[]⟩, .slice none 0 0, .slice none 0 0] 39)
  have bR := (Blk.new (w := (w.alloc (.cells #[.int .i64 e.code, .string e.why, .int .i64 sk, .int .i64 sn, .string st, .slice p1 n1 q1, .slice po e.out.length co] 35))) (cs := #[.int .i64 0, .string ⟨#[]⟩, .int .i64 0, .int .i64 0, .string ⟨#[]⟩, .slice none 0 0, .slice none 0 0]) (t := 39)).alloc (o := .cells #[.int .i64 e.code, .string e.why, .int .i64 0, .int .i64 0, .string ⟨#[]⟩, .slice none 0 0, .slice none 0 0] 39)
  have bO := (Blk.new (w := ((w.alloc (.cells #[.int .i64 e.code, .string e.why, .int .i64 sk, .int .i64 sn, .string st, .slice p1 n1 q1, .slice po e.out.length co] 35)).alloc (.cells #[.int .i64 0, .string ⟨#[]⟩, .int .i64 0, .int .i64 0, .string ⟨#[]⟩, .slice none 0 0, .slice none 0 0] 39))) (cs := #[.int .i64 e.code, .string e.why, .int .i64 0, .int .i64 0, .string ⟨#[]⟩, .slice none 0 0, .slice none 0 0]) (t := 39))
  simp only [alloc_hs] at bA bR bO hrg
  replace bA := bA.below hb (by simp only [alloc_hs]; omega)
  replace bR := bR.below hb (by simp only [alloc_hs]; omega)
  replace bO := bO.below hb (by simp only [alloc_hs]; omega)
  have HB1 : Hid (Below w.heap.size w w1) := hal.trans (hb.mono hal.size)
  have hs1 : w.heap.size + 1 + 1 + 1 ≤ w1.heap.size := by have := hb.size; simp only [alloc_hs] at this; omega
  obtain ⟨tk, tn, tt, p2, n2, q2, hu⟩ := r0.shape
  subst hu
  have T0 : Hid (OVa w1 d [.int .i64 tk, .int .i64 tn, .string tt, .slice p2 n2 q2] e.val fp) := r0
  have HRG : Hid (∀ a ∈ fp, w.heap.size + 1 + 1 + 1 ≤ a ∧ a < w1.heap.size) := hrg
  clear hal hb hnd hrg r0
  have a6 := bA.cell 6 _ rfl
  have g2 := bO.frozen 2
  have g3 := bO.frozen 3
  have g4 := bO.frozen 4
  have g5 := bO.frozen 5
  have o2 := bO.cell 2 _ rfl
  have o3 := bO.cell 3 _ rfl
  have o4 := bO.cell 4 _ rfl
  have o5 := bO.cell 5 _ rfl
  have HR : Hid (Blk w1 (w.heap.size + 1) #[.int .i64 0, .string ⟨#[]⟩, .int .i64 0, .int .i64 0, .string ⟨#[]⟩, .slice none 0 0, .slice none 0 0] 39) := bR
  have HO : Hid (Blk w1 (w.heap.size + 1 + 1) #[.int .i64 e.code, .string e.why, .int .i64 0, .int .i64 0, .string ⟨#[]⟩, .slice none 0 0, .slice none 0 0] 39) := bO
  clear bA bR bO
  go_wp2_with fail
  clear a6 g2 g3 g4 g5 o2 o3 o4 o5
  obtain ⟨w2, hW⟩ : ∃ W, W = ((((w1.setCell ⟨w.heap.size + 1 + 1, 2, none⟩ (.int .i64 tk)).setCell ⟨w.heap.size + 1 + 1, 3, none⟩ (.int .i64 tn)).setCell ⟨w.heap.size + 1 + 1, 4, none⟩ (.string tt)).setCell ⟨w.heap.size + 1 + 1, 5, none⟩ (.slice p2 n2 q2)) := ⟨_, rfl⟩
  have bO : Blk w2 (w.heap.size + 1 + 1) #[.int .i64 e.code, .string e.why, .int .i64 tk, .int .i64 tn, .string tt, .slice p2 n2 q2, .slice none 0 0] 39 := by
    rw [hW]
    exact (((HO.out.same (v := .int .i64 tk) rfl).same (v := .int .i64 tn) rfl).same (v := .string tt) rfl).same (v := .slice p2 n2 q2) rfl
  have bR : Blk w2 (w.heap.size + 1) #[.int .i64 0, .string ⟨#[]⟩, .int .i64 0, .int .i64 0, .string ⟨#[]⟩, .slice none 0 0, .slice none 0 0] 39 := by
    rw [hW]
    exact (((HR.out.other (by show _ ≠ w.heap.size + 1 + 1; omega)).other (by show _ ≠ w.heap.size + 1 + 1; omega)).other (by show _ ≠ w.heap.size + 1 + 1; omega)).other (by show _ ≠ w.heap.size + 1 + 1; omega)
  have sf1 : SameOn (fun g => w.heap.size + 1 + 1 + 1 ≤ g) w1 w2 := by rw [hW]; exact (SameOn.setCell (SameOn.setCell (SameOn.setCell (SameOn.setCell (SameOn.of_below (Below.refl _ _)) (by show ¬ (_ ≤ w.heap.size + 1 + 1); omega) _) (by show ¬ (_ ≤ w.heap.size + 1 + 1); omega) _) (by show ¬ (_ ≤ w.heap.size + 1 + 1); omega) _) (by show ¬ (_ ≤ w.heap.size + 1 + 1); omega) _)
  have bf1 : Below w.heap.size w w2 := by rw [hW]; exact (Below.setCell (Below.setCell (Below.setCell (Below.setCell HB1.out (by show _ ≤ w.heap.size + 1 + 1; omega) _) (by show _ ≤ w.heap.size + 1 + 1; omega) _) (by show _ ≤ w.heap.size + 1 + 1; omega) _) (by show _ ≤ w.heap.size + 1 + 1; omega) _)
  have sz2 : w2.heap.size = w1.heap.size := by rw [hW]; simp
  rw [← hW]
  clear hW HO HR HB1
  have kf1 : KeepOn fp w1 w2 := fun a ha => sf1.2 a (HRG.out a ha).1 (HRG.out a ha).2
  have T1 : Hid (OVa w2 d [.int .i64 tk, .int .i64 tn, .string tt, .slice p2 n2 q2] e.val fp) := T0.out.keep kf1
  have HB2 : Hid (Below w.heap.size w w2) := bf1
  have HS2 : Hid (w.heap.size + 1 + 1 + 1 ≤ w2.heap.size) := by show _ ≤ _; omega
  have HRG2 : Hid (∀ a ∈ fp, w.heap.size + 1 + 1 + 1 ≤ a ∧ a < w2.heap.size) := fun a ha => ⟨(HRG.out a ha).1, by have := (HRG.out a ha).2; omega⟩
  clear T0 kf1 sf1 bf1 HRG hs1 sz2
  refine (h1 _ _ e.out (E1 _ (SameOn.of_below HB2.out)) hw1).mono ?_
  rintro ex w3 ⟨u, fq, rfl, r1, hnd, hrg, hb⟩
  obtain ⟨p3, c3, hu, _⟩ := r1.shape
  subst hu
  have hs2 := HS2.out
  replace bO := bO.below hb (by omega)
  replace bR := bR.below hb (by omega)
  have HB3 : Hid (Below w.heap.size w w3) := HB2.out.trans (hb.mono HB2.out.size)
  have kf2 : KeepOn fp w2 w3 := fun a ha => hb.block a (HRG2.out a ha).2
  have T2 : Hid (OVa w3 d [.int .i64 tk, .int .i64 tn, .string tt, .slice p2 n2 q2] e.val fp) := T1.out.keep kf2
  have R2 : Hid (ORows w3 29 4 (OVa w3 d) (.slice p3 e.out.length c3) e.out fq) := r1
  have HRG3 : Hid (∀ a ∈ fp, w.heap.size + 1 + 1 + 1 ≤ a ∧ a < w3.heap.size) := fun a ha => ⟨(HRG2.out a ha).1, by have := (HRG2.out a ha).2; have := hb.size; omega⟩
  have HRQ3 : Hid (∀ a ∈ fq, w.heap.size + 1 + 1 + 1 ≤ a ∧ a < w3.heap.size) := fun a ha => ⟨by have := (hrg a ha).1; omega, (hrg a ha).2⟩
  clear HRG2 T1 kf2 hb hnd hrg r1 HB2 hs2 HS2
  have o0 := bO.cell 0 _ rfl
  have o1 := bO.cell 1 _ rfl
  have o2 := bO.cell 2 _ rfl
  have o3 := bO.cell 3 _ rfl
  have o4 := bO.cell 4 _ rfl
  have o5 := bO.cell 5 _ rfl
  have o6 := bO.cell 6 _ rfl
  have g6 := bO.frozen 6
  have q0 := bR.cell 0 _ rfl
  have q1_ := bR.cell 1 _ rfl
  have q2_ := bR.cell 2 _ rfl
  have q3 := bR.cell 3 _ rfl
  have q4 := bR.cell 4 _ rfl
  have q5 := bR.cell 5 _ rfl
  have q6 := bR.cell 6 _ rfl
  have k0 := bR.frozen 0
  have k1 := bR.frozen 1
  have k2 := bR.frozen 2
  have k3 := bR.frozen 3
  have k4 := bR.frozen 4
  have k5 := bR.frozen 5
  have k6 := bR.frozen 6
  clear bR bO
  go_wp2_with fail
  have sf : SameOn (fun g => w.heap.size + 1 + 1 + 1 ≤ g) w3 ((((((((w3.setCell ⟨w.heap.size + 1 + 1, 6, none⟩ (.slice p3 e.out.length c3)).setCell ⟨w.heap.size + 1, 0, none⟩ (.int .i64 e.code)).setCell ⟨w.heap.size + 1, 1, none⟩ (.string e.why)).setCell ⟨w.heap.size + 1, 2, none⟩ (.int .i64 tk)).setCell ⟨w.heap.size + 1, 3, none⟩ (.int .i64 tn)).setCell ⟨w.heap.size + 1, 4, none⟩ (.string tt)).setCell ⟨w.heap.size + 1, 5, none⟩ (.slice p2 n2 q2)).setCell ⟨w.heap.size + 1, 6, none⟩ (.slice p3 e.out.length c3)) := (SameOn.setCell (SameOn.setCell (SameOn.setCell (SameOn.setCell (SameOn.setCell (SameOn.setCell (SameOn.setCell (SameOn.setCell (SameOn.of_below (Below.refl _ _)) (by show ¬ (_ ≤ w.heap.size + 1 + 1); omega) _) (by show ¬ (_ ≤ w.heap.size + 1); omega) _) (by show ¬ (_ ≤ w.heap.size + 1); omega) _) (by show ¬ (_ ≤ w.heap.size + 1); omega) _) (by show ¬ (_ ≤ w.heap.size + 1); omega) _) (by show ¬ (_ ≤ w.heap.size + 1); omega) _) (by show ¬ (_ ≤ w.heap.size + 1); omega) _) (by show ¬ (_ ≤ w.heap.size + 1); omega) _)
  have bf : Below w.heap.size w ((((((((w3.setCell ⟨w.heap.size + 1 + 1, 6, none⟩ (.slice p3 e.out.length c3)).setCell ⟨w.heap.size + 1, 0, none⟩ (.int .i64 e.code)).setCell ⟨w.heap.size + 1, 1, none⟩ (.string e.why)).setCell ⟨w.heap.size + 1, 2, none⟩ (.int .i64 tk)).setCell ⟨w.heap.size + 1, 3, none⟩ (.int .i64 tn)).setCell ⟨w.heap.size + 1, 4, none⟩ (.string tt)).setCell ⟨w.heap.size + 1, 5, none⟩ (.slice p2 n2 q2)).setCell ⟨w.heap.size + 1, 6, none⟩ (.slice p3 e.out.length c3)) := (Below.setCell (Below.setCell (Below.setCell (Below.setCell (Below.setCell (Below.setCell (Below.setCell (Below.setCell HB3.out (by show _ ≤ w.heap.size + 1 + 1; omega) _) (by show _ ≤ w.heap.size + 1; omega) _) (by show _ ≤ w.heap.size + 1; omega) _) (by show _ ≤ w.heap.size + 1; omega) _) (by show _ ≤ w.heap.size + 1; omega) _) (by show _ ≤ w.heap.size + 1; omega) _) (by show _ ≤ w.heap.size + 1; omega) _) (by show _ ≤ w.heap.size + 1; omega) _)
  have kf : KeepOn fp w3 ((((((((w3.setCell ⟨w.heap.size + 1 + 1, 6, none⟩ (.slice p3 e.out.length c3)).setCell ⟨w.heap.size + 1, 0, none⟩ (.int .i64 e.code)).setCell ⟨w.heap.size + 1, 1, none⟩ (.string e.why)).setCell ⟨w.heap.size + 1, 2, none⟩ (.int .i64 tk)).setCell ⟨w.heap.size + 1, 3, none⟩ (.int .i64 tn)).setCell ⟨w.heap.size + 1, 4, none⟩ (.string tt)).setCell ⟨w.heap.size + 1, 5, none⟩ (.slice p2 n2 q2)).setCell ⟨w.heap.size + 1, 6, none⟩ (.slice p3 e.out.length c3)) := fun a ha => sf.2 a (HRG3.out a ha).1 (HRG3.out a ha).2
  have kq : KeepOn fq w3 ((((((((w3.setCell ⟨w.heap.size + 1 + 1, 6, none⟩ (.slice p3 e.out.length c3)).setCell ⟨w.heap.size + 1, 0, none⟩ (.int .i64 e.code)).setCell ⟨w.heap.size + 1, 1, none⟩ (.string e.why)).setCell ⟨w.heap.size + 1, 2, none⟩ (.int .i64 tk)).setCell ⟨w.heap.size + 1, 3, none⟩ (.int .i64 tn)).setCell ⟨w.heap.size + 1, 4, none⟩ (.string tt)).setCell ⟨w.heap.size + 1, 5, none⟩ (.slice p2 n2 q2)).setCell ⟨w.heap.size + 1, 6, none⟩ (.slice p3 e.out.length c3)) := fun a ha => sf.2 a (HRQ3.out a ha).1 (HRQ3.out a ha).2
  have R3 := R2.out.keep kq (fun cs x f _ hs h => h.keep (kq.sub hs))
  have T3 := T2.out.keep kf
  have hp : ∀ a ∈ fp, w.heap.size ≤ a := fun a ha => by have := (HRG3.out a ha).1; omega
  have hq : ∀ a ∈ fq, w.heap.size ≤ a := fun a ha => by have := (HRQ3.out a ha).1; omega
  exact bodyPost_ret (v := .agg #[.int .i64 e.code, .string e.why, .int .i64 tk, .int .i64 tn, .string tt, .slice p2 n2 q2, .slice p3 e.out.length c3]) (by simp [results, Tryd.results15, go_sem, q0, q1_, q2_, q3, q4, q5, q6]) rfl
    ⟨_, rfl, ⟨_, rfl, _, _, _, _, _, _, _, rfl, s0, s1, T3.tree hp, R3.tree hq⟩, bf⟩
end Go.Proofs.YthcdppdmiicelaaDoor
