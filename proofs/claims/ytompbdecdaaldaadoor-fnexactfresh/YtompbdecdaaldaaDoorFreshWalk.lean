/-
  The walk of FnExactFresh: it answers true, and nothing that was there has turned. Conditions: the argument is a row of texts; the library's table of powers of ten holds them.
-/
import Derived.Test.YtompbdecdaaldaaDoorFreshImpl
import Derived.Test.YtompbdecdaaldaaDoorStrsArg
namespace Go.Proofs.YtompbdecdaaldaaDoor
open Go.ChangeShapes Go.WideShapes Go.ChangeAt Go.RowKit
set_option linter.unusedVariables false
set_option maxRecDepth 100000

theorem OwnS.belowN {w w' : World} {B N : Nat} {v : Value} {l : List ByteArray} (h : OwnS w B v l) (ho : Below N w w') (hne : ∀ g, v.ownBlock = some g → g < N) : OwnS w' B v l := by
  refine ⟨⟨h.1.1, ?_⟩, Nat.le_trans h.2 ho.size⟩
  rcases h.1.2 with hn | ⟨g, cap, cur, hv, hB, hg, hr⟩
  · exact .inl hn
  · exact .inr ⟨g, cap, cur, hv, hB, (ho.block g (hne g (by rw [hv]; rfl))).trans hg, hr⟩
theorem OwnS.only {w w' : World} {B m : Nat} {v : Value} {l : List ByteArray} (h : OwnS w B v l) (ho : Off [m] w w') (hne : v.ownBlock ≠ some m) : OwnS w' B v l := by
  refine ⟨⟨h.1.1, ?_⟩, Nat.le_trans h.2 ho.size⟩
  rcases h.1.2 with hn | ⟨g, cap, cur, hv, hB, hg, hr⟩
  · exact .inl hn
  · exact .inr ⟨g, cap, cur, hv, hB, (ho.block g (Array.getElem?_eq_some_iff.1 hg).1 (by intro hm; apply hne; rw [hv]; simp at hm; rw [hm]; rfl)).trans hg, hr⟩
theorem OwnS.base {w : World} {B B' : Nat} {v : Value} {l : List ByteArray} (h : OwnS w B v l) (hb : B' ≤ B) : OwnS w B' v l := by
  refine ⟨⟨h.1.1, ?_⟩, Nat.le_trans hb h.2⟩
  rcases h.1.2 with hn | ⟨g, cap, cur, hv, hB, hg, hr⟩
  · exact .inl hn
  · exact .inr ⟨g, cap, cur, hv, Nat.le_trans hb hB, hg, hr⟩
/-- As markS_own; and no block but the row's own has turned. -/
theorem markS_only {w : World} {B : Nat} {u : Value} {l : List ByteArray} {m : Nat} (h : OwnS w B u l) (hu : u.ownBlock = some m) (hl : l.length ≤ 4194304) :
    Calls Tryd.prog 9 #[u, .int .i64 1] w fun e w' => e = .returned (.int .i64 ((1 + l.length : Nat) : Int)) ∧ Off [m] w w' := by
  by_cases hn : l.length = 0
  · obtain ⟨a1, c1, rfl, _⟩ := h.slice
    rw [hn]
    exact (markStringS_nil a1 c1 1 w).mono fun e w' ⟨he, hk⟩ => ⟨he, by rw [hk]; exact Off.refl _ _⟩
  · obtain ⟨g1, c1, rfl, hc1, hB, hg⟩ := h.formS (by omega)
    refine (markStringS_own B g1 l.length c1 1 _ w hl (by omega) (by omega) h.1).mono fun e w' ⟨he, ho, hgr⟩ => ⟨he, Off.of_grown hgr ?_⟩
    have : g1 = m := by simpa [Value.ownBlock] using hu
    simp [this]

set_option maxHeartbeats 8000000 in
theorem fnExactFresh_walk (w : World) (v : Value) (U : List ByteArray) (n : Int) (h : StrR w v U) (hp : PowAt w) :
    Calls Tryd.prog 3 #[v, .int .i64 n] w fun e w' => e = .returned (.bool true) ∧ Below w.heap.size w w' := by
  have HS : Hid (StrR w v U) := h
  have HP : Hid (PowAt w) := hp
  have HSN : Hid (∀ w', Below w.heap.size w w' → StrR w' v U) := fun w' hb => h.mono ⟨hb.size, fun g _ hl => hb.block g hl⟩
  have HOK : Hid (∀ x ∈ U, okS x) := h.okS
  have HPN : Hid (∀ w', Below w.heap.size w w' → PowAt w') := fun w' hb => powAt_below hp hb
  clear h hp
  by_cases hw : wtSs U ≤ 1048576
  · have HR : Hid (leftOf 1048576 (wtSs U) = ((1048576 - wtSs U : Nat) : Int)) := leftOf_ge hw
    have hU : U.length ≤ 1048576 := by have : wtSs U = U.length + (U.map ByteArray.size).sum := rfl; omega
    have hF : (freshOf U n).length ≤ 60 := freshOf_len U n
    have HSp : Hid (∀ w' v', StrR w' v' U → Calls Tryd.prog 5 #[v', .int .i64 n] w' fun e w'' => ∃ u, e = .returned u ∧ OwnS w'' w'.heap.size u (freshOf U n) ∧ Below w'.heap.size w' w'') := fun w' v' h => specFresh_any w' v' U n h hU
    have HIm : Hid (∀ w' v', StrR w' v' U → PowAt w' → Calls Tryd.prog 7 #[v', .int .i64 n] w' fun e w'' => ∃ u, e = .returned u ∧ OwnS w'' w'.heap.size u (freshOf U n) ∧ Below w'.heap.size w' w'') := fun w' v' h hp => implFresh_any w' v' U n h hU hp
    generalize freshOf U n = LF at *
    go_enter Tryd.func3, Tryd.ntmps3
    go_wp2_with fail
    refine (szStrings_any _ _ U 1048576 HS.out (by omega)).mono ?_
    rintro e w0 ⟨rfl, hw0⟩
    rw [hw0, HR.out]
    clear hw0 w0
    generalize wtSs U = wt at *
    clear HR
    go_wp2_with fail
    refine (toStrings_any _ _ U HS.out hU).mono ?_
    rintro e w1 ⟨ua, rfl, oa, hb, -⟩
    have B1 : Hid (Below w.heap.size w w1) := hb
    have RA : Hid (StrR w1 ua U) := oa.strR HOK.out
    clear hb oa
    go_wp2_with fail
    refine (HSp.out _ _ RA.out).mono ?_
    rintro e w2 ⟨uw, rfl, ow, hb⟩
    have B2 : Hid (Below w.heap.size w w2) := B1.out.trans (hb.mono B1.out.size)
    have OW2 : Hid (OwnS w2 w1.heap.size uw LF) := ow
    have LW : Hid (∀ g, uw.ownBlock = some g → g < w2.heap.size) := fun g hg => (ow.off hg).2
    clear hb ow RA
    go_wp2_with fail
    refine (toStrings_any _ _ U (HSN.out _ B2.out) hU).mono ?_
    rintro e w3 ⟨ux, rfl, ox, hb, hux⟩
    have B3 : Hid (Below w.heap.size w w3) := B2.out.trans (hb.mono B2.out.size)
    have OW3 : Hid (OwnS w3 w1.heap.size uw LF) := OW2.out.next hb
    have OX3 : Hid (OwnS w3 w2.heap.size ux U) := ox
    have UX : Hid (ux.ownBlock = some w2.heap.size) := hux
    have S23 : Hid (w2.heap.size ≤ w3.heap.size) := hb.size
    have LX : Hid (w2.heap.size < w3.heap.size) := (ox.off hux).2
    clear hb ox hux OW2
    go_wp2_with fail
    refine (HIm.out _ _ (OX3.out.strR HOK.out) (HPN.out _ B3.out)).mono ?_
    rintro e w4 ⟨ug, rfl, og, hb⟩
    have B4 : Hid (Below w.heap.size w w4) := B3.out.trans (hb.mono B3.out.size)
    have OW4 : Hid (OwnS w4 w1.heap.size uw LF) := OW3.out.next hb
    have OX4 : Hid (OwnS w4 w2.heap.size ux U) := OX3.out.next hb
    have OG4 : Hid (OwnS w4 w3.heap.size ug LF) := og
    have LG : Hid (∀ g, ug.ownBlock = some g → w3.heap.size ≤ g) := fun g hg => (og.off hg).1
    clear hb og OW3 OX3
    go_wp2_with fail
    refine (eqS_own OG4.out OW4.out (by omega)).mono ?_
    rintro e w5 ⟨rfl, hb⟩
    have B5 : Hid (Below w.heap.size w w5) := B4.out.trans (hb.mono B4.out.size)
    have OW5 : Hid (OwnS w5 w1.heap.size uw LF) := OW4.out.next hb
    have OX5 : Hid (OwnS w5 w2.heap.size ux U) := OX4.out.next hb
    have OG5 : Hid (OwnS w5 w3.heap.size ug LF) := OG4.out.next hb
    clear hb OW4 OX4 OG4
    go_wp2_with fail
    refine (toStrings_any _ _ U (HSN.out _ B5.out) hU).mono ?_
    rintro e w6 ⟨uy, rfl, oy, hb, -⟩
    have B6 : Hid (Below w.heap.size w w6) := B5.out.trans (hb.mono B5.out.size)
    have OW6 : Hid (OwnS w6 w1.heap.size uw LF) := OW5.out.next hb
    have OX6 : Hid (OwnS w6 w2.heap.size ux U) := OX5.out.next hb
    have OG6 : Hid (OwnS w6 w3.heap.size ug LF) := OG5.out.next hb
    have OY6 : Hid (OwnS w6 w5.heap.size uy U) := oy
    clear hb OW5 OX5 OG5 oy
    go_wp2_with fail
    refine (eqS_own OX6.out OY6.out (by omega)).mono ?_
    rintro e w7 ⟨rfl, hb⟩
    have B7 : Hid (Below w.heap.size w w7) := B6.out.trans (hb.mono B6.out.size)
    have OW7 : Hid (OwnS w7 w1.heap.size uw LF) := OW6.out.next hb
    have OX7 : Hid (OwnS w7 w2.heap.size ux U) := OX6.out.next hb
    have OG7 : Hid (OwnS w7 w3.heap.size ug LF) := OG6.out.next hb
    clear hb OW6 OX6 OG6 OY6
    go_wp2_with fail
    refine (markS_only OX7.out UX.out (by omega)).mono ?_
    rintro e w8 ⟨rfl, ho⟩
    have B8 : Hid (Below w.heap.size w w8) := B7.out.trans (ho.below (fun g hg => by have h2 := B2.out.size; simp at hg; omega) B7.out.size)
    have OW8 : Hid (OwnS w8 w1.heap.size uw LF) := OW7.out.only ho (fun e => by have := LW.out _ e; omega)
    have OG8 : Hid (OwnS w8 w3.heap.size ug LF) := OG7.out.only ho (fun e => by have h1 := LG.out _ e; have h2 := LX.out; omega)
    clear ho OW7 OX7 OG7
    go_wp2_with fail
    refine (eqS_own OG8.out OW8.out (by omega)).mono ?_
    rintro e w9 ⟨rfl, hb⟩
    have B9 : Hid (Below w.heap.size w w9) := B8.out.trans (hb.mono B8.out.size)
    have OW9 : Hid (OwnS w9 w1.heap.size uw LF) := OW8.out.next hb
    have OG9 : Hid (OwnS w9 w3.heap.size ug LF) := OG8.out.next hb
    clear hb OW8 OG8
    go_wp2_with fail
    refine (markS_own OG9.out (by omega)).mono ?_
    rintro e w10 ⟨rfl, hm, hb⟩
    have B10 : Hid (Below w.heap.size w w10) := B9.out.trans (hb.mono B3.out.size)
    have OW10 : Hid (OwnS w10 w1.heap.size uw LF) := OW9.out.belowN hb (fun g hg => by have h1 := LW.out g hg; have h2 := S23.out; omega)
    have M10 : Hid (MarkedS w10 ug LF.length) := hm
    clear hb OW9 OG9 hm
    go_wp2_with fail
    refine (heldS_own M10.out (by omega)).mono ?_
    rintro e w11 ⟨rfl, hb⟩
    have B11 : Hid (Below w.heap.size w w11) := B10.out.trans (hb.mono B10.out.size)
    have OW11 : Hid (OwnS w11 w1.heap.size uw LF) := OW10.out.next hb
    have M11 : Hid (MarkedS w11 ug LF.length) := M10.out.next hb
    clear hb OW10 M10
    go_wp2_with fail
    refine (toStrings_any _ _ U (HSN.out _ B11.out) hU).mono ?_
    rintro e w12 ⟨uz, rfl, oz, hb, -⟩
    have B12 : Hid (Below w.heap.size w w12) := B11.out.trans (hb.mono B11.out.size)
    have OW12 : Hid (OwnS w12 w1.heap.size uw LF) := OW11.out.next hb
    have M12 : Hid (MarkedS w12 ug LF.length) := M11.out.next hb
    have OZ : Hid (StrR w12 uz U) := oz.strR HOK.out
    clear hb OW11 M11 oz
    go_wp2_with fail
    refine (HIm.out _ _ OZ.out (HPN.out _ B12.out)).mono ?_
    rintro e w13 ⟨uh, rfl, oh, hb⟩
    have B13 : Hid (Below w.heap.size w w13) := B12.out.trans (hb.mono B12.out.size)
    have OW13 : Hid (OwnS w13 w1.heap.size uw LF) := OW12.out.next hb
    have M13 : Hid (MarkedS w13 ug LF.length) := M12.out.next hb
    have OH : Hid (OwnS w13 w12.heap.size uh LF) := oh
    clear hb OW12 M12 oh
    go_wp2_with fail
    refine (eqS_own OH.out OW13.out (by omega)).mono ?_
    rintro e w14 ⟨rfl, hb⟩
    have B14 : Hid (Below w.heap.size w w14) := B13.out.trans (hb.mono B13.out.size)
    have M14 : Hid (MarkedS w14 ug LF.length) := M13.out.next hb
    clear hb OW13 M13 OH
    go_wp2_with fail
    refine (heldS_own M14.out (by omega)).mono ?_
    rintro e w15 ⟨rfl, hb⟩
    have B15 : Hid (Below w.heap.size w w15) := B14.out.trans (hb.mono B14.out.size)
    clear hb M14
    go_wp2
    go_ret
    exact ⟨rfl, B15.out⟩
  · have HR : Hid (leftOf 1048576 (wtSs U) = -1) := leftOf_lt (by omega)
    go_enter Tryd.func3, Tryd.ntmps3
    go_wp2_with fail
    refine (szStrings_any _ _ U 1048576 HS.out (by omega)).mono ?_
    rintro e w0 ⟨rfl, hw0⟩
    rw [hw0, HR.out]
    clear hw0 w0
    go_wp2
    go_ret
    exact ⟨rfl, Below.refl _ _⟩
end Go.Proofs.YtompbdecdaaldaaDoor
