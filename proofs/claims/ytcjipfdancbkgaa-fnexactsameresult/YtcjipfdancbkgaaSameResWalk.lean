/-
  The law of SameResult, walked: at every two results.
-/
import Derived.Test.YtcjipfdancbkgaaResSame
import Derived.Test.YtcjipfdancbkgaaResSz
import Derived.Test.YtcjipfdancbkgaaResEq
import Derived.Test.YtcjipfdancbkgaaResTo
namespace Go.Proofs.Ytcjipfdancbkgaa
open Go.ChangeShapes Go.WideShapes Go.ChangeAt Go.RowKit
set_option linter.unusedVariables false

set_option maxHeartbeats 8000000 in
theorem fnExactSameResult_walk (w : World) (d : Nat) (cs0 cs1 : List Value) (m0 : Re) (m1 : Re) (h0 : HRe w (fun g => g < w.heap.size) d cs0 m0) (h1 : HRe w (fun g => g < w.heap.size) d cs1 m1) :
    Calls Try.prog 3 #[.agg cs0.toArray, .agg cs1.toArray] w fun e w' => e = .returned (.bool true) ∧ Below w.heap.size w w' := by
  obtain ⟨co0, wy0, kk0, nn0, s0, pa0, na0, qa0, pb0, nb0, qb0, hsh⟩ := h0.shape
  subst hsh
  obtain ⟨co1, wy1, kk1, nn1, s1, pa1, na1, qa1, pb1, nb1, qb1, hsh⟩ := h1.shape
  subst hsh
  have Z0 : ∀ w', Below w.heap.size w w' → HRe w' (fun g => g < w.heap.size) d [.int .i64 co0, .string wy0, .int .i64 kk0, .int .i64 nn0, .string s0, .slice pa0 na0 qa0, .slice pb0 nb0 qb0] m0 := fun w' hw => h0.mono (SameOn.of_below hw) (fun _ h => h)
  have H0 : ∀ w', Below w.heap.size w w' → HRe w' All d [.int .i64 co0, .string wy0, .int .i64 kk0, .int .i64 nn0, .string s0, .slice pa0 na0 qa0, .slice pb0 nb0 qb0] m0 := fun w' hw => h0.mono (SameOn.of_below hw) (fun _ _ => trivial)
  have Z1 : ∀ w', Below w.heap.size w w' → HRe w' (fun g => g < w.heap.size) d [.int .i64 co1, .string wy1, .int .i64 kk1, .int .i64 nn1, .string s1, .slice pa1 na1 qa1, .slice pb1 nb1 qb1] m1 := fun w' hw => h1.mono (SameOn.of_below hw) (fun _ h => h)
  have H1 : ∀ w', Below w.heap.size w w' → HRe w' All d [.int .i64 co1, .string wy1, .int .i64 kk1, .int .i64 nn1, .string s1, .slice pa1 na1 qa1, .slice pb1 nb1 qb1] m1 := fun w' hw => h1.mono (SameOn.of_below hw) (fun _ _ => trivial)
  clear h0 h1
  obtain ⟨W2, hW2⟩ : ∃ W2, W2 = ((w.alloc (.cells #[.int .i64 co0, .string wy0, .int .i64 kk0, .int .i64 nn0, .string s0, .slice pa0 na0 qa0, .slice pb0 nb0 qb0] 26)).alloc (.cells #[.int .i64 co1, .string wy1, .int .i64 kk1, .int .i64 nn1, .string s1, .slice pa1 na1 qa1, .slice pb1 nb1 qb1] 26)) := ⟨_, rfl⟩
  have A0_2 : Hid (Blk W2 w.heap.size #[.int .i64 co0, .string wy0, .int .i64 kk0, .int .i64 nn0, .string s0, .slice pa0 na0 qa0, .slice pb0 nb0 qb0] 26) := by
    show Blk _ _ _ _
    rw [hW2]
    have := Blk.new (w := w) (cs := #[.int .i64 co0, .string wy0, .int .i64 kk0, .int .i64 nn0, .string s0, .slice pa0 na0 qa0, .slice pb0 nb0 qb0]) (t := 26)
    exact this.alloc
  have A1_2 : Hid (Blk W2 (w.heap.size + 1) #[.int .i64 co1, .string wy1, .int .i64 kk1, .int .i64 nn1, .string s1, .slice pa1 na1 qa1, .slice pb1 nb1 qb1] 26) := by
    show Blk _ _ _ _
    rw [hW2]
    have := Blk.new (w := (w.alloc (.cells #[.int .i64 co0, .string wy0, .int .i64 kk0, .int .i64 nn0, .string s0, .slice pa0 na0 qa0, .slice pb0 nb0 qb0] 26))) (cs := #[.int .i64 co1, .string wy1, .int .i64 kk1, .int .i64 nn1, .string s1, .slice pa1 na1 qa1, .slice pb1 nb1 qb1]) (t := 26)
    simp only [alloc_hs] at this
    exact this
  have B2 : Hid (Below w.heap.size w W2) := by
    show Below _ _ _
    rw [hW2]; exact (((Below.refl _ _).alloc (Nat.le_refl _) _).alloc (by simp only [alloc_hs]; omega) _)
  have HW2 : Hid (W2 = ((w.alloc (.cells #[.int .i64 co0, .string wy0, .int .i64 kk0, .int .i64 nn0, .string s0, .slice pa0 na0 qa0, .slice pb0 nb0 qb0] 26)).alloc (.cells #[.int .i64 co1, .string wy1, .int .i64 kk1, .int .i64 nn1, .string s1, .slice pa1 na1 qa1, .slice pb1 nb1 qb1] 26))) := hW2
  clear hW2
  generalize hx0 : wtRe d m0 = x0 at *
  have HX0 : Hid (wtRe d m0 = x0) := hx0
  clear hx0
  generalize hx1 : wtRe d m1 = x1 at *
  have HX1 : Hid (wtRe d m1 = x1) := hx1
  clear hx1
  by_cases t0 : 1048576 < x0
  · have hr0 : leftOf (1048576) x0 = -1 := leftOf_lt t0
    go_enter Try.func3, Try.ntmps3
    go_wp2_with fail
    rw [← HW2.out]
    refine ((szResult_all (N := w.heap.size) d).at m0 _ (1048576) (by omega) ⟨_, rfl, Z0 _ B2.out⟩ (by omega)).mono ?_
    rintro e w3 ⟨rfl, hb⟩
    rw [HX0.out, hr0]
    have B3 : Hid (Below w.heap.size w w3) := B2.out.trans (hb.mono B2.out.size)
    have A0_3 : Hid (Blk w3 w.heap.size #[.int .i64 co0, .string wy0, .int .i64 kk0, .int .i64 nn0, .string s0, .slice pa0 na0 qa0, .slice pb0 nb0 qb0] 26) := A0_2.out.next hb
    have A1_3 : Hid (Blk w3 (w.heap.size + 1) #[.int .i64 co1, .string wy1, .int .i64 kk1, .int .i64 nn1, .string s1, .slice pa1 na1 qa1, .slice pb1 nb1 qb1] 26) := A1_2.out.next hb
    clear hb
    go_wp2_with fail
    go_ret
    exact ⟨rfl, B3.out⟩
  · have hr0 : leftOf (1048576) x0 = ((1048576 - x0 : Nat) : Int) := leftOf_ge (by omega)
    have HW0 : Hid (wtRe d m0 ≤ 1048576) := by
      show _ ≤ _
      rw [HX0.out]; omega
    by_cases t1 : 1048576 - x0 < x1
    · have hr1 : leftOf (1048576 - x0) x1 = -1 := leftOf_lt t1
      go_enter Try.func3, Try.ntmps3
      go_wp2_with fail
      rw [← HW2.out]
      refine ((szResult_all (N := w.heap.size) d).at m0 _ (1048576) (by omega) ⟨_, rfl, Z0 _ B2.out⟩ (by omega)).mono ?_
      rintro e w3 ⟨rfl, hb⟩
      rw [HX0.out, hr0]
      have B3 : Hid (Below w.heap.size w w3) := B2.out.trans (hb.mono B2.out.size)
      have A0_3 : Hid (Blk w3 w.heap.size #[.int .i64 co0, .string wy0, .int .i64 kk0, .int .i64 nn0, .string s0, .slice pa0 na0 qa0, .slice pb0 nb0 qb0] 26) := A0_2.out.next hb
      have A1_3 : Hid (Blk w3 (w.heap.size + 1) #[.int .i64 co1, .string wy1, .int .i64 kk1, .int .i64 nn1, .string s1, .slice pa1 na1 qa1, .slice pb1 nb1 qb1] 26) := A1_2.out.next hb
      clear hb
      have c0 := A1_3.out.cell 0 _ rfl
      have c1 := A1_3.out.cell 1 _ rfl
      have c2 := A1_3.out.cell 2 _ rfl
      have c3 := A1_3.out.cell 3 _ rfl
      have c4 := A1_3.out.cell 4 _ rfl
      have c5 := A1_3.out.cell 5 _ rfl
      have c6 := A1_3.out.cell 6 _ rfl
      go_wp2_with fail
      clear c0 c1 c2 c3 c4 c5 c6
      refine ((szResult_all (N := w.heap.size) d).at m1 _ (1048576 - x0) (by omega) ⟨_, rfl, Z1 _ B3.out⟩ (by omega)).mono ?_
      rintro e w4 ⟨rfl, hb⟩
      rw [HX1.out, hr1]
      have B4 : Hid (Below w.heap.size w w4) := B3.out.trans (hb.mono B3.out.size)
      have A0_4 : Hid (Blk w4 w.heap.size #[.int .i64 co0, .string wy0, .int .i64 kk0, .int .i64 nn0, .string s0, .slice pa0 na0 qa0, .slice pb0 nb0 qb0] 26) := A0_3.out.next hb
      have A1_4 : Hid (Blk w4 (w.heap.size + 1) #[.int .i64 co1, .string wy1, .int .i64 kk1, .int .i64 nn1, .string s1, .slice pa1 na1 qa1, .slice pb1 nb1 qb1] 26) := A1_3.out.next hb
      clear hb
      go_wp2_with fail
      go_ret
      exact ⟨rfl, B4.out⟩
    · have hr1 : leftOf (1048576 - x0) x1 = ((1048576 - x0 - x1 : Nat) : Int) := leftOf_ge (by omega)
      have HW1 : Hid (wtRe d m1 ≤ 1048576) := by
        show _ ≤ _
        rw [HX1.out]; omega
      go_enter Try.func3, Try.ntmps3
      go_wp2_with fail
      rw [← HW2.out]
      refine ((szResult_all (N := w.heap.size) d).at m0 _ (1048576) (by omega) ⟨_, rfl, Z0 _ B2.out⟩ (by omega)).mono ?_
      rintro e w3 ⟨rfl, hb⟩
      rw [HX0.out, hr0]
      have B3 : Hid (Below w.heap.size w w3) := B2.out.trans (hb.mono B2.out.size)
      have A0_3 : Hid (Blk w3 w.heap.size #[.int .i64 co0, .string wy0, .int .i64 kk0, .int .i64 nn0, .string s0, .slice pa0 na0 qa0, .slice pb0 nb0 qb0] 26) := A0_2.out.next hb
      have A1_3 : Hid (Blk w3 (w.heap.size + 1) #[.int .i64 co1, .string wy1, .int .i64 kk1, .int .i64 nn1, .string s1, .slice pa1 na1 qa1, .slice pb1 nb1 qb1] 26) := A1_2.out.next hb
      clear hb
      have c0 := A1_3.out.cell 0 _ rfl
      have c1 := A1_3.out.cell 1 _ rfl
      have c2 := A1_3.out.cell 2 _ rfl
      have c3 := A1_3.out.cell 3 _ rfl
      have c4 := A1_3.out.cell 4 _ rfl
      have c5 := A1_3.out.cell 5 _ rfl
      have c6 := A1_3.out.cell 6 _ rfl
      go_wp2_with fail
      clear c0 c1 c2 c3 c4 c5 c6
      refine ((szResult_all (N := w.heap.size) d).at m1 _ (1048576 - x0) (by omega) ⟨_, rfl, Z1 _ B3.out⟩ (by omega)).mono ?_
      rintro e w4 ⟨rfl, hb⟩
      rw [HX1.out, hr1]
      have B4 : Hid (Below w.heap.size w w4) := B3.out.trans (hb.mono B3.out.size)
      have A0_4 : Hid (Blk w4 w.heap.size #[.int .i64 co0, .string wy0, .int .i64 kk0, .int .i64 nn0, .string s0, .slice pa0 na0 qa0, .slice pb0 nb0 qb0] 26) := A0_3.out.next hb
      have A1_4 : Hid (Blk w4 (w.heap.size + 1) #[.int .i64 co1, .string wy1, .int .i64 kk1, .int .i64 nn1, .string s1, .slice pa1 na1 qa1, .slice pb1 nb1 qb1] 26) := A1_3.out.next hb
      clear hb
      clear hr0 hr1
      have c00 := A0_4.out.cell 0 _ rfl
      have c01 := A0_4.out.cell 1 _ rfl
      have c02 := A0_4.out.cell 2 _ rfl
      have c03 := A0_4.out.cell 3 _ rfl
      have c04 := A0_4.out.cell 4 _ rfl
      have c05 := A0_4.out.cell 5 _ rfl
      have c06 := A0_4.out.cell 6 _ rfl
      have c10 := A1_4.out.cell 0 _ rfl
      have c11 := A1_4.out.cell 1 _ rfl
      have c12 := A1_4.out.cell 2 _ rfl
      have c13 := A1_4.out.cell 3 _ rfl
      have c14 := A1_4.out.cell 4 _ rfl
      have c15 := A1_4.out.cell 5 _ rfl
      have c16 := A1_4.out.cell 6 _ rfl
      go_wp2_with fail
      go_region_held3 (fun w' => w'.cell? ⟨w.heap.size, 0, none⟩ = some (.int .i64 co0) ∧ w'.cell? ⟨w.heap.size, 1, none⟩ = some (.string wy0) ∧ w'.cell? ⟨w.heap.size, 2, none⟩ = some (.int .i64 kk0) ∧ w'.cell? ⟨w.heap.size, 3, none⟩ = some (.int .i64 nn0) ∧ w'.cell? ⟨w.heap.size, 4, none⟩ = some (.string s0) ∧ w'.cell? ⟨w.heap.size, 5, none⟩ = some (.slice pa0 na0 qa0) ∧ w'.cell? ⟨w.heap.size, 6, none⟩ = some (.slice pb0 nb0 qb0) ∧ w'.cell? ⟨(w.heap.size + 1), 0, none⟩ = some (.int .i64 co1) ∧ w'.cell? ⟨(w.heap.size + 1), 1, none⟩ = some (.string wy1) ∧ w'.cell? ⟨(w.heap.size + 1), 2, none⟩ = some (.int .i64 kk1) ∧ w'.cell? ⟨(w.heap.size + 1), 3, none⟩ = some (.int .i64 nn1) ∧ w'.cell? ⟨(w.heap.size + 1), 4, none⟩ = some (.string s1) ∧ w'.cell? ⟨(w.heap.size + 1), 5, none⟩ = some (.slice pa1 na1 qa1) ∧ w'.cell? ⟨(w.heap.size + 1), 6, none⟩ = some (.slice pb1 nb1 qb1))
        (first | go_keep | (go_split_ands; refine ⟨?_, ?_, ?_, ?_, ?_, ?_, ?_, ?_, ?_, ?_, ?_, ?_, ?_, ?_⟩ <;> exact cell_next hb (by assumption)))
        (first
          | (go_at_call_of 6 (Value.slice pb0 nb0 qb0); refine (toResult_all d _ _ m0 ⟨_, rfl, H0 _ (by exact B4.out.drew)⟩ HW0.out).mono ?_; rintro e w5 ⟨u, rfl, ⟨cs, rfl, hx⟩, hb⟩; obtain ⟨cou0, wyu0, kku0, nnu0, su0, pau0, nau0, qau0, pbu0, nbu0, qbu0, hsh⟩ := hx.shape; subst hsh; have U0 : ∀ w', Below w5.heap.size w5 w' → HRe w' All d [.int .i64 cou0, .string wyu0, .int .i64 kku0, .int .i64 nnu0, .string su0, .slice pau0 nau0 qau0, .slice pbu0 nbu0 qbu0] m0 := fun w' hw => hx.mono (SameOn.of_below hw) (fun _ _ => trivial); have K5 : Hid (Below w4.heap.size w4 w5) := ⟨hb.os, hb.tape, hb.output, hb.size, hb.block⟩; have G5 : Hid (Below _ _ w5) := hb; clear hx)
          | (go_at_call_of 6 (Value.slice pb1 nb1 qb1); refine (toResult_all d _ _ m1 ⟨_, rfl, H1 _ (by exact B4.out.trans (K5.out.mono B4.out.size))⟩ HW1.out).mono ?_; rintro e w6 ⟨u, rfl, ⟨cs, rfl, hx⟩, hb⟩; obtain ⟨cou1, wyu1, kku1, nnu1, su1, pau1, nau1, qau1, pbu1, nbu1, qbu1, hsh⟩ := hx.shape; subst hsh; have U1 : ∀ w', Below w6.heap.size w6 w' → HRe w' All d [.int .i64 cou1, .string wyu1, .int .i64 kku1, .int .i64 nnu1, .string su1, .slice pau1 nau1 qau1, .slice pbu1 nbu1 qbu1] m1 := fun w' hw => hx.mono (SameOn.of_below hw) (fun _ _ => trivial); have K6 : Hid (Below w4.heap.size w4 w6) := K5.out.trans (hb.mono K5.out.size); have G6 : Hid (Below _ _ w6) := hb; clear hx)
          | (go_at_call 5; refine (specSame_any d _ _ _ m0 m1 (U0 _ G6.out) (U1 _ (Below.refl _ _))).mono ?_; rintro e w7 ⟨rfl, hb⟩; have K7 : Hid (Below w4.heap.size w4 w7) := K6.out.trans (hb.mono K6.out.size)))
      go_split_ands
      have B7 : Hid (Below w.heap.size w w7) := B4.out.trans (K7.out.mono B4.out.size)
      have A0_7 : Hid (Blk w7 w.heap.size #[.int .i64 co0, .string wy0, .int .i64 kk0, .int .i64 nn0, .string s0, .slice pa0 na0 qa0, .slice pb0 nb0 qb0] 26) := A0_4.out.next K7.out
      have A1_7 : Hid (Blk w7 (w.heap.size + 1) #[.int .i64 co1, .string wy1, .int .i64 kk1, .int .i64 nn1, .string s1, .slice pa1 na1 qa1, .slice pb1 nb1 qb1] 26) := A1_4.out.next K7.out
      clear hb K5 K6 K7 G5 U0 G6 U1 c00 c01 c02 c03 c04 c05 c06 c10 c11 c12 c13 c14 c15 c16
      have c0 := A0_7.out.cell 0 _ rfl
      have c1 := A0_7.out.cell 1 _ rfl
      have c2 := A0_7.out.cell 2 _ rfl
      have c3 := A0_7.out.cell 3 _ rfl
      have c4 := A0_7.out.cell 4 _ rfl
      have c5 := A0_7.out.cell 5 _ rfl
      have c6 := A0_7.out.cell 6 _ rfl
      go_wp2_with fail
      refine (toResult_all d _ _ m0 ⟨_, rfl, H0 _ B7.out⟩ HW0.out).mono ?_
      rintro e w8 ⟨u, rfl, ⟨cs, rfl, hx⟩, hb⟩
      obtain ⟨cox0, wyx0, kkx0, nnx0, sx0, pax0, nax0, qax0, pbx0, nbx0, qbx0, hsh⟩ := hx.shape
      subst hsh
      have X0 : ∀ w', Below w8.heap.size w8 w' → HRe w' All d [.int .i64 cox0, .string wyx0, .int .i64 kkx0, .int .i64 nnx0, .string sx0, .slice pax0 nax0 qax0, .slice pbx0 nbx0 qbx0] m0 := fun w' hw => hx.mono (SameOn.of_below hw) (fun _ _ => trivial)
      have B8 : Hid (Below w.heap.size w w8) := B7.out.trans (hb.mono B7.out.size)
      have A0_8 : Hid (Blk w8 w.heap.size #[.int .i64 co0, .string wy0, .int .i64 kk0, .int .i64 nn0, .string s0, .slice pa0 na0 qa0, .slice pb0 nb0 qb0] 26) := A0_7.out.next hb
      have A1_8 : Hid (Blk w8 (w.heap.size + 1) #[.int .i64 co1, .string wy1, .int .i64 kk1, .int .i64 nn1, .string s1, .slice pa1 na1 qa1, .slice pb1 nb1 qb1] 26) := A1_7.out.next hb
      clear hb hx
      obtain ⟨w9, hW⟩ : ∃ W, W = (w8.alloc (.cells #[.int .i64 cox0, .string wyx0, .int .i64 kkx0, .int .i64 nnx0, .string sx0, .slice pax0 nax0 qax0, .slice pbx0 nbx0 qbx0] 33)) := ⟨_, rfl⟩
      have hb : Below w8.heap.size w8 w9 := by rw [hW]; exact (Below.refl _ _).alloc (Nat.le_refl _) _
      have D0_9 : Hid (Blk w9 w8.heap.size #[.int .i64 cox0, .string wyx0, .int .i64 kkx0, .int .i64 nnx0, .string sx0, .slice pax0 nax0 qax0, .slice pbx0 nbx0 qbx0] 33) := by
        show Blk _ _ _ _
        rw [hW]; exact Blk.new
      have B9 : Hid (Below w.heap.size w w9) := B8.out.trans (hb.mono B8.out.size)
      have A0_9 : Hid (Blk w9 w.heap.size #[.int .i64 co0, .string wy0, .int .i64 kk0, .int .i64 nn0, .string s0, .slice pa0 na0 qa0, .slice pb0 nb0 qb0] 26) := A0_8.out.next hb
      have A1_9 : Hid (Blk w9 (w.heap.size + 1) #[.int .i64 co1, .string wy1, .int .i64 kk1, .int .i64 nn1, .string s1, .slice pa1 na1 qa1, .slice pb1 nb1 qb1] 26) := A1_8.out.next hb
      replace X0 : ∀ w', Below w9.heap.size w9 w' → HRe w' All d [.int .i64 cox0, .string wyx0, .int .i64 kkx0, .int .i64 nnx0, .string sx0, .slice pax0 nax0 qax0, .slice pbx0 nbx0 qbx0] m0 := fun w' hw => X0 w' (hb.trans (hw.mono hb.size))
      have e0 := A1_9.out.cell 0 _ rfl
      have e1 := A1_9.out.cell 1 _ rfl
      have e2 := A1_9.out.cell 2 _ rfl
      have e3 := A1_9.out.cell 3 _ rfl
      have e4 := A1_9.out.cell 4 _ rfl
      have e5 := A1_9.out.cell 5 _ rfl
      have e6 := A1_9.out.cell 6 _ rfl
      rw [hW] at e0 e1 e2 e3 e4 e5 e6
      have HW9_ : Hid (w9 = (w8.alloc (.cells #[.int .i64 cox0, .string wyx0, .int .i64 kkx0, .int .i64 nnx0, .string sx0, .slice pax0 nax0 qax0, .slice pbx0 nbx0 qbx0] 33))) := hW
      clear hb hW
      go_wp2_with fail
      rw [← HW9_.out]
      clear e0 e1 e2 e3 e4 e5 e6
      refine (toResult_all d _ _ m1 ⟨_, rfl, H1 _ B9.out⟩ HW1.out).mono ?_
      rintro e w10 ⟨u, rfl, ⟨cs, rfl, hx⟩, hb⟩
      obtain ⟨cox1, wyx1, kkx1, nnx1, sx1, pax1, nax1, qax1, pbx1, nbx1, qbx1, hsh⟩ := hx.shape
      subst hsh
      have X1 : ∀ w', Below w10.heap.size w10 w' → HRe w' All d [.int .i64 cox1, .string wyx1, .int .i64 kkx1, .int .i64 nnx1, .string sx1, .slice pax1 nax1 qax1, .slice pbx1 nbx1 qbx1] m1 := fun w' hw => hx.mono (SameOn.of_below hw) (fun _ _ => trivial)
      have B10 : Hid (Below w.heap.size w w10) := B9.out.trans (hb.mono B9.out.size)
      have A0_10 : Hid (Blk w10 w.heap.size #[.int .i64 co0, .string wy0, .int .i64 kk0, .int .i64 nn0, .string s0, .slice pa0 na0 qa0, .slice pb0 nb0 qb0] 26) := A0_9.out.next hb
      have A1_10 : Hid (Blk w10 (w.heap.size + 1) #[.int .i64 co1, .string wy1, .int .i64 kk1, .int .i64 nn1, .string s1, .slice pa1 na1 qa1, .slice pb1 nb1 qb1] 26) := A1_9.out.next hb
      have D0_10 : Hid (Blk w10 w8.heap.size #[.int .i64 cox0, .string wyx0, .int .i64 kkx0, .int .i64 nnx0, .string sx0, .slice pax0 nax0 qax0, .slice pbx0 nbx0 qbx0] 33) := D0_9.out.next hb
      replace X0 : ∀ w', Below w10.heap.size w10 w' → HRe w' All d [.int .i64 cox0, .string wyx0, .int .i64 kkx0, .int .i64 nnx0, .string sx0, .slice pax0 nax0 qax0, .slice pbx0 nbx0 qbx0] m0 := fun w' hw => X0 w' (hb.trans (hw.mono hb.size))
      clear hb hx
      obtain ⟨w11, hW⟩ : ∃ W, W = (w10.alloc (.cells #[.int .i64 cox1, .string wyx1, .int .i64 kkx1, .int .i64 nnx1, .string sx1, .slice pax1 nax1 qax1, .slice pbx1 nbx1 qbx1] 33)) := ⟨_, rfl⟩
      have hb : Below w10.heap.size w10 w11 := by rw [hW]; exact (Below.refl _ _).alloc (Nat.le_refl _) _
      have D1_11 : Hid (Blk w11 w10.heap.size #[.int .i64 cox1, .string wyx1, .int .i64 kkx1, .int .i64 nnx1, .string sx1, .slice pax1 nax1 qax1, .slice pbx1 nbx1 qbx1] 33) := by
        show Blk _ _ _ _
        rw [hW]; exact Blk.new
      have B11 : Hid (Below w.heap.size w w11) := B10.out.trans (hb.mono B10.out.size)
      have A0_11 : Hid (Blk w11 w.heap.size #[.int .i64 co0, .string wy0, .int .i64 kk0, .int .i64 nn0, .string s0, .slice pa0 na0 qa0, .slice pb0 nb0 qb0] 26) := A0_10.out.next hb
      have A1_11 : Hid (Blk w11 (w.heap.size + 1) #[.int .i64 co1, .string wy1, .int .i64 kk1, .int .i64 nn1, .string s1, .slice pa1 na1 qa1, .slice pb1 nb1 qb1] 26) := A1_10.out.next hb
      have D0_11 : Hid (Blk w11 w8.heap.size #[.int .i64 cox0, .string wyx0, .int .i64 kkx0, .int .i64 nnx0, .string sx0, .slice pax0 nax0 qax0, .slice pbx0 nbx0 qbx0] 33) := D0_10.out.next hb
      replace X0 : ∀ w', Below w11.heap.size w11 w' → HRe w' All d [.int .i64 cox0, .string wyx0, .int .i64 kkx0, .int .i64 nnx0, .string sx0, .slice pax0 nax0 qax0, .slice pbx0 nbx0 qbx0] m0 := fun w' hw => X0 w' (hb.trans (hw.mono hb.size))
      replace X1 : ∀ w', Below w11.heap.size w11 w' → HRe w' All d [.int .i64 cox1, .string wyx1, .int .i64 kkx1, .int .i64 nnx1, .string sx1, .slice pax1 nax1 qax1, .slice pbx1 nbx1 qbx1] m1 := fun w' hw => X1 w' (hb.trans (hw.mono hb.size))
      have e0 := D0_11.out.cell 0 _ rfl
      have e1 := D0_11.out.cell 1 _ rfl
      have e2 := D0_11.out.cell 2 _ rfl
      have e3 := D0_11.out.cell 3 _ rfl
      have e4 := D0_11.out.cell 4 _ rfl
      have e5 := D0_11.out.cell 5 _ rfl
      have e6 := D0_11.out.cell 6 _ rfl
      have e7 := D1_11.out.cell 0 _ rfl
      have e8 := D1_11.out.cell 1 _ rfl
      have e9 := D1_11.out.cell 2 _ rfl
      have e10 := D1_11.out.cell 3 _ rfl
      have e11 := D1_11.out.cell 4 _ rfl
      have e12 := D1_11.out.cell 5 _ rfl
      have e13 := D1_11.out.cell 6 _ rfl
      rw [hW] at e0 e1 e2 e3 e4 e5 e6 e7 e8 e9 e10 e11 e12 e13
      have HW11_ : Hid (w11 = (w10.alloc (.cells #[.int .i64 cox1, .string wyx1, .int .i64 kkx1, .int .i64 nnx1, .string sx1, .slice pax1 nax1 qax1, .slice pbx1 nbx1 qbx1] 33))) := hW
      clear hb hW
      go_wp2_with fail
      rw [← HW11_.out]
      clear e0 e1 e2 e3 e4 e5 e6 e7 e8 e9 e10 e11 e12 e13
      refine (implSame_any d _ _ _ m0 m1 (X0 _ (Below.refl _ _)) (X1 _ (Below.refl _ _))).mono ?_
      rintro e w12 ⟨rfl, hb⟩
      have B12 : Hid (Below w.heap.size w w12) := B11.out.trans (hb.mono B11.out.size)
      have A0_12 : Hid (Blk w12 w.heap.size #[.int .i64 co0, .string wy0, .int .i64 kk0, .int .i64 nn0, .string s0, .slice pa0 na0 qa0, .slice pb0 nb0 qb0] 26) := A0_11.out.next hb
      have A1_12 : Hid (Blk w12 (w.heap.size + 1) #[.int .i64 co1, .string wy1, .int .i64 kk1, .int .i64 nn1, .string s1, .slice pa1 na1 qa1, .slice pb1 nb1 qb1] 26) := A1_11.out.next hb
      have D0_12 : Hid (Blk w12 w8.heap.size #[.int .i64 cox0, .string wyx0, .int .i64 kkx0, .int .i64 nnx0, .string sx0, .slice pax0 nax0 qax0, .slice pbx0 nbx0 qbx0] 33) := D0_11.out.next hb
      have D1_12 : Hid (Blk w12 w10.heap.size #[.int .i64 cox1, .string wyx1, .int .i64 kkx1, .int .i64 nnx1, .string sx1, .slice pax1 nax1 qax1, .slice pbx1 nbx1 qbx1] 33) := D1_11.out.next hb
      replace X0 : ∀ w', Below w12.heap.size w12 w' → HRe w' All d [.int .i64 cox0, .string wyx0, .int .i64 kkx0, .int .i64 nnx0, .string sx0, .slice pax0 nax0 qax0, .slice pbx0 nbx0 qbx0] m0 := fun w' hw => X0 w' (hb.trans (hw.mono hb.size))
      replace X1 : ∀ w', Below w12.heap.size w12 w' → HRe w' All d [.int .i64 cox1, .string wyx1, .int .i64 kkx1, .int .i64 nnx1, .string sx1, .slice pax1 nax1 qax1, .slice pbx1 nbx1 qbx1] m1 := fun w' hw => X1 w' (hb.trans (hw.mono hb.size))
      clear hb
      have c0 := A0_12.out.cell 0 _ rfl
      have e0 := D0_12.out.cell 0 _ rfl
      have c1 := A0_12.out.cell 1 _ rfl
      have e1 := D0_12.out.cell 1 _ rfl
      have c2 := A0_12.out.cell 2 _ rfl
      have e2 := D0_12.out.cell 2 _ rfl
      have c3 := A0_12.out.cell 3 _ rfl
      have e3 := D0_12.out.cell 3 _ rfl
      have c4 := A0_12.out.cell 4 _ rfl
      have e4 := D0_12.out.cell 4 _ rfl
      have c5 := A0_12.out.cell 5 _ rfl
      have e5 := D0_12.out.cell 5 _ rfl
      have c6 := A0_12.out.cell 6 _ rfl
      have e6 := D0_12.out.cell 6 _ rfl
      go_wp2_with fail
      go_region_held3 (fun w' => w'.cell? ⟨w8.heap.size, 0, none⟩ = some (.int .i64 cox0) ∧ w'.cell? ⟨w8.heap.size, 1, none⟩ = some (.string wyx0) ∧ w'.cell? ⟨w8.heap.size, 2, none⟩ = some (.int .i64 kkx0) ∧ w'.cell? ⟨w8.heap.size, 3, none⟩ = some (.int .i64 nnx0) ∧ w'.cell? ⟨w8.heap.size, 4, none⟩ = some (.string sx0) ∧ w'.cell? ⟨w8.heap.size, 5, none⟩ = some (.slice pax0 nax0 qax0) ∧ w'.cell? ⟨w8.heap.size, 6, none⟩ = some (.slice pbx0 nbx0 qbx0) ∧ w'.cell? ⟨w.heap.size, 0, none⟩ = some (.int .i64 co0) ∧ w'.cell? ⟨w.heap.size, 1, none⟩ = some (.string wy0) ∧ w'.cell? ⟨w.heap.size, 2, none⟩ = some (.int .i64 kk0) ∧ w'.cell? ⟨w.heap.size, 3, none⟩ = some (.int .i64 nn0) ∧ w'.cell? ⟨w.heap.size, 4, none⟩ = some (.string s0) ∧ w'.cell? ⟨w.heap.size, 5, none⟩ = some (.slice pa0 na0 qa0) ∧ w'.cell? ⟨w.heap.size, 6, none⟩ = some (.slice pb0 nb0 qb0))
        (first | go_keep | (go_split_ands; refine ⟨?_, ?_, ?_, ?_, ?_, ?_, ?_, ?_, ?_, ?_, ?_, ?_, ?_, ?_⟩ <;> exact cell_next hb (by assumption)))
        (first
          | (go_at_call_of 6 (Value.slice pb0 nb0 qb0); refine (toResult_all d _ _ m0 ⟨_, rfl, H0 _ (by exact B12.out.drew)⟩ HW0.out).mono ?_; rintro e w13 ⟨u, rfl, ⟨cs, rfl, hx⟩, hb⟩; obtain ⟨cov00, wyv00, kkv00, nnv00, sv00, pav00, nav00, qav00, pbv00, nbv00, qbv00, hsh⟩ := hx.shape; subst hsh; have U0 : ∀ w', Below w13.heap.size w13 w' → HRe w' All d [.int .i64 cov00, .string wyv00, .int .i64 kkv00, .int .i64 nnv00, .string sv00, .slice pav00 nav00 qav00, .slice pbv00 nbv00 qbv00] m0 := fun w' hw => hx.mono (SameOn.of_below hw) (fun _ _ => trivial); have K13 : Hid (Below w12.heap.size w12 w13) := ⟨hb.os, hb.tape, hb.output, hb.size, hb.block⟩; have G13 : Hid (Below _ _ w13) := hb; clear hx)
          | (go_at_call 8; refine (eqResult_all d _ _ _ m0 ⟨_, rfl, X0 _ K13.out⟩ ⟨_, rfl, U0 _ (Below.refl _ _)⟩).mono ?_; rintro e w14 ⟨rfl, hb⟩; have K14 : Hid (Below w12.heap.size w12 w14) := K13.out.trans (hb.mono K13.out.size)))
      go_split_ands
      clear hb
      have hb := K14.out
      have B14 : Hid (Below w.heap.size w w14) := B12.out.trans (hb.mono B12.out.size)
      have A0_14 : Hid (Blk w14 w.heap.size #[.int .i64 co0, .string wy0, .int .i64 kk0, .int .i64 nn0, .string s0, .slice pa0 na0 qa0, .slice pb0 nb0 qb0] 26) := A0_12.out.next hb
      have A1_14 : Hid (Blk w14 (w.heap.size + 1) #[.int .i64 co1, .string wy1, .int .i64 kk1, .int .i64 nn1, .string s1, .slice pa1 na1 qa1, .slice pb1 nb1 qb1] 26) := A1_12.out.next hb
      have D0_14 : Hid (Blk w14 w8.heap.size #[.int .i64 cox0, .string wyx0, .int .i64 kkx0, .int .i64 nnx0, .string sx0, .slice pax0 nax0 qax0, .slice pbx0 nbx0 qbx0] 33) := D0_12.out.next hb
      have D1_14 : Hid (Blk w14 w10.heap.size #[.int .i64 cox1, .string wyx1, .int .i64 kkx1, .int .i64 nnx1, .string sx1, .slice pax1 nax1 qax1, .slice pbx1 nbx1 qbx1] 33) := D1_12.out.next hb
      replace X0 : ∀ w', Below w14.heap.size w14 w' → HRe w' All d [.int .i64 cox0, .string wyx0, .int .i64 kkx0, .int .i64 nnx0, .string sx0, .slice pax0 nax0 qax0, .slice pbx0 nbx0 qbx0] m0 := fun w' hw => X0 w' (hb.trans (hw.mono hb.size))
      replace X1 : ∀ w', Below w14.heap.size w14 w' → HRe w' All d [.int .i64 cox1, .string wyx1, .int .i64 kkx1, .int .i64 nnx1, .string sx1, .slice pax1 nax1 qax1, .slice pbx1 nbx1 qbx1] m1 := fun w' hw => X1 w' (hb.trans (hw.mono hb.size))
      clear hb
      clear K13 K14 G13 U0 c0 e0 c1 e1 c2 e2 c3 e3 c4 e4 c5 e5 c6 e6
      have c0 := A1_14.out.cell 0 _ rfl
      have e0 := D1_14.out.cell 0 _ rfl
      have c1 := A1_14.out.cell 1 _ rfl
      have e1 := D1_14.out.cell 1 _ rfl
      have c2 := A1_14.out.cell 2 _ rfl
      have e2 := D1_14.out.cell 2 _ rfl
      have c3 := A1_14.out.cell 3 _ rfl
      have e3 := D1_14.out.cell 3 _ rfl
      have c4 := A1_14.out.cell 4 _ rfl
      have e4 := D1_14.out.cell 4 _ rfl
      have c5 := A1_14.out.cell 5 _ rfl
      have e5 := D1_14.out.cell 5 _ rfl
      have c6 := A1_14.out.cell 6 _ rfl
      have e6 := D1_14.out.cell 6 _ rfl
      go_wp2_with fail
      go_region_held3 (fun w' => w'.cell? ⟨w10.heap.size, 0, none⟩ = some (.int .i64 cox1) ∧ w'.cell? ⟨w10.heap.size, 1, none⟩ = some (.string wyx1) ∧ w'.cell? ⟨w10.heap.size, 2, none⟩ = some (.int .i64 kkx1) ∧ w'.cell? ⟨w10.heap.size, 3, none⟩ = some (.int .i64 nnx1) ∧ w'.cell? ⟨w10.heap.size, 4, none⟩ = some (.string sx1) ∧ w'.cell? ⟨w10.heap.size, 5, none⟩ = some (.slice pax1 nax1 qax1) ∧ w'.cell? ⟨w10.heap.size, 6, none⟩ = some (.slice pbx1 nbx1 qbx1) ∧ w'.cell? ⟨(w.heap.size + 1), 0, none⟩ = some (.int .i64 co1) ∧ w'.cell? ⟨(w.heap.size + 1), 1, none⟩ = some (.string wy1) ∧ w'.cell? ⟨(w.heap.size + 1), 2, none⟩ = some (.int .i64 kk1) ∧ w'.cell? ⟨(w.heap.size + 1), 3, none⟩ = some (.int .i64 nn1) ∧ w'.cell? ⟨(w.heap.size + 1), 4, none⟩ = some (.string s1) ∧ w'.cell? ⟨(w.heap.size + 1), 5, none⟩ = some (.slice pa1 na1 qa1) ∧ w'.cell? ⟨(w.heap.size + 1), 6, none⟩ = some (.slice pb1 nb1 qb1))
        (first | go_keep | (go_split_ands; refine ⟨?_, ?_, ?_, ?_, ?_, ?_, ?_, ?_, ?_, ?_, ?_, ?_, ?_, ?_⟩ <;> exact cell_next hb (by assumption)))
        (first
          | (go_at_call_of 6 (Value.slice pb1 nb1 qb1); refine (toResult_all d _ _ m1 ⟨_, rfl, H1 _ (by exact B14.out.drew)⟩ HW1.out).mono ?_; rintro e w15 ⟨u, rfl, ⟨cs, rfl, hx⟩, hb⟩; obtain ⟨cov11, wyv11, kkv11, nnv11, sv11, pav11, nav11, qav11, pbv11, nbv11, qbv11, hsh⟩ := hx.shape; subst hsh; have U1 : ∀ w', Below w15.heap.size w15 w' → HRe w' All d [.int .i64 cov11, .string wyv11, .int .i64 kkv11, .int .i64 nnv11, .string sv11, .slice pav11 nav11 qav11, .slice pbv11 nbv11 qbv11] m1 := fun w' hw => hx.mono (SameOn.of_below hw) (fun _ _ => trivial); have K15 : Hid (Below w14.heap.size w14 w15) := ⟨hb.os, hb.tape, hb.output, hb.size, hb.block⟩; have G15 : Hid (Below _ _ w15) := hb; clear hx)
          | (go_at_call 8; refine (eqResult_all d _ _ _ m1 ⟨_, rfl, X1 _ K15.out⟩ ⟨_, rfl, U1 _ (Below.refl _ _)⟩).mono ?_; rintro e w16 ⟨rfl, hb⟩; have K16 : Hid (Below w14.heap.size w14 w16) := K15.out.trans (hb.mono K15.out.size)))
      go_split_ands
      clear hb
      have hb := K16.out
      have B16 : Hid (Below w.heap.size w w16) := B14.out.trans (hb.mono B14.out.size)
      have A0_16 : Hid (Blk w16 w.heap.size #[.int .i64 co0, .string wy0, .int .i64 kk0, .int .i64 nn0, .string s0, .slice pa0 na0 qa0, .slice pb0 nb0 qb0] 26) := A0_14.out.next hb
      have A1_16 : Hid (Blk w16 (w.heap.size + 1) #[.int .i64 co1, .string wy1, .int .i64 kk1, .int .i64 nn1, .string s1, .slice pa1 na1 qa1, .slice pb1 nb1 qb1] 26) := A1_14.out.next hb
      have D0_16 : Hid (Blk w16 w8.heap.size #[.int .i64 cox0, .string wyx0, .int .i64 kkx0, .int .i64 nnx0, .string sx0, .slice pax0 nax0 qax0, .slice pbx0 nbx0 qbx0] 33) := D0_14.out.next hb
      have D1_16 : Hid (Blk w16 w10.heap.size #[.int .i64 cox1, .string wyx1, .int .i64 kkx1, .int .i64 nnx1, .string sx1, .slice pax1 nax1 qax1, .slice pbx1 nbx1 qbx1] 33) := D1_14.out.next hb
      replace X0 : ∀ w', Below w16.heap.size w16 w' → HRe w' All d [.int .i64 cox0, .string wyx0, .int .i64 kkx0, .int .i64 nnx0, .string sx0, .slice pax0 nax0 qax0, .slice pbx0 nbx0 qbx0] m0 := fun w' hw => X0 w' (hb.trans (hw.mono hb.size))
      replace X1 : ∀ w', Below w16.heap.size w16 w' → HRe w' All d [.int .i64 cox1, .string wyx1, .int .i64 kkx1, .int .i64 nnx1, .string sx1, .slice pax1 nax1 qax1, .slice pbx1 nbx1 qbx1] m1 := fun w' hw => X1 w' (hb.trans (hw.mono hb.size))
      clear hb
      clear K15 K16 G15 U1 c0 e0 c1 e1 c2 e2 c3 e3 c4 e4 c5 e5 c6 e6
      go_wp2_with fail
      go_ret
      exact ⟨rfl, B16.out⟩
end Go.Proofs.Ytcjipfdancbkgaa
