/-
  The law of ResultText, walked: at every result.
-/
import Derived.Test.YthcdppdmiicelaaDoorResTextI
import Derived.Test.YthcdppdmiicelaaDoorResSz
import Derived.Test.YthcdppdmiicelaaDoorResEq
import Derived.Test.YthcdppdmiicelaaDoorResTo
namespace Go.Proofs.YthcdppdmiicelaaDoor
open Go.ChangeShapes Go.WideShapes Go.ChangeAt Go.RowKit
set_option linter.unusedVariables false

set_option maxHeartbeats 8000000 in
theorem fnExactResultText_walk (w : World) (d : Nat) (cs0 : List Value) (m0 : Re) (h0 : HRe w (fun g => g < w.heap.size) d cs0 m0) (hp : PowAt w) :
    Calls Tryd.prog 5 #[.agg cs0.toArray] w fun e w' => e = .returned (.bool true) ∧ Below w.heap.size w w' := by
  obtain ⟨co0, wy0, kk0, nn0, s0, pa0, na0, qa0, pb0, nb0, qb0, hsh⟩ := h0.shape
  subst hsh
  have Z0 : ∀ w', Below w.heap.size w w' → HRe w' (fun g => g < w.heap.size) d [.int .i64 co0, .string wy0, .int .i64 kk0, .int .i64 nn0, .string s0, .slice pa0 na0 qa0, .slice pb0 nb0 qb0] m0 := fun w' hw => h0.mono (SameOn.of_below hw) (fun _ h => h)
  have H0 : ∀ w', Below w.heap.size w w' → HRe w' All d [.int .i64 co0, .string wy0, .int .i64 kk0, .int .i64 nn0, .string s0, .slice pa0 na0 qa0, .slice pb0 nb0 qb0] m0 := fun w' hw => h0.mono (SameOn.of_below hw) (fun _ _ => trivial)
  clear h0
  have HPW : Hid (PowAt w) := hp
  clear hp
  obtain ⟨W2, hW2⟩ : ∃ W2, W2 = (w.alloc (.cells #[.int .i64 co0, .string wy0, .int .i64 kk0, .int .i64 nn0, .string s0, .slice pa0 na0 qa0, .slice pb0 nb0 qb0] 35)) := ⟨_, rfl⟩
  have A0_2 : Hid (Blk W2 w.heap.size #[.int .i64 co0, .string wy0, .int .i64 kk0, .int .i64 nn0, .string s0, .slice pa0 na0 qa0, .slice pb0 nb0 qb0] 35) := by
    show Blk _ _ _ _
    rw [hW2]
    have := Blk.new (w := w) (cs := #[.int .i64 co0, .string wy0, .int .i64 kk0, .int .i64 nn0, .string s0, .slice pa0 na0 qa0, .slice pb0 nb0 qb0]) (t := 35)
    exact this
  have B2 : Hid (Below w.heap.size w W2) := by
    show Below _ _ _
    rw [hW2]; exact ((Below.refl _ _).alloc (Nat.le_refl _) _)
  have HW2 : Hid (W2 = (w.alloc (.cells #[.int .i64 co0, .string wy0, .int .i64 kk0, .int .i64 nn0, .string s0, .slice pa0 na0 qa0, .slice pb0 nb0 qb0] 35))) := hW2
  clear hW2
  generalize hx0 : wtRe d m0 = x0 at *
  have HX0 : Hid (wtRe d m0 = x0) := hx0
  clear hx0
  by_cases t0 : 1048576 < x0
  · have hr0 : leftOf (1048576) x0 = -1 := leftOf_lt t0
    go_enter Tryd.func5, Tryd.ntmps5
    go_wp2_with fail
    rw [← HW2.out]
    refine ((szResult_all (N := w.heap.size) d).at m0 _ (1048576) (by omega) ⟨_, rfl, Z0 _ B2.out⟩ (by omega)).mono ?_
    rintro e w3 ⟨rfl, hb⟩
    rw [HX0.out, hr0]
    have B3 : Hid (Below w.heap.size w w3) := B2.out.trans (hb.mono B2.out.size)
    have A0_3 : Hid (Blk w3 w.heap.size #[.int .i64 co0, .string wy0, .int .i64 kk0, .int .i64 nn0, .string s0, .slice pa0 na0 qa0, .slice pb0 nb0 qb0] 35) := A0_2.out.next hb
    clear hb
    go_wp2_with fail
    go_ret
    exact ⟨rfl, B3.out⟩
  · have hr0 : leftOf (1048576) x0 = ((1048576 - x0 : Nat) : Int) := leftOf_ge (by omega)
    have HW0 : Hid (wtRe d m0 ≤ 1048576) := by
      show _ ≤ _
      rw [HX0.out]; omega
    go_enter Tryd.func5, Tryd.ntmps5
    go_wp2_with fail
    rw [← HW2.out]
    refine ((szResult_all (N := w.heap.size) d).at m0 _ (1048576) (by omega) ⟨_, rfl, Z0 _ B2.out⟩ (by omega)).mono ?_
    rintro e w3 ⟨rfl, hb⟩
    rw [HX0.out, hr0]
    have B3 : Hid (Below w.heap.size w w3) := B2.out.trans (hb.mono B2.out.size)
    have A0_3 : Hid (Blk w3 w.heap.size #[.int .i64 co0, .string wy0, .int .i64 kk0, .int .i64 nn0, .string s0, .slice pa0 na0 qa0, .slice pb0 nb0 qb0] 35) := A0_2.out.next hb
    clear hb
    clear hr0
    have c00 := A0_3.out.cell 0 _ rfl
    have c01 := A0_3.out.cell 1 _ rfl
    have c02 := A0_3.out.cell 2 _ rfl
    have c03 := A0_3.out.cell 3 _ rfl
    have c04 := A0_3.out.cell 4 _ rfl
    have c05 := A0_3.out.cell 5 _ rfl
    have c06 := A0_3.out.cell 6 _ rfl
    go_wp2_with fail
    refine (toResult_all d _ _ m0 ⟨_, rfl, H0 _ (by exact B3.out)⟩ HW0.out).mono ?_
    rintro e w4 ⟨u, rfl, ⟨cs, rfl, hx⟩, hb⟩
    obtain ⟨cou0, wyu0, kku0, nnu0, su0, pau0, nau0, qau0, pbu0, nbu0, qbu0, hsh⟩ := hx.shape
    subst hsh
    have U0 : ∀ w', Below w4.heap.size w4 w' → HRe w' All d [.int .i64 cou0, .string wyu0, .int .i64 kku0, .int .i64 nnu0, .string su0, .slice pau0 nau0 qau0, .slice pbu0 nbu0 qbu0] m0 := fun w' hw => hx.mono (SameOn.of_below hw) (fun _ _ => trivial)
    have K4 : Hid (Below w3.heap.size w3 w4) := ⟨hb.os, hb.tape, hb.output, hb.size, hb.block⟩
    have G4 : Hid (Below _ _ w4) := hb
    clear hx
    go_wp2_with fail
    refine (specResText_any d _ _ m0 (U0 _ (Below.refl _ _)) HW0.out).mono ?_
    rintro e w5 ⟨rfl, hb⟩
    have K5 : Hid (Below w3.heap.size w3 w5) := K4.out.trans (hb.mono K4.out.size)
    have B5 : Hid (Below w.heap.size w w5) := B3.out.trans (K5.out.mono B3.out.size)
    have A0_5 : Hid (Blk w5 w.heap.size #[.int .i64 co0, .string wy0, .int .i64 kk0, .int .i64 nn0, .string s0, .slice pa0 na0 qa0, .slice pb0 nb0 qb0] 35) := A0_3.out.next K5.out
    clear hb K4 K5 G4 U0 c00 c01 c02 c03 c04 c05 c06
    have c0 := A0_5.out.cell 0 _ rfl
    have c1 := A0_5.out.cell 1 _ rfl
    have c2 := A0_5.out.cell 2 _ rfl
    have c3 := A0_5.out.cell 3 _ rfl
    have c4 := A0_5.out.cell 4 _ rfl
    have c5 := A0_5.out.cell 5 _ rfl
    have c6 := A0_5.out.cell 6 _ rfl
    go_wp2_with fail
    refine (toResult_all d _ _ m0 ⟨_, rfl, H0 _ B5.out⟩ HW0.out).mono ?_
    rintro e w6 ⟨u, rfl, ⟨cs, rfl, hx⟩, hb⟩
    obtain ⟨cox0, wyx0, kkx0, nnx0, sx0, pax0, nax0, qax0, pbx0, nbx0, qbx0, hsh⟩ := hx.shape
    subst hsh
    have X0 : ∀ w', Below w6.heap.size w6 w' → HRe w' All d [.int .i64 cox0, .string wyx0, .int .i64 kkx0, .int .i64 nnx0, .string sx0, .slice pax0 nax0 qax0, .slice pbx0 nbx0 qbx0] m0 := fun w' hw => hx.mono (SameOn.of_below hw) (fun _ _ => trivial)
    have B6 : Hid (Below w.heap.size w w6) := B5.out.trans (hb.mono B5.out.size)
    have A0_6 : Hid (Blk w6 w.heap.size #[.int .i64 co0, .string wy0, .int .i64 kk0, .int .i64 nn0, .string s0, .slice pa0 na0 qa0, .slice pb0 nb0 qb0] 35) := A0_5.out.next hb
    clear hb hx
    obtain ⟨w7, hW⟩ : ∃ W, W = (w6.alloc (.cells #[.int .i64 cox0, .string wyx0, .int .i64 kkx0, .int .i64 nnx0, .string sx0, .slice pax0 nax0 qax0, .slice pbx0 nbx0 qbx0] 39)) := ⟨_, rfl⟩
    have hb : Below w6.heap.size w6 w7 := by rw [hW]; exact (Below.refl _ _).alloc (Nat.le_refl _) _
    have D0_7 : Hid (Blk w7 w6.heap.size #[.int .i64 cox0, .string wyx0, .int .i64 kkx0, .int .i64 nnx0, .string sx0, .slice pax0 nax0 qax0, .slice pbx0 nbx0 qbx0] 39) := by
      show Blk _ _ _ _
      rw [hW]; exact Blk.new
    have B7 : Hid (Below w.heap.size w w7) := B6.out.trans (hb.mono B6.out.size)
    have A0_7 : Hid (Blk w7 w.heap.size #[.int .i64 co0, .string wy0, .int .i64 kk0, .int .i64 nn0, .string s0, .slice pa0 na0 qa0, .slice pb0 nb0 qb0] 35) := A0_6.out.next hb
    replace X0 : ∀ w', Below w7.heap.size w7 w' → HRe w' All d [.int .i64 cox0, .string wyx0, .int .i64 kkx0, .int .i64 nnx0, .string sx0, .slice pax0 nax0 qax0, .slice pbx0 nbx0 qbx0] m0 := fun w' hw => X0 w' (hb.trans (hw.mono hb.size))
    have e0 := D0_7.out.cell 0 _ rfl
    have e1 := D0_7.out.cell 1 _ rfl
    have e2 := D0_7.out.cell 2 _ rfl
    have e3 := D0_7.out.cell 3 _ rfl
    have e4 := D0_7.out.cell 4 _ rfl
    have e5 := D0_7.out.cell 5 _ rfl
    have e6 := D0_7.out.cell 6 _ rfl
    rw [hW] at e0 e1 e2 e3 e4 e5 e6
    have HW7_ : Hid (w7 = (w6.alloc (.cells #[.int .i64 cox0, .string wyx0, .int .i64 kkx0, .int .i64 nnx0, .string sx0, .slice pax0 nax0 qax0, .slice pbx0 nbx0 qbx0] 39))) := hW
    clear hb hW
    go_wp2_with fail
    rw [← HW7_.out]
    clear e0 e1 e2 e3 e4 e5 e6
    refine (implResText_any d _ _ m0 (powAt_below HPW.out B7.out) (X0 _ (Below.refl _ _)) HW0.out).mono ?_
    rintro e w8 ⟨rfl, hb⟩
    have B8 : Hid (Below w.heap.size w w8) := B7.out.trans (hb.mono B7.out.size)
    have A0_8 : Hid (Blk w8 w.heap.size #[.int .i64 co0, .string wy0, .int .i64 kk0, .int .i64 nn0, .string s0, .slice pa0 na0 qa0, .slice pb0 nb0 qb0] 35) := A0_7.out.next hb
    have D0_8 : Hid (Blk w8 w6.heap.size #[.int .i64 cox0, .string wyx0, .int .i64 kkx0, .int .i64 nnx0, .string sx0, .slice pax0 nax0 qax0, .slice pbx0 nbx0 qbx0] 39) := D0_7.out.next hb
    replace X0 : ∀ w', Below w8.heap.size w8 w' → HRe w' All d [.int .i64 cox0, .string wyx0, .int .i64 kkx0, .int .i64 nnx0, .string sx0, .slice pax0 nax0 qax0, .slice pbx0 nbx0 qbx0] m0 := fun w' hw => X0 w' (hb.trans (hw.mono hb.size))
    clear hb
    have c0 := A0_8.out.cell 0 _ rfl
    have e0 := D0_8.out.cell 0 _ rfl
    have c1 := A0_8.out.cell 1 _ rfl
    have e1 := D0_8.out.cell 1 _ rfl
    have c2 := A0_8.out.cell 2 _ rfl
    have e2 := D0_8.out.cell 2 _ rfl
    have c3 := A0_8.out.cell 3 _ rfl
    have e3 := D0_8.out.cell 3 _ rfl
    have c4 := A0_8.out.cell 4 _ rfl
    have e4 := D0_8.out.cell 4 _ rfl
    have c5 := A0_8.out.cell 5 _ rfl
    have e5 := D0_8.out.cell 5 _ rfl
    have c6 := A0_8.out.cell 6 _ rfl
    have e6 := D0_8.out.cell 6 _ rfl
    go_wp2_with fail
    go_region_held3 (fun w' => w'.cell? ⟨w6.heap.size, 0, none⟩ = some (.int .i64 cox0) ∧ w'.cell? ⟨w6.heap.size, 1, none⟩ = some (.string wyx0) ∧ w'.cell? ⟨w6.heap.size, 2, none⟩ = some (.int .i64 kkx0) ∧ w'.cell? ⟨w6.heap.size, 3, none⟩ = some (.int .i64 nnx0) ∧ w'.cell? ⟨w6.heap.size, 4, none⟩ = some (.string sx0) ∧ w'.cell? ⟨w6.heap.size, 5, none⟩ = some (.slice pax0 nax0 qax0) ∧ w'.cell? ⟨w6.heap.size, 6, none⟩ = some (.slice pbx0 nbx0 qbx0) ∧ w'.cell? ⟨w.heap.size, 0, none⟩ = some (.int .i64 co0) ∧ w'.cell? ⟨w.heap.size, 1, none⟩ = some (.string wy0) ∧ w'.cell? ⟨w.heap.size, 2, none⟩ = some (.int .i64 kk0) ∧ w'.cell? ⟨w.heap.size, 3, none⟩ = some (.int .i64 nn0) ∧ w'.cell? ⟨w.heap.size, 4, none⟩ = some (.string s0) ∧ w'.cell? ⟨w.heap.size, 5, none⟩ = some (.slice pa0 na0 qa0) ∧ w'.cell? ⟨w.heap.size, 6, none⟩ = some (.slice pb0 nb0 qb0))
      (first | go_keep | (go_split_ands; refine ⟨?_, ?_, ?_, ?_, ?_, ?_, ?_, ?_, ?_, ?_, ?_, ?_, ?_, ?_⟩ <;> exact cell_next hb (by assumption)))
      (first
        | (go_at_call_of 15 (Value.slice pb0 nb0 qb0); refine (toResult_all d _ _ m0 ⟨_, rfl, H0 _ (by exact B8.out.drew)⟩ HW0.out).mono ?_; rintro e w9 ⟨u, rfl, ⟨cs, rfl, hx⟩, hb⟩; obtain ⟨cov00, wyv00, kkv00, nnv00, sv00, pav00, nav00, qav00, pbv00, nbv00, qbv00, hsh⟩ := hx.shape; subst hsh; have U0 : ∀ w', Below w9.heap.size w9 w' → HRe w' All d [.int .i64 cov00, .string wyv00, .int .i64 kkv00, .int .i64 nnv00, .string sv00, .slice pav00 nav00 qav00, .slice pbv00 nbv00 qbv00] m0 := fun w' hw => hx.mono (SameOn.of_below hw) (fun _ _ => trivial); have K9 : Hid (Below w8.heap.size w8 w9) := ⟨hb.os, hb.tape, hb.output, hb.size, hb.block⟩; have G9 : Hid (Below _ _ w9) := hb; clear hx)
        | (go_at_call 17; refine (eqResult_all d _ _ _ m0 ⟨_, rfl, X0 _ K9.out⟩ ⟨_, rfl, U0 _ (Below.refl _ _)⟩).mono ?_; rintro e w10 ⟨rfl, hb⟩; have K10 : Hid (Below w8.heap.size w8 w10) := K9.out.trans (hb.mono K9.out.size)))
    go_split_ands
    clear hb
    have hb := K10.out
    have B10 : Hid (Below w.heap.size w w10) := B8.out.trans (hb.mono B8.out.size)
    have A0_10 : Hid (Blk w10 w.heap.size #[.int .i64 co0, .string wy0, .int .i64 kk0, .int .i64 nn0, .string s0, .slice pa0 na0 qa0, .slice pb0 nb0 qb0] 35) := A0_8.out.next hb
    have D0_10 : Hid (Blk w10 w6.heap.size #[.int .i64 cox0, .string wyx0, .int .i64 kkx0, .int .i64 nnx0, .string sx0, .slice pax0 nax0 qax0, .slice pbx0 nbx0 qbx0] 39) := D0_8.out.next hb
    replace X0 : ∀ w', Below w10.heap.size w10 w' → HRe w' All d [.int .i64 cox0, .string wyx0, .int .i64 kkx0, .int .i64 nnx0, .string sx0, .slice pax0 nax0 qax0, .slice pbx0 nbx0 qbx0] m0 := fun w' hw => X0 w' (hb.trans (hw.mono hb.size))
    clear hb
    clear K9 K10 G9 U0 c0 e0 c1 e1 c2 e2 c3 e3 c4 e4 c5 e5 c6 e6
    go_wp2_with fail
    go_ret
    exact ⟨rfl, B10.out⟩
end Go.Proofs.YthcdppdmiicelaaDoor
