/-
  The law of Show, walked: at every module.
-/
import Derived.Test.YtkomkhiinfdfmaaGreatDoorShowImplE
import Derived.Test.YtkomkhiinfdfmaaGreatDoorEq
import Derived.Test.YtkomkhiinfdfmaaGreatDoorCopy
import Derived.Test.YtkomkhiinfdfmaaGreatDoorBoxes
namespace Go.Proofs.YtkomkhiinfdfmaaGreatDoor
open Go.ChangeShapes Go.WideShapes Go.ChangeAt Go.RowKit
set_option linter.unusedVariables false

set_option maxHeartbeats 8000000 in
theorem fnExactShow_walk (w : World) (d : Nat) (cs0 : List Value) (m0 : Md) (h0 : HMd w (fun g => g < w.heap.size) d cs0 m0) (hk : Tabs w) (hp : PowAt w) :
    Calls Tryz.prog 3 #[.agg cs0.toArray] w fun e w' => e = .returned (.bool true) ∧ Below w.heap.size w w' := by
  obtain ⟨s0, pa0, na0, qa0, pb0, nb0, qb0, hsh⟩ := h0.shape
  subst hsh
  have Z0 : ∀ w', Below w.heap.size w w' → HMd w' (fun g => g < w.heap.size) d [.string s0, .slice pa0 na0 qa0, .slice pb0 nb0 qb0] m0 := fun w' hw => h0.mono (SameOn.of_below hw) (fun _ h => h)
  have H0 : ∀ w', Below w.heap.size w w' → HMd w' All d [.string s0, .slice pa0 na0 qa0, .slice pb0 nb0 qb0] m0 := fun w' hw => h0.mono (SameOn.of_below hw) (fun _ _ => trivial)
  clear h0
  have HTAB : Hid (Tabs w) := hk
  have HPW : Hid (PowAt w) := hp
  clear hk hp
  obtain ⟨W2, hW2⟩ : ∃ W2, W2 = (w.alloc (.cells #[.string s0, .slice pa0 na0 qa0, .slice pb0 nb0 qb0] 25)) := ⟨_, rfl⟩
  have A0_2 : Hid (Blk W2 w.heap.size #[.string s0, .slice pa0 na0 qa0, .slice pb0 nb0 qb0] 25) := by
    show Blk _ _ _ _
    rw [hW2]
    have := Blk.new (w := w) (cs := #[.string s0, .slice pa0 na0 qa0, .slice pb0 nb0 qb0]) (t := 25)
    exact this
  have B2 : Hid (Below w.heap.size w W2) := by
    show Below _ _ _
    rw [hW2]; exact ((Below.refl _ _).alloc (Nat.le_refl _) _)
  have HW2 : Hid (W2 = (w.alloc (.cells #[.string s0, .slice pa0 na0 qa0, .slice pb0 nb0 qb0] 25))) := hW2
  clear hW2
  generalize hx0 : wtMd d m0 = x0 at *
  have HX0 : Hid (wtMd d m0 = x0) := hx0
  clear hx0
  by_cases t0 : 1048576 < x0
  · have hr0 : leftOf (1048576) x0 = -1 := leftOf_lt t0
    go_enter Tryz.func3, Tryz.ntmps3
    go_wp2_with fail
    rw [← HW2.out]
    refine ((szModule_all (N := w.heap.size) d).at m0 _ (1048576) (by omega) ⟨_, rfl, Z0 _ B2.out⟩ (by omega)).mono ?_
    rintro e w3 ⟨rfl, hb⟩
    rw [HX0.out, hr0]
    have B3 : Hid (Below w.heap.size w w3) := B2.out.trans (hb.mono B2.out.size)
    have A0_3 : Hid (Blk w3 w.heap.size #[.string s0, .slice pa0 na0 qa0, .slice pb0 nb0 qb0] 25) := A0_2.out.next hb
    clear hb
    go_wp2_with fail
    go_ret
    exact ⟨rfl, B3.out⟩
  · have hr0 : leftOf (1048576) x0 = ((1048576 - x0 : Nat) : Int) := leftOf_ge (by omega)
    have HW0 : Hid (wtMd d m0 ≤ 1048576) := by
      show _ ≤ _
      rw [HX0.out]; omega
    go_enter Tryz.func3, Tryz.ntmps3
    go_wp2_with fail
    rw [← HW2.out]
    refine ((szModule_all (N := w.heap.size) d).at m0 _ (1048576) (by omega) ⟨_, rfl, Z0 _ B2.out⟩ (by omega)).mono ?_
    rintro e w3 ⟨rfl, hb⟩
    rw [HX0.out, hr0]
    have B3 : Hid (Below w.heap.size w w3) := B2.out.trans (hb.mono B2.out.size)
    have A0_3 : Hid (Blk w3 w.heap.size #[.string s0, .slice pa0 na0 qa0, .slice pb0 nb0 qb0] 25) := A0_2.out.next hb
    clear hb
    clear hr0
    have c00 := A0_3.out.cell 0 _ rfl
    have c01 := A0_3.out.cell 1 _ rfl
    have c02 := A0_3.out.cell 2 _ rfl
    go_wp2_with fail
    refine (toModule_all d _ _ m0 ⟨_, rfl, H0 _ (by exact B3.out)⟩ HW0.out).mono ?_
    rintro e w4 ⟨u, rfl, ⟨cs, rfl, hx⟩, hb⟩
    obtain ⟨su0, pau0, nau0, qau0, pbu0, nbu0, qbu0, hsh⟩ := hx.shape
    subst hsh
    have U0 : ∀ w', Below w4.heap.size w4 w' → HMd w' All d [.string su0, .slice pau0 nau0 qau0, .slice pbu0 nbu0 qbu0] m0 := fun w' hw => hx.mono (SameOn.of_below hw) (fun _ _ => trivial)
    have K4 : Hid (Below w3.heap.size w3 w4) := ⟨hb.os, hb.tape, hb.output, hb.size, hb.block⟩
    have G4 : Hid (Below _ _ w4) := hb
    clear hx
    go_wp2_with fail
    refine (specShow_any d _ _ m0 (U0 _ (Below.refl _ _)) HW0.out).mono ?_
    rintro e w5 ⟨rfl, hb⟩
    have K5 : Hid (Below w3.heap.size w3 w5) := K4.out.trans (hb.mono K4.out.size)
    have B5 : Hid (Below w.heap.size w w5) := B3.out.trans (K5.out.mono B3.out.size)
    have A0_5 : Hid (Blk w5 w.heap.size #[.string s0, .slice pa0 na0 qa0, .slice pb0 nb0 qb0] 25) := A0_3.out.next K5.out
    clear hb K4 K5 G4 U0 c00 c01 c02
    have c0 := A0_5.out.cell 0 _ rfl
    have c1 := A0_5.out.cell 1 _ rfl
    have c2 := A0_5.out.cell 2 _ rfl
    go_wp2_with fail
    refine (toModule_all d _ _ m0 ⟨_, rfl, H0 _ B5.out⟩ HW0.out).mono ?_
    rintro e w6 ⟨u, rfl, ⟨cs, rfl, hx⟩, hb⟩
    obtain ⟨sx0, pax0, nax0, qax0, pbx0, nbx0, qbx0, hsh⟩ := hx.shape
    subst hsh
    have X0 : ∀ w', Below w6.heap.size w6 w' → HMd w' All d [.string sx0, .slice pax0 nax0 qax0, .slice pbx0 nbx0 qbx0] m0 := fun w' hw => hx.mono (SameOn.of_below hw) (fun _ _ => trivial)
    have B6 : Hid (Below w.heap.size w w6) := B5.out.trans (hb.mono B5.out.size)
    have A0_6 : Hid (Blk w6 w.heap.size #[.string s0, .slice pa0 na0 qa0, .slice pb0 nb0 qb0] 25) := A0_5.out.next hb
    clear hb hx
    obtain ⟨w7, hW⟩ : ∃ W, W = (w6.alloc (.cells #[.string sx0, .slice pax0 nax0 qax0, .slice pbx0 nbx0 qbx0] 31)) := ⟨_, rfl⟩
    have hb : Below w6.heap.size w6 w7 := by rw [hW]; exact (Below.refl _ _).alloc (Nat.le_refl _) _
    have D0_7 : Hid (Blk w7 w6.heap.size #[.string sx0, .slice pax0 nax0 qax0, .slice pbx0 nbx0 qbx0] 31) := by
      show Blk _ _ _ _
      rw [hW]; exact Blk.new
    have B7 : Hid (Below w.heap.size w w7) := B6.out.trans (hb.mono B6.out.size)
    have A0_7 : Hid (Blk w7 w.heap.size #[.string s0, .slice pa0 na0 qa0, .slice pb0 nb0 qb0] 25) := A0_6.out.next hb
    replace X0 : ∀ w', Below w7.heap.size w7 w' → HMd w' All d [.string sx0, .slice pax0 nax0 qax0, .slice pbx0 nbx0 qbx0] m0 := fun w' hw => X0 w' (hb.trans (hw.mono hb.size))
    have e0 := D0_7.out.cell 0 _ rfl
    have e1 := D0_7.out.cell 1 _ rfl
    have e2 := D0_7.out.cell 2 _ rfl
    rw [hW] at e0 e1 e2
    have HW7_ : Hid (w7 = (w6.alloc (.cells #[.string sx0, .slice pax0 nax0 qax0, .slice pbx0 nbx0 qbx0] 31))) := hW
    clear hb hW
    go_wp2_with fail
    rw [← HW7_.out]
    clear e0 e1 e2
    refine (implShow_any d _ _ m0 (HTAB.out.below B7.out) (powAt_below HPW.out B7.out) (X0 _ (Below.refl _ _)) HW0.out).mono ?_
    rintro e w8 ⟨rfl, hb⟩
    have B8 : Hid (Below w.heap.size w w8) := B7.out.trans (hb.mono B7.out.size)
    have A0_8 : Hid (Blk w8 w.heap.size #[.string s0, .slice pa0 na0 qa0, .slice pb0 nb0 qb0] 25) := A0_7.out.next hb
    have D0_8 : Hid (Blk w8 w6.heap.size #[.string sx0, .slice pax0 nax0 qax0, .slice pbx0 nbx0 qbx0] 31) := D0_7.out.next hb
    replace X0 : ∀ w', Below w8.heap.size w8 w' → HMd w' All d [.string sx0, .slice pax0 nax0 qax0, .slice pbx0 nbx0 qbx0] m0 := fun w' hw => X0 w' (hb.trans (hw.mono hb.size))
    clear hb
    have c0 := A0_8.out.cell 0 _ rfl
    have e0 := D0_8.out.cell 0 _ rfl
    have c1 := A0_8.out.cell 1 _ rfl
    have e1 := D0_8.out.cell 1 _ rfl
    have c2 := A0_8.out.cell 2 _ rfl
    have e2 := D0_8.out.cell 2 _ rfl
    go_wp2_with fail
    go_region_held3 (fun w' => w'.cell? ⟨w6.heap.size, 0, none⟩ = some (.string sx0) ∧ w'.cell? ⟨w6.heap.size, 1, none⟩ = some (.slice pax0 nax0 qax0) ∧ w'.cell? ⟨w6.heap.size, 2, none⟩ = some (.slice pbx0 nbx0 qbx0) ∧ w'.cell? ⟨w.heap.size, 0, none⟩ = some (.string s0) ∧ w'.cell? ⟨w.heap.size, 1, none⟩ = some (.slice pa0 na0 qa0) ∧ w'.cell? ⟨w.heap.size, 2, none⟩ = some (.slice pb0 nb0 qb0))
      (first | go_keep | (go_split_ands; refine ⟨?_, ?_, ?_, ?_, ?_, ?_⟩ <;> exact cell_next hb (by assumption)))
      (first
        | (go_at_call_of 7 (Value.string s0); refine (toModule_all d _ _ m0 ⟨_, rfl, H0 _ (by exact B8.out.drew)⟩ HW0.out).mono ?_; rintro e w9 ⟨u, rfl, ⟨cs, rfl, hx⟩, hb⟩; obtain ⟨sv00, pav00, nav00, qav00, pbv00, nbv00, qbv00, hsh⟩ := hx.shape; subst hsh; have U0 : ∀ w', Below w9.heap.size w9 w' → HMd w' All d [.string sv00, .slice pav00 nav00 qav00, .slice pbv00 nbv00 qbv00] m0 := fun w' hw => hx.mono (SameOn.of_below hw) (fun _ _ => trivial); have K9 : Hid (Below w8.heap.size w8 w9) := ⟨hb.os, hb.tape, hb.output, hb.size, hb.block⟩; have G9 : Hid (Below _ _ w9) := hb; clear hx)
        | (go_at_call 9; refine (eqModule_all d _ _ _ m0 ⟨_, rfl, X0 _ K9.out⟩ ⟨_, rfl, U0 _ (Below.refl _ _)⟩).mono ?_; rintro e w10 ⟨rfl, hb⟩; have K10 : Hid (Below w8.heap.size w8 w10) := K9.out.trans (hb.mono K9.out.size)))
    go_split_ands
    clear hb
    have hb := K10.out
    have B10 : Hid (Below w.heap.size w w10) := B8.out.trans (hb.mono B8.out.size)
    have A0_10 : Hid (Blk w10 w.heap.size #[.string s0, .slice pa0 na0 qa0, .slice pb0 nb0 qb0] 25) := A0_8.out.next hb
    have D0_10 : Hid (Blk w10 w6.heap.size #[.string sx0, .slice pax0 nax0 qax0, .slice pbx0 nbx0 qbx0] 31) := D0_8.out.next hb
    replace X0 : ∀ w', Below w10.heap.size w10 w' → HMd w' All d [.string sx0, .slice pax0 nax0 qax0, .slice pbx0 nbx0 qbx0] m0 := fun w' hw => X0 w' (hb.trans (hw.mono hb.size))
    clear hb
    clear K9 K10 G9 U0 c0 e0 c1 e1 c2 e2
    go_wp2_with fail
    go_ret
    exact ⟨rfl, B10.out⟩
end Go.Proofs.YtkomkhiinfdfmaaGreatDoor
