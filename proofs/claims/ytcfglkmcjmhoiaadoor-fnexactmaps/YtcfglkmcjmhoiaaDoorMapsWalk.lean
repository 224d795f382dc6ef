/-
  The law of Maps, walked: at every command and every name.
-/
import Derived.Test.YtcfglkmcjmhoiaaDoorMapsSpec
import Derived.Test.YtcfglkmcjmhoiaaDoorMapsImpl
import Derived.Test.YtcfglkmcjmhoiaaDoorBoxes
namespace Go.Proofs.YtcfglkmcjmhoiaaDoor
open Go.ChangeShapes Go.WideShapes Go.ChangeAt Go.RowKit
set_option linter.unusedVariables false

set_option maxHeartbeats 4000000 in
theorem fnExactMaps_walk (w : World) (q : Cm) (b : ByteArray) (h0 : okCm q) (h1 : okS b) (hp : PowAt w) :
    Calls Tryd.prog 3 #[.agg (cmCells q), .string b] w fun e w' => e = .returned (.bool true) ∧ Below w.heap.size w w' := by
  have SZ : Hid (∀ w, Calls Tryd.prog 4 #[.agg (cmCells q), .int .i64 1048576] w fun e w' => e = .returned (.int .i64 (leftOf 1048576 (wtCm q))) ∧ Below w.heap.size w w') := fun w => szCommand_any w q h0
  have TO : Hid (∀ w, Calls Tryd.prog 6 #[.agg (cmCells q)] w fun e w' => e = .returned (.agg (cmCells q)) ∧ Below w.heap.size w w') := fun w => toCommand_any w q
  have SP : Hid (∀ w, wtCm q ≤ 1048576 → Calls Tryd.prog 5 #[.agg (cmCells q), .string b] w fun e w' => e = .returned (.string (mapsT q b)) ∧ Below w.heap.size w w') := fun w hw => specMaps_any w q b h0 hw
  have IP : Hid (∀ w, wtCm q ≤ 1048576 → PowAt w → Calls Tryd.prog 7 #[.agg (cmCells q), .string b] w fun e w' => e = .returned (.string (mapsT q b)) ∧ Below w.heap.size w w') := fun w hw hp => implMaps_any w q b h0 hw hp
  have HP : Hid (PowAt w) := hp
  simp only [okS, maxLen] at h1
  clear h0 hp
  have HWT : Hid (∃ x, wtCm q = x) := ⟨_, rfl⟩
  have HTX : Hid (∃ x, mapsT q b = x) := ⟨_, rfl⟩
  obtain ⟨x, hx⟩ := HWT.out
  obtain ⟨tx, htx⟩ := HTX.out
  rw [hx] at SZ SP IP
  rw [htx] at SP IP
  obtain ⟨k, ⟨m, s, n, c⟩, fr, ct, od, nw⟩ := q
  simp only [cmCells] at *
  clear hx htx HWT HTX
  obtain ⟨W1, hW1⟩ : ∃ W1, W1 = w.alloc (.cells #[.int .i64 k, .string m, .string s, .int .i64 n, .int .i64 c, .int .i64 fr, .int .i64 ct, .string od, .string nw] 25) := ⟨_, rfl⟩
  have bA : Hid (Blk W1 w.heap.size #[.int .i64 k, .string m, .string s, .int .i64 n, .int .i64 c, .int .i64 fr, .int .i64 ct, .string od, .string nw] 25) := by show Blk _ _ _ _; rw [hW1]; exact Blk.new
  have B1 : Hid (Below w.heap.size w W1) := by show Below _ _ _; rw [hW1]; exact (Below.refl _ _).alloc (Nat.le_refl _) _
  have HW1 : Hid (W1 = w.alloc (.cells #[.int .i64 k, .string m, .string s, .int .i64 n, .int .i64 c, .int .i64 fr, .int .i64 ct, .string od, .string nw] 25)) := hW1
  clear hW1
  by_cases hb0 : 1048576 < b.size
  · go_enter Tryd.func3, Tryd.ntmps3
    go_wp2_with fail
    rw [← HW1.out]
    go_ret
    exact ⟨rfl, B1.out⟩
  by_cases hw : 1048576 < x
  · have hr : leftOf 1048576 x = -1 := leftOf_lt hw
    go_enter Tryd.func3, Tryd.ntmps3
    go_wp2_with fail
    rw [← HW1.out]
    refine (SZ.out _).mono ?_
    rintro e w2 ⟨rfl, hb⟩
    rw [hr]
    have B2 : Hid (Below w.heap.size w w2) := B1.out.trans (hb.mono B1.out.size)
    clear hb
    go_wp2_with fail
    go_ret
    exact ⟨rfl, B2.out⟩
  · have hr : leftOf 1048576 x = ((1048576 - x : Nat) : Int) := leftOf_ge (by omega)
    go_enter Tryd.func3, Tryd.ntmps3
    go_wp2_with fail
    rw [← HW1.out]
    refine (SZ.out _).mono ?_
    rintro e w2 ⟨rfl, hb⟩
    rw [hr]
    have B2 : Hid (Below w.heap.size w w2) := B1.out.trans (hb.mono B1.out.size)
    have bA2 : Hid (Blk w2 w.heap.size #[.int .i64 k, .string m, .string s, .int .i64 n, .int .i64 c, .int .i64 fr, .int .i64 ct, .string od, .string nw] 25) := bA.out.next hb
    clear hb
    have c0 := bA2.out.cell 0 _ rfl
    have c1 := bA2.out.cell 1 _ rfl
    have c2 := bA2.out.cell 2 _ rfl
    have c3 := bA2.out.cell 3 _ rfl
    have c4 := bA2.out.cell 4 _ rfl
    have c5 := bA2.out.cell 5 _ rfl
    have c6 := bA2.out.cell 6 _ rfl
    have c7 := bA2.out.cell 7 _ rfl
    have c8 := bA2.out.cell 8 _ rfl
    go_wp2_with fail
    clear c0 c1 c2 c3 c4 c5 c6 c7 c8
    refine (TO.out _).mono ?_
    rintro e w3 ⟨rfl, hb⟩
    have B3 : Hid (Below w.heap.size w w3) := B2.out.trans (hb.mono B2.out.size)
    have bA3 : Hid (Blk w3 w.heap.size #[.int .i64 k, .string m, .string s, .int .i64 n, .int .i64 c, .int .i64 fr, .int .i64 ct, .string od, .string nw] 25) := bA2.out.next hb
    clear hb
    go_wp2_with fail
    refine (SP.out _ (by omega)).mono ?_
    rintro e w4 ⟨rfl, hb⟩
    have B4 : Hid (Below w.heap.size w w4) := B3.out.trans (hb.mono B3.out.size)
    have bA4 : Hid (Blk w4 w.heap.size #[.int .i64 k, .string m, .string s, .int .i64 n, .int .i64 c, .int .i64 fr, .int .i64 ct, .string od, .string nw] 25) := bA3.out.next hb
    clear hb
    have c0 := bA4.out.cell 0 _ rfl
    have c1 := bA4.out.cell 1 _ rfl
    have c2 := bA4.out.cell 2 _ rfl
    have c3 := bA4.out.cell 3 _ rfl
    have c4 := bA4.out.cell 4 _ rfl
    have c5 := bA4.out.cell 5 _ rfl
    have c6 := bA4.out.cell 6 _ rfl
    have c7 := bA4.out.cell 7 _ rfl
    have c8 := bA4.out.cell 8 _ rfl
    go_wp2_with fail
    clear c0 c1 c2 c3 c4 c5 c6 c7 c8
    refine (TO.out _).mono ?_
    rintro e w5 ⟨rfl, hb⟩
    have B5 : Hid (Below w.heap.size w w5) := B4.out.trans (hb.mono B4.out.size)
    have bA5 : Hid (Blk w5 w.heap.size #[.int .i64 k, .string m, .string s, .int .i64 n, .int .i64 c, .int .i64 fr, .int .i64 ct, .string od, .string nw] 25) := bA4.out.next hb
    clear hb
    go_wp2_with fail
    refine (IP.out _ (by omega) (powAt_below HP.out B5.out)).mono ?_
    rintro e w6 ⟨rfl, hb⟩
    have B6 : Hid (Below w.heap.size w w6) := B5.out.trans (hb.mono B5.out.size)
    have bA6 : Hid (Blk w6 w.heap.size #[.int .i64 k, .string m, .string s, .int .i64 n, .int .i64 c, .int .i64 fr, .int .i64 ct, .string od, .string nw] 25) := bA5.out.next hb
    clear hb
    go_wp2_with fail
    go_ret
    exact ⟨rfl, B6.out⟩
end Go.Proofs.YtcfglkmcjmhoiaaDoor
