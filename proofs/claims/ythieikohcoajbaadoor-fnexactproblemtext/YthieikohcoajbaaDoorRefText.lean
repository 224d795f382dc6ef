/-
  The program's text of a name with its number.
-/
import Derived.Test.YthieikohcoajbaaDoorStrOf
import Derived.Test.YthieikohcoajbaaDoorImplDec
namespace Go.Proofs.YthieikohcoajbaaDoor
open Go.ChangeShapes Go.WideShapes Go.ChangeAt Go.RowKit
set_option linter.unusedVariables false

theorem refText_any (w : World) (r : Rf) (hs : r.name.size ≤ 1048576) (hk : okI r.arity) (hp : PowAt w) :
    Calls Tryd.prog 36 #[.agg #[.string r.name, .int .i64 r.arity]] w fun e w' => e = .returned (.string (strOf (refT r))) ∧ Below w.heap.size w w' := by
  obtain ⟨s, n⟩ := r
  simp only at *
  obtain ⟨i0, i1⟩ := okI_bd hk
  have hil := itoa_len n i0 i1
  have hsz : (⟨(Lib.itoa n).toArray⟩ : ByteArray).size ≤ 21 := by simpa [ByteArray.size] using hil
  have hsz2 : (Lib.itoa n).toArray.size ≤ 21 := by simpa using hil
  have HP : Hid (PowAt w) := hp
  clear hp hk
  obtain ⟨W1, hW1⟩ : ∃ W1, W1 = w.alloc (.cells #[.string s, .int .i64 n] 51) := ⟨_, rfl⟩
  have bA : Hid (Blk W1 w.heap.size #[.string s, .int .i64 n] 51) := by show Blk _ _ _ _; rw [hW1]; exact Blk.new
  have B1 : Hid (Below w.heap.size w W1) := by show Below _ _ _; rw [hW1]; exact (Below.refl _ _).alloc (Nat.le_refl _) _
  have HW1 : Hid (W1 = w.alloc (.cells #[.string s, .int .i64 n] 51)) := hW1
  have hlw := bA.out.lt
  have qx0 : ∀ mw : Wd (fun w' => SameOn All W1 w' ∧ Below w.heap.size w w'), mw.val.cell? ⟨w.heap.size, 0, none⟩ = some (.string s) := fun mw => (World.cell?_of_block (mw.ok.1.2 w.heap.size trivial hlw)).trans (bA.out.cell 0 _ rfl)
  have qx1 : ∀ mw : Wd (fun w' => SameOn All W1 w' ∧ Below w.heap.size w w'), mw.val.cell? ⟨w.heap.size, 1, none⟩ = some (.int .i64 n) := fun mw => (World.cell?_of_block (mw.ok.1.2 w.heap.size trivial hlw)).trans (bA.out.cell 1 _ rfl)
  clear hW1
  go_enter Tryd.func36, Tryd.ntmps36
  go_wp2_with fail
  rw [← HW1.out]
  have hCne : Nonempty (Wd (fun w' => SameOn All W1 w' ∧ Below w.heap.size w w')) := ⟨⟨W1.drew, ⟨⟨Nat.le_refl _, fun _ _ _ => rfl⟩, B1.out.drew⟩⟩⟩
  refine wp_region_class (fun w' => SameOn All W1 w' ∧ Below w.heap.size w w') (by kernel_rfl) (by kernel_rfl) ⟨⟨Nat.le_refl _, fun _ _ _ => rfl⟩, B1.out.drew⟩ ?_
  repeat (go_big_quiet_step (first | (rename_i m; go_at_call 56; refine (implDecText_any n _ i0 i1 (powAt_below HP.out m.ok.2)).mono ?_; rintro e w1 ⟨rfl, hb1⟩; exact ⟨rfl, ⟨⟨w1, ⟨(SameOn.trans m.ok.1 (SameOn.of_below hb1)), m.ok.2.trans (hb1.mono m.ok.2.size)⟩⟩, rfl⟩⟩)))
  refine wpQuiet_nil ?_
  rintro _ ⟨mq, rfl⟩
  have HB4 : Hid (Below w.heap.size w mq.val) := mq.ok.2
  generalize mq.val = w4 at HB4 ⊢
  go_wp2_with fail
  go_ret
  exact ⟨ret_strOf (by simp [refT, ByteArray.data_append]), HB4.out⟩

end Go.Proofs.YthieikohcoajbaaDoor
