/-
  The text of a problem, both sides, by contract; and the laws' reading of a problem.
-/
import Derived.Test.YthieikohcoajbaaDoorRefText
namespace Go.Proofs.YthieikohcoajbaaDoor
open Go.ChangeShapes Go.WideShapes Go.ChangeAt Go.RowKit
set_option linter.unusedVariables false

/-- A function's name with its module's. -/
def nameT (m s : ByteArray) (n : Int) : List UInt8 := m.data.toList ++ [58] ++ (s.data.toList ++ [47] ++ Lib.itoa n)

theorem specName_any (w : World) (m s : ByteArray) (n : Int) (hm : m.size ≤ 1048576) (hs : s.size ≤ 1048576) (hk : okI n) :
    Calls Tryd.prog 19 #[.string m, .string s, .int .i64 n] w fun e w' => e = .returned (.string (strOf (nameT m s n))) ∧ Below w.heap.size w w' := by
  obtain ⟨i0, i1⟩ := okI_bd hk
  have hil := itoa_len n i0 i1
  have hsz : (⟨(Lib.itoa n).toArray⟩ : ByteArray).size ≤ 21 := by simpa [ByteArray.size] using hil
  have hsz2 : (Lib.itoa n).toArray.size ≤ 21 := by simpa using hil
  clear hk
  go_enter Tryd.func19, Tryd.ntmps19
  go_wp2_with (go_at_call 35; go_must (refine (specDecText_any n _ i0 i1).mono ?_; rintro e w1 ⟨rfl, rfl⟩))
  go_ret
  exact ⟨ret_strOf (by simp [nameT, ByteArray.data_append]), Below.refl _ _⟩

theorem refT_len (s : ByteArray) (n : Int) (hs : s.size ≤ 1048576) (hk : okI n) : (strOf (refT ⟨s, n⟩)).size ≤ 1048600 := by
  obtain ⟨i0, i1⟩ := okI_bd hk
  have hil := itoa_len n i0 i1
  rw [strOf_size]
  simp only [refT, List.length_append, bsize]
  simp
  omega

theorem fullName_any (w : World) (m s : ByteArray) (n : Int) (hm : m.size ≤ 1048576) (hs : s.size ≤ 1048576) (hk : okI n) (hp : PowAt w) :
    Calls Tryd.prog 20 #[.string m, .agg #[.string s, .int .i64 n]] w fun e w' => e = .returned (.string (strOf (nameT m s n))) ∧ Below w.heap.size w w' := by
  have hl := refT_len s n hs hk
  have HK : Hid (okI n) := hk
  have HP : Hid (PowAt w) := hp
  clear hk hp
  obtain ⟨W1, hW1⟩ : ∃ W1, W1 = w.alloc (.cells #[.string s, .int .i64 n] 51) := ⟨_, rfl⟩
  have B1 : Hid (Below w.heap.size w W1) := by show Below _ _ _; rw [hW1]; exact (Below.refl _ _).alloc (Nat.le_refl _) _
  have HW1 : Hid (W1 = w.alloc (.cells #[.string s, .int .i64 n] 51)) := hW1
  clear hW1
  go_enter Tryd.func20, Tryd.ntmps20
  go_wp2_with (go_at_call 36; go_must (try rw [← HW1.out]; refine (refText_any _ ⟨s, n⟩ hs HK.out (powAt_below HP.out (by first | exact B1.out | exact Below.refl _ _))).mono ?_; rintro e w1 ⟨rfl, hb1⟩; have HB1 : Hid _ := hb1; clear hb1))
  go_ret
  exact ⟨ret_strOf (by simp [nameT, refT, strOf, ByteArray.data_append]), by first | exact HB1.out | exact B1.out.trans (HB1.out.mono B1.out.size)⟩

structure Pb where
  mod : ByteArray
  name : ByteArray
  arity : Int
  code : ByteArray
def probT (q : Pb) : List UInt8 := nameT q.mod q.name q.arity ++ [32] ++ q.code.data.toList
def wtPb (q : Pb) : Nat := q.mod.size + q.name.size + q.code.size

theorem nameT_len (m s : ByteArray) (n : Int) (hm : m.size ≤ 1048576) (hs : s.size ≤ 1048576) (hk : okI n) : (strOf (nameT m s n)).size ≤ 2097200 := by
  obtain ⟨i0, i1⟩ := okI_bd hk
  have hil := itoa_len n i0 i1
  rw [strOf_size]
  simp only [nameT, List.length_append, bsize]
  simp
  omega

theorem specProblemText_any (w : World) (q : Pb) (hw : wtPb q ≤ 1048576) (hk : okI q.arity) :
    Calls Tryd.prog 11 #[.agg #[.string q.mod, .string q.name, .int .i64 q.arity, .string q.code]] w fun e w' => e = .returned (.string (strOf (probT q))) ∧ Below w.heap.size w w' := by
  obtain ⟨m, s, n, c⟩ := q
  simp only [wtPb] at hw
  simp only at hk
  have hm : m.size ≤ 1048576 := by omega
  have hs : s.size ≤ 1048576 := by omega
  have hc : c.size ≤ 1048576 := by omega
  have hl := nameT_len m s n hm hs hk
  have HK : Hid (okI n) := hk
  clear hk
  obtain ⟨W1, hW1⟩ : ∃ W1, W1 = w.alloc (.cells #[.string m, .string s, .int .i64 n, .string c] 33) := ⟨_, rfl⟩
  have bA : Hid (Blk W1 w.heap.size #[.string m, .string s, .int .i64 n, .string c] 33) := by show Blk _ _ _ _; rw [hW1]; exact Blk.new
  have B1 : Hid (Below w.heap.size w W1) := by show Below _ _ _; rw [hW1]; exact (Below.refl _ _).alloc (Nat.le_refl _) _
  have HW1 : Hid (W1 = w.alloc (.cells #[.string m, .string s, .int .i64 n, .string c] 33)) := hW1
  have hlw := bA.out.lt
  have qx0 : ∀ mw : Wd (fun w' => SameOn All W1 w' ∧ Below w.heap.size w w'), mw.val.cell? ⟨w.heap.size, 0, none⟩ = some (.string m) := fun mw => (World.cell?_of_block (mw.ok.1.2 w.heap.size trivial hlw)).trans (bA.out.cell 0 _ rfl)
  have qx1 : ∀ mw : Wd (fun w' => SameOn All W1 w' ∧ Below w.heap.size w w'), mw.val.cell? ⟨w.heap.size, 1, none⟩ = some (.string s) := fun mw => (World.cell?_of_block (mw.ok.1.2 w.heap.size trivial hlw)).trans (bA.out.cell 1 _ rfl)
  have qx2 : ∀ mw : Wd (fun w' => SameOn All W1 w' ∧ Below w.heap.size w w'), mw.val.cell? ⟨w.heap.size, 2, none⟩ = some (.int .i64 n) := fun mw => (World.cell?_of_block (mw.ok.1.2 w.heap.size trivial hlw)).trans (bA.out.cell 2 _ rfl)
  have qx3 : ∀ mw : Wd (fun w' => SameOn All W1 w' ∧ Below w.heap.size w w'), mw.val.cell? ⟨w.heap.size, 3, none⟩ = some (.string c) := fun mw => (World.cell?_of_block (mw.ok.1.2 w.heap.size trivial hlw)).trans (bA.out.cell 3 _ rfl)
  clear hW1
  go_enter Tryd.func11, Tryd.ntmps11
  go_wp2_with fail
  rw [← HW1.out]
  have hCne : Nonempty (Wd (fun w' => SameOn All W1 w' ∧ Below w.heap.size w w')) := ⟨⟨W1.drew, ⟨⟨Nat.le_refl _, fun _ _ _ => rfl⟩, B1.out.drew⟩⟩⟩
  refine wp_region_class (fun w' => SameOn All W1 w' ∧ Below w.heap.size w w') (by kernel_rfl) (by kernel_rfl) ⟨⟨Nat.le_refl _, fun _ _ _ => rfl⟩, B1.out.drew⟩ ?_
  repeat (go_big_quiet_step (first | (rename_i mm; go_at_call 19; refine (specName_any _ m s n hm hs HK.out).mono ?_; rintro e w1 ⟨rfl, hb1⟩; exact ⟨rfl, ⟨⟨w1, ⟨(SameOn.trans mm.ok.1 (SameOn.of_below hb1)), mm.ok.2.trans (hb1.mono mm.ok.2.size)⟩⟩, rfl⟩⟩)))
  refine wpQuiet_nil ?_
  rintro _ ⟨mq, rfl⟩
  have HB4 : Hid (Below w.heap.size w mq.val) := mq.ok.2
  generalize mq.val = w4 at HB4 ⊢
  go_wp2_with fail
  go_ret
  exact ⟨ret_strOf (by simp [probT, strOf, ByteArray.data_append]), HB4.out⟩

theorem implProblemText_any (w : World) (q : Pb) (hw : wtPb q ≤ 1048576) (hk : okI q.arity) (hp : PowAt w) :
    Calls Tryd.prog 13 #[.agg #[.string q.mod, .string q.name, .int .i64 q.arity, .string q.code]] w fun e w' => e = .returned (.string (strOf (probT q))) ∧ Below w.heap.size w w' := by
  obtain ⟨m, s, n, c⟩ := q
  simp only [wtPb] at hw
  simp only at hk
  have hm : m.size ≤ 1048576 := by omega
  have hs : s.size ≤ 1048576 := by omega
  have hc : c.size ≤ 1048576 := by omega
  have hl := nameT_len m s n hm hs hk
  have HK : Hid (okI n) := hk
  have HP : Hid (PowAt w) := hp
  clear hk hp
  obtain ⟨W1, hW1⟩ : ∃ W1, W1 = w.alloc (.cells #[.string m, .string s, .int .i64 n, .string c] 33) := ⟨_, rfl⟩
  have bA : Hid (Blk W1 w.heap.size #[.string m, .string s, .int .i64 n, .string c] 33) := by show Blk _ _ _ _; rw [hW1]; exact Blk.new
  have B1 : Hid (Below w.heap.size w W1) := by show Below _ _ _; rw [hW1]; exact (Below.refl _ _).alloc (Nat.le_refl _) _
  have HW1 : Hid (W1 = w.alloc (.cells #[.string m, .string s, .int .i64 n, .string c] 33)) := hW1
  have hlw := bA.out.lt
  have qx0 : ∀ mw : Wd (fun w' => SameOn All W1 w' ∧ Below w.heap.size w w'), mw.val.cell? ⟨w.heap.size, 0, none⟩ = some (.string m) := fun mw => (World.cell?_of_block (mw.ok.1.2 w.heap.size trivial hlw)).trans (bA.out.cell 0 _ rfl)
  have qx1 : ∀ mw : Wd (fun w' => SameOn All W1 w' ∧ Below w.heap.size w w'), mw.val.cell? ⟨w.heap.size, 1, none⟩ = some (.string s) := fun mw => (World.cell?_of_block (mw.ok.1.2 w.heap.size trivial hlw)).trans (bA.out.cell 1 _ rfl)
  have qx2 : ∀ mw : Wd (fun w' => SameOn All W1 w' ∧ Below w.heap.size w w'), mw.val.cell? ⟨w.heap.size, 2, none⟩ = some (.int .i64 n) := fun mw => (World.cell?_of_block (mw.ok.1.2 w.heap.size trivial hlw)).trans (bA.out.cell 2 _ rfl)
  have qx3 : ∀ mw : Wd (fun w' => SameOn All W1 w' ∧ Below w.heap.size w w'), mw.val.cell? ⟨w.heap.size, 3, none⟩ = some (.string c) := fun mw => (World.cell?_of_block (mw.ok.1.2 w.heap.size trivial hlw)).trans (bA.out.cell 3 _ rfl)
  clear hW1
  go_enter Tryd.func13, Tryd.ntmps13
  go_wp2_with fail
  rw [← HW1.out]
  have hCne : Nonempty (Wd (fun w' => SameOn All W1 w' ∧ Below w.heap.size w w')) := ⟨⟨W1.drew, ⟨⟨Nat.le_refl _, fun _ _ _ => rfl⟩, B1.out.drew⟩⟩⟩
  refine wp_region_class (fun w' => SameOn All W1 w' ∧ Below w.heap.size w w') (by kernel_rfl) (by kernel_rfl) ⟨⟨Nat.le_refl _, fun _ _ _ => rfl⟩, B1.out.drew⟩ ?_
  repeat (go_big_quiet_step (first | (rename_i mm; go_at_call 20; refine (fullName_any _ m s n hm hs HK.out (powAt_below HP.out mm.ok.2)).mono ?_; rintro e w1 ⟨rfl, hb1⟩; exact ⟨rfl, ⟨⟨w1, ⟨(SameOn.trans mm.ok.1 (SameOn.of_below hb1)), mm.ok.2.trans (hb1.mono mm.ok.2.size)⟩⟩, rfl⟩⟩)))
  refine wpQuiet_nil ?_
  rintro _ ⟨mq, rfl⟩
  have HB4 : Hid (Below w.heap.size w mq.val) := mq.ok.2
  generalize mq.val = w4 at HB4 ⊢
  go_wp2_with fail
  go_ret
  exact ⟨ret_strOf (by simp [probT, strOf, ByteArray.data_append]), HB4.out⟩

end Go.Proofs.YthieikohcoajbaaDoor
