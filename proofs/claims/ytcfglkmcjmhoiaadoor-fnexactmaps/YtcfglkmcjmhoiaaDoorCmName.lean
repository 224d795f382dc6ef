/-
  A function's name with its module's and its number, both sides, by contract.
-/
import Derived.Test.YtcfglkmcjmhoiaaDoorFrImp
import Derived.Test.YtcfglkmcjmhoiaaDoorGen
namespace Go.Proofs.YtcfglkmcjmhoiaaDoor
open Go.ChangeShapes Go.WideShapes Go.ChangeAt Go.RowKit
set_option linter.unusedVariables false

theorem itoa_len (n : Int) (h0 : -9223372036854775808 ≤ n) (h1 : n ≤ 9223372036854775807) : (Lib.itoa n).length ≤ 21 := by
  have := digits_le n h0 h1
  by_cases h : n < 0
  · rw [itoa_neg n h]; simp; omega
  · rw [itoa_pos n (by omega)]; omega

theorem okI_bd {n : Int} (h : okI n) : -9223372036854775808 ≤ n ∧ n ≤ 9223372036854775807 := by
  unfold okI at h
  simp only [Lit.wf, IntKind.min, IntKind.max, IntKind.signed, IntKind.bits, Bool.and_eq_true, decide_eq_true_eq, if_true] at h
  exact ⟨by omega, by omega⟩
theorem bsize (s : ByteArray) : s.data.toList.length = s.size := by rw [Array.length_toList]; rfl
def strOf (l : List UInt8) : ByteArray := ⟨l.toArray⟩
theorem strOf_size (l : List UInt8) : (strOf l).size = l.length := by simp [strOf, ByteArray.size]
theorem strOf_data (l : List UInt8) : (strOf l).data.toList = l := by simp [strOf]
theorem strOf_self (a : ByteArray) : strOf a.data.toList = a := by simp [strOf]
theorem ret_strOf {a : ByteArray} {l : List UInt8} (h : a.data.toList = l) : Ending.returned (.string a) = .returned (.string (strOf l)) := by rw [← h, strOf_self]
def refT (r : Rf) : List UInt8 := r.name.data.toList ++ [47] ++ Lib.itoa r.arity
theorem refText_any (w : World) (r : Rf) (hs : r.name.size ≤ 1048576) (hk : okI r.arity) (hp : PowAt w) :
    Calls Tryd.prog 14 #[.agg #[.string r.name, .int .i64 r.arity]] w fun e w' => e = .returned (.string (strOf (refT r))) ∧ Below w.heap.size w w' := by
  obtain ⟨s, n⟩ := r
  simp only at *
  obtain ⟨i0, i1⟩ := okI_bd hk
  have hil := itoa_len n i0 i1
  have hsz : (⟨(Lib.itoa n).toArray⟩ : ByteArray).size ≤ 21 := by simpa [ByteArray.size] using hil
  have hsz2 : (Lib.itoa n).toArray.size ≤ 21 := by simpa using hil
  have HP : Hid (PowAt w) := hp
  clear hp hk
  obtain ⟨W1, hW1⟩ : ∃ W1, W1 = w.alloc (.cells #[.string s, .int .i64 n] 37) := ⟨_, rfl⟩
  have bA : Hid (Blk W1 w.heap.size #[.string s, .int .i64 n] 37) := by show Blk _ _ _ _; rw [hW1]; exact Blk.new
  have B1 : Hid (Below w.heap.size w W1) := by show Below _ _ _; rw [hW1]; exact (Below.refl _ _).alloc (Nat.le_refl _) _
  have HW1 : Hid (W1 = w.alloc (.cells #[.string s, .int .i64 n] 37)) := hW1
  have hlw := bA.out.lt
  have qx0 : ∀ mw : Wd (fun w' => SameOn All W1 w' ∧ Below w.heap.size w w'), mw.val.cell? ⟨w.heap.size, 0, none⟩ = some (.string s) := fun mw => (World.cell?_of_block (mw.ok.1.2 w.heap.size trivial hlw)).trans (bA.out.cell 0 _ rfl)
  have qx1 : ∀ mw : Wd (fun w' => SameOn All W1 w' ∧ Below w.heap.size w w'), mw.val.cell? ⟨w.heap.size, 1, none⟩ = some (.int .i64 n) := fun mw => (World.cell?_of_block (mw.ok.1.2 w.heap.size trivial hlw)).trans (bA.out.cell 1 _ rfl)
  clear hW1
  go_enter Tryd.func14, Tryd.ntmps14
  go_wp2_with fail
  rw [← HW1.out]
  have hCne : Nonempty (Wd (fun w' => SameOn All W1 w' ∧ Below w.heap.size w w')) := ⟨⟨W1.drew, ⟨⟨Nat.le_refl _, fun _ _ _ => rfl⟩, B1.out.drew⟩⟩⟩
  refine wp_region_class (fun w' => SameOn All W1 w' ∧ Below w.heap.size w w') (by kernel_rfl) (by kernel_rfl) ⟨⟨Nat.le_refl _, fun _ _ _ => rfl⟩, B1.out.drew⟩ ?_
  repeat (go_big_quiet_step (first | (rename_i m; go_at_call 15; refine (implDecText_any n _ i0 i1 (powAt_below HP.out m.ok.2)).mono ?_; rintro e w1 ⟨rfl, hb1⟩; exact ⟨rfl, ⟨⟨w1, ⟨(SameOn.trans m.ok.1 (SameOn.of_below hb1)), m.ok.2.trans (hb1.mono m.ok.2.size)⟩⟩, rfl⟩⟩)))
  refine wpQuiet_nil ?_
  rintro _ ⟨mq, rfl⟩
  have HB4 : Hid (Below w.heap.size w mq.val) := mq.ok.2
  generalize mq.val = w4 at HB4 ⊢
  go_wp2_with fail
  go_ret
  exact ⟨ret_strOf (by simp [refT, ByteArray.data_append]), HB4.out⟩

/-- A function's name with its module's. -/
def nameT (m s : ByteArray) (n : Int) : List UInt8 := m.data.toList ++ [58] ++ (s.data.toList ++ [47] ++ Lib.itoa n)

theorem specName_any (w : World) (m s : ByteArray) (n : Int) (hm : m.size ≤ 1048576) (hs : s.size ≤ 1048576) (hk : okI n) :
    Calls Tryd.prog 9 #[.string m, .string s, .int .i64 n] w fun e w' => e = .returned (.string (strOf (nameT m s n))) ∧ Below w.heap.size w w' := by
  obtain ⟨i0, i1⟩ := okI_bd hk
  have hil := itoa_len n i0 i1
  have hsz : (⟨(Lib.itoa n).toArray⟩ : ByteArray).size ≤ 21 := by simpa [ByteArray.size] using hil
  have hsz2 : (Lib.itoa n).toArray.size ≤ 21 := by simpa using hil
  clear hk
  go_enter Tryd.func9, Tryd.ntmps9
  go_wp2_with (go_at_call 13; go_must (refine (specDecText_any n _ i0 i1).mono ?_; rintro e w1 ⟨rfl, rfl⟩))
  go_ret
  exact ⟨ret_strOf (by simp [nameT, ByteArray.data_append]), Below.refl _ _⟩

theorem refT_len (s : ByteArray) (n : Int) (hs : s.size ≤ 1048576) (hk : okI n) : (strOf (refT ⟨s, n⟩)).size ≤ 1048600 := by
  obtain ⟨i0, i1⟩ := okI_bd hk
  have hil := itoa_len n i0 i1
  rw [strOf_size]
  simp only [refT, List.length_append, bsize]
  simp
  omega

theorem fullName_any (w : World) (m s : ByteArray) (n : Int) (hm : m.size ≤ 1048576) (hs : s.size ≤ 1048576) (hk : okI n) (hp : PowAt w) :
    Calls Tryd.prog 12 #[.string m, .agg #[.string s, .int .i64 n]] w fun e w' => e = .returned (.string (strOf (nameT m s n))) ∧ Below w.heap.size w w' := by
  have hl := refT_len s n hs hk
  have HK : Hid (okI n) := hk
  have HP : Hid (PowAt w) := hp
  clear hk hp
  obtain ⟨W1, hW1⟩ : ∃ W1, W1 = w.alloc (.cells #[.string s, .int .i64 n] 37) := ⟨_, rfl⟩
  have B1 : Hid (Below w.heap.size w W1) := by show Below _ _ _; rw [hW1]; exact (Below.refl _ _).alloc (Nat.le_refl _) _
  have HW1 : Hid (W1 = w.alloc (.cells #[.string s, .int .i64 n] 37)) := hW1
  clear hW1
  go_enter Tryd.func12, Tryd.ntmps12
  go_wp2_with (go_at_call 14; go_must (try rw [← HW1.out]; refine (refText_any _ ⟨s, n⟩ hs HK.out (powAt_below HP.out (by first | exact B1.out | exact Below.refl _ _))).mono ?_; rintro e w1 ⟨rfl, hb1⟩; have HB1 : Hid _ := hb1; clear hb1))
  go_ret
  exact ⟨ret_strOf (by simp [nameT, refT, strOf, ByteArray.data_append]), by first | exact HB1.out | exact B1.out.trans (HB1.out.mono B1.out.size)⟩

theorem nameT_len (m s : ByteArray) (n : Int) (hm : m.size ≤ 1048576) (hs : s.size ≤ 1048576) (hk : okI n) : (strOf (nameT m s n)).size ≤ 2097200 := by
  obtain ⟨i0, i1⟩ := okI_bd hk
  have hil := itoa_len n i0 i1
  rw [strOf_size]
  simp only [nameT, List.length_append, bsize]
  simp
  omega

end Go.Proofs.YtcfglkmcjmhoiaaDoor
