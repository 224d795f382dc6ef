/-
  What a function's name is behind a change: the specification's Maps, by contract.
-/
import Derived.Test.YtcfglkmcjmhoiaaDoorCmName
import Derived.Test.YtcfglkmcjmhoiaaDoorCmBase
namespace Go.Proofs.YtcfglkmcjmhoiaaDoor
open Go.ChangeShapes Go.WideShapes Go.ChangeAt Go.RowKit
set_option linter.unusedVariables false

/-- What Maps answers. -/
def mapsT (q : Cm) (x : ByteArray) : ByteArray :=
  if x = strOf (nameT q.at'.mod q.at'.name q.at'.arity) then
    (if q.kind = 1 then strOf (nameT q.at'.mod q.new q.at'.arity) else if q.kind = 4 then strOf (nameT q.new q.at'.name q.at'.arity) else x)
  else x
theorem specMaps_any (w : World) (q : Cm) (x : ByteArray) (h : okCm q) (hw : wtCm q ≤ 1048576) :
    Calls Tryd.prog 5 #[.agg (cmCells q), .string x] w fun e w' => e = .returned (.string (mapsT q x)) ∧ Below w.heap.size w w' := by
  obtain ⟨k, ⟨m, s, n, c⟩, fr, ct, od, nw⟩ := q
  obtain ⟨hk, -, -, hn, hc, -, -, -, -⟩ := h
  simp only [wtCm, wtPl] at hw
  simp only [cmCells, mapsT] at *
  have hm : m.size ≤ 1048576 := by omega
  have hs : s.size ≤ 1048576 := by omega
  have hnw : nw.size ≤ 1048576 := by omega
  have N0 : Hid (∀ w, Calls Tryd.prog 9 #[.string m, .string s, .int .i64 n] w fun e w' => e = .returned (.string (strOf (nameT m s n))) ∧ Below w.heap.size w w') := fun w => specName_any w m s n hm hs hn
  have N1 : Hid (∀ w, Calls Tryd.prog 9 #[.string m, .string nw, .int .i64 n] w fun e w' => e = .returned (.string (strOf (nameT m nw n))) ∧ Below w.heap.size w w') := fun w => specName_any w m nw n hm hnw hn
  have N2 : Hid (∀ w, Calls Tryd.prog 9 #[.string nw, .string s, .int .i64 n] w fun e w' => e = .returned (.string (strOf (nameT nw s n))) ∧ Below w.heap.size w w') := fun w => specName_any w nw s n hnw hs hn
  generalize strOf (nameT m s n) = t0 at *
  generalize strOf (nameT m nw n) = t1 at *
  generalize strOf (nameT nw s n) = t2 at *
  clear hm hs hnw hw hk hn hc
  obtain ⟨W1, hW1⟩ : ∃ W1, W1 = w.alloc (.cells #[.int .i64 k, .string m, .string s, .int .i64 n, .int .i64 c, .int .i64 fr, .int .i64 ct, .string od, .string nw] 30) := ⟨_, rfl⟩
  have bA : Hid (Blk W1 w.heap.size #[.int .i64 k, .string m, .string s, .int .i64 n, .int .i64 c, .int .i64 fr, .int .i64 ct, .string od, .string nw] 30) := by show Blk _ _ _ _; rw [hW1]; exact Blk.new
  have B1 : Hid (Below w.heap.size w W1) := by show Below _ _ _; rw [hW1]; exact (Below.refl _ _).alloc (Nat.le_refl _) _
  have HW1 : Hid (W1 = w.alloc (.cells #[.int .i64 k, .string m, .string s, .int .i64 n, .int .i64 c, .int .i64 fr, .int .i64 ct, .string od, .string nw] 30)) := hW1
  clear hW1
  by_cases hx : x = t0
  · subst hx
    by_cases h1 : k = 1
    · subst h1
      have HR : Hid ((if x = x then (if (1 : Int) = 1 then t1 else if (1 : Int) = 4 then t2 else x) else x) = t1) := by show _ = _; simp
      rw [HR.out]
      go_enter Tryd.func5, Tryd.ntmps5
      go_wp2_with fail
      rw [← HW1.out]
      have c1 := bA.out.cell 1 _ rfl
      have c2 := bA.out.cell 2 _ rfl
      have c3 := bA.out.cell 3 _ rfl
      go_wp2_with fail
      refine (N0.out _).mono ?_
      rintro e w2 ⟨rfl, hb⟩
      have B2 : Hid (Below w.heap.size w w2) := B1.out.trans (hb.mono B1.out.size)
      have bA2 : Hid (Blk w2 w.heap.size #[.int .i64 1, .string m, .string s, .int .i64 n, .int .i64 c, .int .i64 fr, .int .i64 ct, .string od, .string nw] 30) := bA.out.next hb
      clear hb
      clear c1 c2 c3
      have c0 := bA2.out.cell 0 _ rfl
      have c1 := bA2.out.cell 1 _ rfl
      have c2 := bA2.out.cell 2 _ rfl
      have c3 := bA2.out.cell 3 _ rfl
      have c8 := bA2.out.cell 8 _ rfl
      go_wp2_with fail
      refine (N1.out _).mono ?_
      rintro e w3 ⟨rfl, hb⟩
      have B3 : Hid (Below w.heap.size w w3) := B2.out.trans (hb.mono B2.out.size)
      have bA3 : Hid (Blk w3 w.heap.size #[.int .i64 1, .string m, .string s, .int .i64 n, .int .i64 c, .int .i64 fr, .int .i64 ct, .string od, .string nw] 30) := bA2.out.next hb
      clear hb
      go_wp2_with fail
      go_ret
      exact ⟨rfl, B3.out⟩
    · by_cases h4 : k = 4
      · subst h4
        have HR : Hid ((if x = x then (if (4 : Int) = 1 then t1 else if (4 : Int) = 4 then t2 else x) else x) = t2) := by show _ = _; simp
        rw [HR.out]
        go_enter Tryd.func5, Tryd.ntmps5
        go_wp2_with fail
        rw [← HW1.out]
        have c1 := bA.out.cell 1 _ rfl
        have c2 := bA.out.cell 2 _ rfl
        have c3 := bA.out.cell 3 _ rfl
        go_wp2_with fail
        refine (N0.out _).mono ?_
        rintro e w2 ⟨rfl, hb⟩
        have B2 : Hid (Below w.heap.size w w2) := B1.out.trans (hb.mono B1.out.size)
        have bA2 : Hid (Blk w2 w.heap.size #[.int .i64 4, .string m, .string s, .int .i64 n, .int .i64 c, .int .i64 fr, .int .i64 ct, .string od, .string nw] 30) := bA.out.next hb
        clear hb
        clear c1 c2 c3
        have c0 := bA2.out.cell 0 _ rfl
        have c1 := bA2.out.cell 1 _ rfl
        have c2 := bA2.out.cell 2 _ rfl
        have c3 := bA2.out.cell 3 _ rfl
        have c8 := bA2.out.cell 8 _ rfl
        go_wp2_with fail
        refine (N2.out _).mono ?_
        rintro e w3 ⟨rfl, hb⟩
        have B3 : Hid (Below w.heap.size w w3) := B2.out.trans (hb.mono B2.out.size)
        have bA3 : Hid (Blk w3 w.heap.size #[.int .i64 4, .string m, .string s, .int .i64 n, .int .i64 c, .int .i64 fr, .int .i64 ct, .string od, .string nw] 30) := bA2.out.next hb
        clear hb
        go_wp2_with fail
        go_ret
        exact ⟨rfl, B3.out⟩
      · have HR : Hid ((if x = x then (if k = 1 then t1 else if k = 4 then t2 else x) else x) = x) := by show _ = _; simp [h1, h4]
        rw [HR.out]
        go_enter Tryd.func5, Tryd.ntmps5
        go_wp2_with fail
        rw [← HW1.out]
        have c1 := bA.out.cell 1 _ rfl
        have c2 := bA.out.cell 2 _ rfl
        have c3 := bA.out.cell 3 _ rfl
        go_wp2_with fail
        refine (N0.out _).mono ?_
        rintro e w2 ⟨rfl, hb⟩
        have B2 : Hid (Below w.heap.size w w2) := B1.out.trans (hb.mono B1.out.size)
        have bA2 : Hid (Blk w2 w.heap.size #[.int .i64 k, .string m, .string s, .int .i64 n, .int .i64 c, .int .i64 fr, .int .i64 ct, .string od, .string nw] 30) := bA.out.next hb
        clear hb
        clear c1 c2 c3
        have c0 := bA2.out.cell 0 _ rfl
        have c1 := bA2.out.cell 1 _ rfl
        have c2 := bA2.out.cell 2 _ rfl
        have c3 := bA2.out.cell 3 _ rfl
        have c8 := bA2.out.cell 8 _ rfl
        go_wp2_with fail
        go_ret
        exact ⟨rfl, B2.out⟩
  · have HR : Hid ((if x = t0 then (if k = 1 then t1 else if k = 4 then t2 else x) else x) = x) := by show _ = _; simp [hx]
    rw [HR.out]
    have q1 := str_ne hx
    have q2 := str_neB hx
    go_enter Tryd.func5, Tryd.ntmps5
    go_wp2_with fail
    rw [← HW1.out]
    have c1 := bA.out.cell 1 _ rfl
    have c2 := bA.out.cell 2 _ rfl
    have c3 := bA.out.cell 3 _ rfl
    go_wp2_with fail
    refine (N0.out _).mono ?_
    rintro e w2 ⟨rfl, hb⟩
    have B2 : Hid (Below w.heap.size w w2) := B1.out.trans (hb.mono B1.out.size)
    have bA2 : Hid (Blk w2 w.heap.size #[.int .i64 k, .string m, .string s, .int .i64 n, .int .i64 c, .int .i64 fr, .int .i64 ct, .string od, .string nw] 30) := bA.out.next hb
    clear hb
    clear c1 c2 c3
    have c0 := bA2.out.cell 0 _ rfl
    have c1 := bA2.out.cell 1 _ rfl
    have c2 := bA2.out.cell 2 _ rfl
    have c3 := bA2.out.cell 3 _ rfl
    have c8 := bA2.out.cell 8 _ rfl
    go_wp2_with fail
    go_ret
    exact ⟨rfl, B2.out⟩
end Go.Proofs.YtcfglkmcjmhoiaaDoor
