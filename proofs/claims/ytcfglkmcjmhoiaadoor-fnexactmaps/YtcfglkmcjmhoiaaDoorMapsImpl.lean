/-
  What a function's name is behind a change: the program's Maps, by contract.
-/
import Derived.Test.YtcfglkmcjmhoiaaDoorMapsSpec
namespace Go.Proofs.YtcfglkmcjmhoiaaDoor
open Go.ChangeShapes Go.WideShapes Go.ChangeAt Go.RowKit
set_option linter.unusedVariables false

theorem refAt_any (w : World) (m s : ByteArray) (n c : Int) :
    Calls Tryd.prog 11 #[.agg #[.string m, .string s, .int .i64 n, .int .i64 c]] w fun e w' => e = .returned (.agg #[.string s, .int .i64 n]) ∧ Below w.heap.size w w' := by
  go_enter Tryd.func11, Tryd.ntmps11
  go_wp2_with fail
  have q := Blk.new (w := w.alloc (.cells #[.string m, .string s, .int .i64 n, .int .i64 c] 28)) (cs := #[.string s, .int .i64 n]) (t := 37)
  rw [alloc_hs] at q
  have q0 := q.cell 0 _ rfl
  have q1 := q.cell 1 _ rfl
  exact bodyPost_ret (v := .agg #[.string s, .int .i64 n]) (by simp [results, Tryd.results11, go_sem, q0, q1]) rfl ⟨rfl, ((Below.refl _ _).alloc (Nat.le_refl _) _).alloc (by simp) _⟩
theorem implMaps_any (w : World) (q : Cm) (x : ByteArray) (h : okCm q) (hw : wtCm q ≤ 1048576) (hp : PowAt w) :
    Calls Tryd.prog 7 #[.agg (cmCells q), .string x] w fun e w' => e = .returned (.string (mapsT q x)) ∧ Below w.heap.size w w' := by
  obtain ⟨k, ⟨m, s, n, c⟩, fr, ct, od, nw⟩ := q
  obtain ⟨hk, -, -, hn, hc, -, -, -, -⟩ := h
  simp only [wtCm, wtPl] at hw
  simp only [cmCells, mapsT] at *
  have hm : m.size ≤ 1048576 := by omega
  have hs : s.size ≤ 1048576 := by omega
  have hnw : nw.size ≤ 1048576 := by omega
  have N0 : Hid (∀ w, PowAt w → Calls Tryd.prog 12 #[.string m, .agg #[.string s, .int .i64 n]] w fun e w' => e = .returned (.string (strOf (nameT m s n))) ∧ Below w.heap.size w w') := fun w hp => fullName_any w m s n hm hs hn hp
  have N1 : Hid (∀ w, PowAt w → Calls Tryd.prog 12 #[.string m, .agg #[.string nw, .int .i64 n]] w fun e w' => e = .returned (.string (strOf (nameT m nw n))) ∧ Below w.heap.size w w') := fun w hp => fullName_any w m nw n hm hnw hn hp
  have N2 : Hid (∀ w, PowAt w → Calls Tryd.prog 12 #[.string nw, .agg #[.string s, .int .i64 n]] w fun e w' => e = .returned (.string (strOf (nameT nw s n))) ∧ Below w.heap.size w w') := fun w hp => fullName_any w nw s n hnw hs hn hp
  have HP : Hid (PowAt w) := hp
  clear hp
  generalize strOf (nameT m s n) = t0 at *
  generalize strOf (nameT m nw n) = t1 at *
  generalize strOf (nameT nw s n) = t2 at *
  clear hm hs hnw hw hk hn hc
  obtain ⟨W1, hW1⟩ : ∃ W1, W1 = w.alloc (.cells #[.int .i64 k, .string m, .string s, .int .i64 n, .int .i64 c, .int .i64 fr, .int .i64 ct, .string od, .string nw] 30) := ⟨_, rfl⟩
  have bA : Hid (Blk W1 w.heap.size #[.int .i64 k, .string m, .string s, .int .i64 n, .int .i64 c, .int .i64 fr, .int .i64 ct, .string od, .string nw] 30) := by show Blk _ _ _ _; rw [hW1]; exact Blk.new
  have B1 : Hid (Below w.heap.size w W1) := by show Below _ _ _; rw [hW1]; exact (Below.refl _ _).alloc (Nat.le_refl _) _
  have HW1 : Hid (W1 = w.alloc (.cells #[.int .i64 k, .string m, .string s, .int .i64 n, .int .i64 c, .int .i64 fr, .int .i64 ct, .string od, .string nw] 30)) := hW1
  clear hW1
  by_cases hx : x = t0
  · subst hx
    by_cases h1 : k = 1
    · subst h1
      have HR : Hid ((if x = x then (if (1 : Int) = 1 then t1 else if (1 : Int) = 4 then t2 else x) else x) = t1) := by show _ = _; simp
      rw [HR.out]
      go_enter Tryd.func7, Tryd.ntmps7
      go_wp2_with fail
      rw [← HW1.out]
      have c0 := bA.out.cell 0 _ rfl
      have c1 := bA.out.cell 1 _ rfl
      have c2 := bA.out.cell 2 _ rfl
      have c3 := bA.out.cell 3 _ rfl
      have c4 := bA.out.cell 4 _ rfl
      go_wp2_with fail
      refine (refAt_any _ m s n c).mono ?_
      rintro e w2 ⟨rfl, hb⟩
      have B2 : Hid (Below w.heap.size w w2) := B1.out.trans (hb.mono B1.out.size)
      have bA2 : Hid (Blk w2 w.heap.size #[.int .i64 1, .string m, .string s, .int .i64 n, .int .i64 c, .int .i64 fr, .int .i64 ct, .string od, .string nw] 30) := bA.out.next hb
      clear hb
      clear c0 c1 c2 c3 c4
      have hb : Below w2.heap.size w2 (w2.alloc (.cells #[.string s, .int .i64 n] 37)) := (Below.refl _ _).alloc (Nat.le_refl _) _
      have rA3 : Hid (Blk (w2.alloc (.cells #[.string s, .int .i64 n] 37)) w2.heap.size #[.string s, .int .i64 n] 37) := Blk.new
      have B3 : Hid (Below w.heap.size w (w2.alloc (.cells #[.string s, .int .i64 n] 37))) := B2.out.trans (hb.mono B2.out.size)
      have bA3 : Hid (Blk (w2.alloc (.cells #[.string s, .int .i64 n] 37)) w.heap.size #[.int .i64 1, .string m, .string s, .int .i64 n, .int .i64 c, .int .i64 fr, .int .i64 ct, .string od, .string nw] 30) := bA2.out.next hb
      clear hb
      have c0 := bA3.out.cell 0 _ rfl
      have c1 := bA3.out.cell 1 _ rfl
      have r0 := rA3.out.cell 0 _ rfl
      have r1 := rA3.out.cell 1 _ rfl
      go_wp2_with fail
      refine (N0.out _ (powAt_below HP.out B3.out)).mono ?_
      rintro e w4 ⟨rfl, hb⟩
      have rA4 : Hid (Blk w4 w2.heap.size #[.string s, .int .i64 n] 37) := rA3.out.next hb
      have B4 : Hid (Below w.heap.size w w4) := B3.out.trans (hb.mono B3.out.size)
      have bA4 : Hid (Blk w4 w.heap.size #[.int .i64 1, .string m, .string s, .int .i64 n, .int .i64 c, .int .i64 fr, .int .i64 ct, .string od, .string nw] 30) := bA3.out.next hb
      clear hb
      clear c0 c1 r0 r1
      have c0 := bA4.out.cell 0 _ rfl
      have c1 := bA4.out.cell 1 _ rfl
      have c8 := bA4.out.cell 8 _ rfl
      have r0 := rA4.out.cell 0 _ rfl
      have r1 := rA4.out.cell 1 _ rfl
      go_wp2_with fail
      refine (N1.out _ (powAt_below HP.out B4.out)).mono ?_
      rintro e w5 ⟨rfl, hb⟩
      have B5 : Hid (Below w.heap.size w w5) := B4.out.trans (hb.mono B4.out.size)
      have bA5 : Hid (Blk w5 w.heap.size #[.int .i64 1, .string m, .string s, .int .i64 n, .int .i64 c, .int .i64 fr, .int .i64 ct, .string od, .string nw] 30) := bA4.out.next hb
      clear hb
      go_wp2_with fail
      go_ret
      exact ⟨rfl, B5.out⟩
    · by_cases h4 : k = 4
      · subst h4
        have HR : Hid ((if x = x then (if (4 : Int) = 1 then t1 else if (4 : Int) = 4 then t2 else x) else x) = t2) := by show _ = _; simp
        rw [HR.out]
        go_enter Tryd.func7, Tryd.ntmps7
        go_wp2_with fail
        rw [← HW1.out]
        have c0 := bA.out.cell 0 _ rfl
        have c1 := bA.out.cell 1 _ rfl
        have c2 := bA.out.cell 2 _ rfl
        have c3 := bA.out.cell 3 _ rfl
        have c4 := bA.out.cell 4 _ rfl
        go_wp2_with fail
        refine (refAt_any _ m s n c).mono ?_
        rintro e w2 ⟨rfl, hb⟩
        have B2 : Hid (Below w.heap.size w w2) := B1.out.trans (hb.mono B1.out.size)
        have bA2 : Hid (Blk w2 w.heap.size #[.int .i64 4, .string m, .string s, .int .i64 n, .int .i64 c, .int .i64 fr, .int .i64 ct, .string od, .string nw] 30) := bA.out.next hb
        clear hb
        clear c0 c1 c2 c3 c4
        have hb : Below w2.heap.size w2 (w2.alloc (.cells #[.string s, .int .i64 n] 37)) := (Below.refl _ _).alloc (Nat.le_refl _) _
        have rA3 : Hid (Blk (w2.alloc (.cells #[.string s, .int .i64 n] 37)) w2.heap.size #[.string s, .int .i64 n] 37) := Blk.new
        have B3 : Hid (Below w.heap.size w (w2.alloc (.cells #[.string s, .int .i64 n] 37))) := B2.out.trans (hb.mono B2.out.size)
        have bA3 : Hid (Blk (w2.alloc (.cells #[.string s, .int .i64 n] 37)) w.heap.size #[.int .i64 4, .string m, .string s, .int .i64 n, .int .i64 c, .int .i64 fr, .int .i64 ct, .string od, .string nw] 30) := bA2.out.next hb
        clear hb
        have c0 := bA3.out.cell 0 _ rfl
        have c1 := bA3.out.cell 1 _ rfl
        have r0 := rA3.out.cell 0 _ rfl
        have r1 := rA3.out.cell 1 _ rfl
        go_wp2_with fail
        refine (N0.out _ (powAt_below HP.out B3.out)).mono ?_
        rintro e w4 ⟨rfl, hb⟩
        have rA4 : Hid (Blk w4 w2.heap.size #[.string s, .int .i64 n] 37) := rA3.out.next hb
        have B4 : Hid (Below w.heap.size w w4) := B3.out.trans (hb.mono B3.out.size)
        have bA4 : Hid (Blk w4 w.heap.size #[.int .i64 4, .string m, .string s, .int .i64 n, .int .i64 c, .int .i64 fr, .int .i64 ct, .string od, .string nw] 30) := bA3.out.next hb
        clear hb
        clear c0 c1 r0 r1
        have c0 := bA4.out.cell 0 _ rfl
        have c1 := bA4.out.cell 1 _ rfl
        have c8 := bA4.out.cell 8 _ rfl
        have r0 := rA4.out.cell 0 _ rfl
        have r1 := rA4.out.cell 1 _ rfl
        go_wp2_with fail
        refine (N2.out _ (powAt_below HP.out B4.out)).mono ?_
        rintro e w5 ⟨rfl, hb⟩
        have B5 : Hid (Below w.heap.size w w5) := B4.out.trans (hb.mono B4.out.size)
        have bA5 : Hid (Blk w5 w.heap.size #[.int .i64 4, .string m, .string s, .int .i64 n, .int .i64 c, .int .i64 fr, .int .i64 ct, .string od, .string nw] 30) := bA4.out.next hb
        clear hb
        go_wp2_with fail
        go_ret
        exact ⟨rfl, B5.out⟩
      · have HR : Hid ((if x = x then (if k = 1 then t1 else if k = 4 then t2 else x) else x) = x) := by show _ = _; simp [h1, h4]
        rw [HR.out]
        go_enter Tryd.func7, Tryd.ntmps7
        go_wp2_with fail
        rw [← HW1.out]
        have c0 := bA.out.cell 0 _ rfl
        have c1 := bA.out.cell 1 _ rfl
        have c2 := bA.out.cell 2 _ rfl
        have c3 := bA.out.cell 3 _ rfl
        have c4 := bA.out.cell 4 _ rfl
        go_wp2_with fail
        refine (refAt_any _ m s n c).mono ?_
        rintro e w2 ⟨rfl, hb⟩
        have B2 : Hid (Below w.heap.size w w2) := B1.out.trans (hb.mono B1.out.size)
        have bA2 : Hid (Blk w2 w.heap.size #[.int .i64 k, .string m, .string s, .int .i64 n, .int .i64 c, .int .i64 fr, .int .i64 ct, .string od, .string nw] 30) := bA.out.next hb
        clear hb
        clear c0 c1 c2 c3 c4
        have hb : Below w2.heap.size w2 (w2.alloc (.cells #[.string s, .int .i64 n] 37)) := (Below.refl _ _).alloc (Nat.le_refl _) _
        have rA3 : Hid (Blk (w2.alloc (.cells #[.string s, .int .i64 n] 37)) w2.heap.size #[.string s, .int .i64 n] 37) := Blk.new
        have B3 : Hid (Below w.heap.size w (w2.alloc (.cells #[.string s, .int .i64 n] 37))) := B2.out.trans (hb.mono B2.out.size)
        have bA3 : Hid (Blk (w2.alloc (.cells #[.string s, .int .i64 n] 37)) w.heap.size #[.int .i64 k, .string m, .string s, .int .i64 n, .int .i64 c, .int .i64 fr, .int .i64 ct, .string od, .string nw] 30) := bA2.out.next hb
        clear hb
        have c0 := bA3.out.cell 0 _ rfl
        have c1 := bA3.out.cell 1 _ rfl
        have r0 := rA3.out.cell 0 _ rfl
        have r1 := rA3.out.cell 1 _ rfl
        go_wp2_with fail
        refine (N0.out _ (powAt_below HP.out B3.out)).mono ?_
        rintro e w4 ⟨rfl, hb⟩
        have rA4 : Hid (Blk w4 w2.heap.size #[.string s, .int .i64 n] 37) := rA3.out.next hb
        have B4 : Hid (Below w.heap.size w w4) := B3.out.trans (hb.mono B3.out.size)
        have bA4 : Hid (Blk w4 w.heap.size #[.int .i64 k, .string m, .string s, .int .i64 n, .int .i64 c, .int .i64 fr, .int .i64 ct, .string od, .string nw] 30) := bA3.out.next hb
        clear hb
        clear c0 c1 r0 r1
        have c0 := bA4.out.cell 0 _ rfl
        have c1 := bA4.out.cell 1 _ rfl
        have c8 := bA4.out.cell 8 _ rfl
        have r0 := rA4.out.cell 0 _ rfl
        have r1 := rA4.out.cell 1 _ rfl
        go_wp2_with fail
        go_ret
        exact ⟨rfl, B4.out⟩
  · have HR : Hid ((if x = t0 then (if k = 1 then t1 else if k = 4 then t2 else x) else x) = x) := by show _ = _; simp [hx]
    rw [HR.out]
    have q1 := str_ne hx
    have q2 := str_neB hx
    go_enter Tryd.func7, Tryd.ntmps7
    go_wp2_with fail
    rw [← HW1.out]
    have c0 := bA.out.cell 0 _ rfl
    have c1 := bA.out.cell 1 _ rfl
    have c2 := bA.out.cell 2 _ rfl
    have c3 := bA.out.cell 3 _ rfl
    have c4 := bA.out.cell 4 _ rfl
    go_wp2_with fail
    refine (refAt_any _ m s n c).mono ?_
    rintro e w2 ⟨rfl, hb⟩
    have B2 : Hid (Below w.heap.size w w2) := B1.out.trans (hb.mono B1.out.size)
    have bA2 : Hid (Blk w2 w.heap.size #[.int .i64 k, .string m, .string s, .int .i64 n, .int .i64 c, .int .i64 fr, .int .i64 ct, .string od, .string nw] 30) := bA.out.next hb
    clear hb
    clear c0 c1 c2 c3 c4
    have hb : Below w2.heap.size w2 (w2.alloc (.cells #[.string s, .int .i64 n] 37)) := (Below.refl _ _).alloc (Nat.le_refl _) _
    have rA3 : Hid (Blk (w2.alloc (.cells #[.string s, .int .i64 n] 37)) w2.heap.size #[.string s, .int .i64 n] 37) := Blk.new
    have B3 : Hid (Below w.heap.size w (w2.alloc (.cells #[.string s, .int .i64 n] 37))) := B2.out.trans (hb.mono B2.out.size)
    have bA3 : Hid (Blk (w2.alloc (.cells #[.string s, .int .i64 n] 37)) w.heap.size #[.int .i64 k, .string m, .string s, .int .i64 n, .int .i64 c, .int .i64 fr, .int .i64 ct, .string od, .string nw] 30) := bA2.out.next hb
    clear hb
    have c0 := bA3.out.cell 0 _ rfl
    have c1 := bA3.out.cell 1 _ rfl
    have r0 := rA3.out.cell 0 _ rfl
    have r1 := rA3.out.cell 1 _ rfl
    go_wp2_with fail
    refine (N0.out _ (powAt_below HP.out B3.out)).mono ?_
    rintro e w4 ⟨rfl, hb⟩
    have rA4 : Hid (Blk w4 w2.heap.size #[.string s, .int .i64 n] 37) := rA3.out.next hb
    have B4 : Hid (Below w.heap.size w w4) := B3.out.trans (hb.mono B3.out.size)
    have bA4 : Hid (Blk w4 w.heap.size #[.int .i64 k, .string m, .string s, .int .i64 n, .int .i64 c, .int .i64 fr, .int .i64 ct, .string od, .string nw] 30) := bA3.out.next hb
    clear hb
    clear c0 c1 r0 r1
    have c0 := bA4.out.cell 0 _ rfl
    have c1 := bA4.out.cell 1 _ rfl
    have c8 := bA4.out.cell 8 _ rfl
    have r0 := rA4.out.cell 0 _ rfl
    have r1 := rA4.out.cell 1 _ rfl
    go_wp2_with fail
    go_ret
    exact ⟨rfl, B4.out⟩
end Go.Proofs.YtcfglkmcjmhoiaaDoor
