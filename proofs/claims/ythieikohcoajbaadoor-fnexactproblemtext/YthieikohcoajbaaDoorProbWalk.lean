/-
  The law of ProblemText, walked: at every problem.
-/
import Derived.Test.YthieikohcoajbaaDoorProbText
import Derived.Test.YthieikohcoajbaaDoorBoxes
namespace Go.Proofs.YthieikohcoajbaaDoor
open Go.ChangeShapes Go.WideShapes Go.ChangeAt Go.RowKit
set_option linter.unusedVariables false

def pbCells (q : Pb) : Array Value := #[.string q.mod, .string q.name, .int .i64 q.arity, .string q.code]

theorem szProblem_any (w : World) (q : Pb) (h0 : okS q.mod) (h1 : okS q.name) (h2 : okS q.code) :
    Calls Tryd.prog 10 #[.agg #[.string q.mod, .string q.name, .int .i64 q.arity, .string q.code], .int .i64 1048576] w fun e w' => e = .returned (.int .i64 (leftOf 1048576 (wtPb q))) ∧ Below w.heap.size w w' := by
  obtain ⟨m, s, n, c⟩ := q
  simp only [okS, maxLen] at h0 h1 h2
  have HW : Hid (wtPb ⟨m, s, n, c⟩ = m.size + s.size + c.size) := rfl
  generalize wtPb ⟨m, s, n, c⟩ = W at *
  have BL : Hid (∀ (cs : Array Value) (t : TypeId), Below w.heap.size w (w.alloc (.cells cs t))) := fun cs t => (Below.refl _ _).alloc (Nat.le_refl _) _
  by_cases t0 : 1048576 < m.size
  · have HR : Hid (leftOf 1048576 W = -1) := leftOf_lt (by rw [HW.out]; omega)
    go_enter Tryd.func10, Tryd.ntmps10
    go_wp2_with fail
    go_ret
    exact ⟨by rw [HR.out]; rfl, BL.out _ _⟩
  · by_cases t1 : 1048576 < m.size + s.size
    · have HR : Hid (leftOf 1048576 W = -1) := leftOf_lt (by rw [HW.out]; omega)
      go_enter Tryd.func10, Tryd.ntmps10
      go_wp2_with fail
      go_ret
      exact ⟨by rw [HR.out]; rfl, BL.out _ _⟩
    · by_cases t2 : 1048576 < m.size + s.size + c.size
      · have HR : Hid (leftOf 1048576 W = -1) := leftOf_lt (by rw [HW.out]; omega)
        go_enter Tryd.func10, Tryd.ntmps10
        go_wp2_with fail
        go_ret
        exact ⟨by rw [HR.out]; rfl, BL.out _ _⟩
      · have HR : Hid (leftOf 1048576 W = 1048576 - m.size - s.size - c.size) := by
          show leftOf 1048576 W = _
          rw [leftOf_ge (by rw [HW.out]; omega), HW.out]; omega
        go_enter Tryd.func10, Tryd.ntmps10
        go_wp2_with fail
        go_ret
        exact ⟨by rw [HR.out]; rfl, BL.out _ _⟩

theorem toProblem_any (w : World) (q : Pb) :
    Calls Tryd.prog 12 #[.agg #[.string q.mod, .string q.name, .int .i64 q.arity, .string q.code]] w fun e w' => e = .returned (.agg #[.string q.mod, .string q.name, .int .i64 q.arity, .string q.code]) ∧ Below w.heap.size w w' := by
  obtain ⟨m, s, n, c⟩ := q
  have BL : Hid (∀ (cs cs' : Array Value) (t t' : TypeId), Below w.heap.size w ((w.alloc (.cells cs t)).alloc (.cells cs' t'))) := fun cs cs' t t' => ((Below.refl _ _).alloc (Nat.le_refl _) _).alloc (by simp) _
  have RB : Hid (∀ (cs cs' : Array Value) (t t' : TypeId), Blk (((w.alloc (.cells cs t)).alloc (.cells #[.string m, .string s, .int .i64 n, .string c] 33)).alloc (.cells cs' t')) (w.heap.size + 1) #[.string m, .string s, .int .i64 n, .string c] 33) := fun cs cs' t t' => by
    have := Blk.new (w := w.alloc (.cells cs t)) (cs := #[.string m, .string s, .int .i64 n, .string c]) (t := 33)
    rw [alloc_hs] at this
    exact this.alloc
  have BL3 : Hid (∀ (cs cs' cs'' : Array Value) (t t' t'' : TypeId), Below w.heap.size w (((w.alloc (.cells cs t)).alloc (.cells cs' t')).alloc (.cells cs'' t''))) := fun cs cs' cs'' t t' t'' => (((Below.refl _ _).alloc (Nat.le_refl _) _).alloc (by simp only [alloc_hs]; omega) _).alloc (by simp only [alloc_hs]; omega) _
  go_enter Tryd.func12, Tryd.ntmps12
  go_wp2_with fail
  have q := RB.out #[.string m, .string s, .int .i64 n, .string c] #[.string m, .string s, .int .i64 n, .string c] 30 33
  have q0 := q.cell 0 _ rfl
  have q1 := q.cell 1 _ rfl
  have q2 := q.cell 2 _ rfl
  have q3 := q.cell 3 _ rfl
  exact bodyPost_ret (v := .agg #[.string m, .string s, .int .i64 n, .string c]) (by simp [results, Tryd.results12, go_sem, q0, q1, q2, q3]) rfl ⟨rfl, BL3.out _ _ _ _ _ _⟩

set_option maxHeartbeats 4000000 in
theorem fnExactProblemText_walk (w : World) (q : Pb) (h0 : okS q.mod) (h1 : okS q.name) (h2 : okS q.code) (hk : okI q.arity) (hp : PowAt w) :
    Calls Tryd.prog 4 #[.agg #[.string q.mod, .string q.name, .int .i64 q.arity, .string q.code]] w fun e w' => e = .returned (.bool true) ∧ Below w.heap.size w w' := by
  have SZ : Hid (∀ w, Calls Tryd.prog 10 #[.agg #[.string q.mod, .string q.name, .int .i64 q.arity, .string q.code], .int .i64 1048576] w fun e w' => e = .returned (.int .i64 (leftOf 1048576 (wtPb q))) ∧ Below w.heap.size w w') := fun w => szProblem_any w q h0 h1 h2
  have TO : Hid (∀ w, Calls Tryd.prog 12 #[.agg #[.string q.mod, .string q.name, .int .i64 q.arity, .string q.code]] w fun e w' => e = .returned (.agg #[.string q.mod, .string q.name, .int .i64 q.arity, .string q.code]) ∧ Below w.heap.size w w') := fun w => toProblem_any w q
  have SP : Hid (∀ w, wtPb q ≤ 1048576 → Calls Tryd.prog 11 #[.agg #[.string q.mod, .string q.name, .int .i64 q.arity, .string q.code]] w fun e w' => e = .returned (.string (strOf (probT q))) ∧ Below w.heap.size w w') := fun w hw => specProblemText_any w q hw hk
  have IP : Hid (∀ w, wtPb q ≤ 1048576 → PowAt w → Calls Tryd.prog 13 #[.agg #[.string q.mod, .string q.name, .int .i64 q.arity, .string q.code]] w fun e w' => e = .returned (.string (strOf (probT q))) ∧ Below w.heap.size w w') := fun w hw hp => implProblemText_any w q hw hk hp
  have HP : Hid (PowAt w) := hp
  clear h0 h1 h2 hk hp
  have HWT : Hid (∃ x, wtPb q = x) := ⟨_, rfl⟩
  have HTX : Hid (∃ x, strOf (probT q) = x) := ⟨_, rfl⟩
  obtain ⟨x, hx⟩ := HWT.out
  obtain ⟨tx, htx⟩ := HTX.out
  rw [hx] at SZ SP IP
  rw [htx] at SP IP
  obtain ⟨m, s, n, c⟩ := q
  clear hx htx HWT HTX
  obtain ⟨W1, hW1⟩ : ∃ W1, W1 = w.alloc (.cells #[.string m, .string s, .int .i64 n, .string c] 30) := ⟨_, rfl⟩
  have bA : Hid (Blk W1 w.heap.size #[.string m, .string s, .int .i64 n, .string c] 30) := by show Blk _ _ _ _; rw [hW1]; exact Blk.new
  have B1 : Hid (Below w.heap.size w W1) := by show Below _ _ _; rw [hW1]; exact (Below.refl _ _).alloc (Nat.le_refl _) _
  have HW1 : Hid (W1 = w.alloc (.cells #[.string m, .string s, .int .i64 n, .string c] 30)) := hW1
  clear hW1
  by_cases hw : 1048576 < x
  · have hr : leftOf 1048576 x = -1 := leftOf_lt hw
    go_enter Tryd.func4, Tryd.ntmps4
    go_wp2_with fail
    rw [← HW1.out]
    refine (SZ.out _).mono ?_
    rintro e w2 ⟨rfl, hb⟩
    rw [hr]
    have B2 : Hid (Below w.heap.size w w2) := B1.out.trans (hb.mono B1.out.size)
    clear hb
    go_wp2_with fail
    go_ret
    exact ⟨rfl, B2.out⟩
  · have hr : leftOf 1048576 x = ((1048576 - x : Nat) : Int) := leftOf_ge (by omega)
    go_enter Tryd.func4, Tryd.ntmps4
    go_wp2_with fail
    rw [← HW1.out]
    refine (SZ.out _).mono ?_
    rintro e w2 ⟨rfl, hb⟩
    rw [hr]
    have B2 : Hid (Below w.heap.size w w2) := B1.out.trans (hb.mono B1.out.size)
    have bA2 : Hid (Blk w2 w.heap.size #[.string m, .string s, .int .i64 n, .string c] 30) := bA.out.next hb
    clear hb
    have c0 := bA2.out.cell 0 _ rfl
    have c1 := bA2.out.cell 1 _ rfl
    have c2 := bA2.out.cell 2 _ rfl
    have c3 := bA2.out.cell 3 _ rfl
    go_wp2_with fail
    clear c0 c1 c2 c3
    refine (TO.out _).mono ?_
    rintro e w3 ⟨rfl, hb⟩
    have B3 : Hid (Below w.heap.size w w3) := B2.out.trans (hb.mono B2.out.size)
    have bA3 : Hid (Blk w3 w.heap.size #[.string m, .string s, .int .i64 n, .string c] 30) := bA2.out.next hb
    clear hb
    go_wp2_with fail
    refine (SP.out _ (by omega)).mono ?_
    rintro e w4 ⟨rfl, hb⟩
    have B4 : Hid (Below w.heap.size w w4) := B3.out.trans (hb.mono B3.out.size)
    have bA4 : Hid (Blk w4 w.heap.size #[.string m, .string s, .int .i64 n, .string c] 30) := bA3.out.next hb
    clear hb
    have c0 := bA4.out.cell 0 _ rfl
    have c1 := bA4.out.cell 1 _ rfl
    have c2 := bA4.out.cell 2 _ rfl
    have c3 := bA4.out.cell 3 _ rfl
    go_wp2_with fail
    clear c0 c1 c2 c3
    refine (TO.out _).mono ?_
    rintro e w5 ⟨rfl, hb⟩
    have B5 : Hid (Below w.heap.size w w5) := B4.out.trans (hb.mono B4.out.size)
    have bA5 : Hid (Blk w5 w.heap.size #[.string m, .string s, .int .i64 n, .string c] 30) := bA4.out.next hb
    clear hb
    go_wp2_with fail
    refine (IP.out _ (by omega) (powAt_below HP.out B5.out)).mono ?_
    rintro e w6 ⟨rfl, hb⟩
    have B6 : Hid (Below w.heap.size w w6) := B5.out.trans (hb.mono B5.out.size)
    have bA6 : Hid (Blk w6 w.heap.size #[.string m, .string s, .int .i64 n, .string c] 30) := bA5.out.next hb
    clear hb
    go_wp2_with fail
    go_ret
    exact ⟨rfl, B6.out⟩
end Go.Proofs.YthieikohcoajbaaDoor
