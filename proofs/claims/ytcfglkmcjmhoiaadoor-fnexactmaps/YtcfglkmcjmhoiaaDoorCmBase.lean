/-
  Commands: a kind, a place, two numbers and two texts; the laws' readers of them, by contract.
-/
import Derived.Test.YtcfglkmcjmhoiaaDoorPlBase
namespace Go.Proofs.YtcfglkmcjmhoiaaDoor
open Go.ChangeShapes Go.WideShapes Go.ChangeAt Go.RowKit
set_option linter.unusedVariables false

structure Cm where
  kind : Int
  at' : Pl
  from' : Int
  count : Int
  old : ByteArray
  new : ByteArray
def wtCm (q : Cm) : Nat := wtPl q.at' + q.old.size + q.new.size
/-- The nine cells of a command. -/
def cmCells (q : Cm) : Array Value := #[.int .i64 q.kind, .string q.at'.mod, .string q.at'.name, .int .i64 q.at'.arity, .int .i64 q.at'.clause, .int .i64 q.from', .int .i64 q.count, .string q.old, .string q.new]
def okCm (q : Cm) : Prop := okI q.kind ∧ okS q.at'.mod ∧ okS q.at'.name ∧ okI q.at'.arity ∧ okI q.at'.clause ∧ okI q.from' ∧ okI q.count ∧ okS q.old ∧ okS q.new

theorem szCommand_any (w : World) (q : Cm) (h : okCm q) :
    Calls Tryd.prog 4 #[.agg (cmCells q), .int .i64 1048576] w fun e w' => e = .returned (.int .i64 (leftOf 1048576 (wtCm q))) ∧ Below w.heap.size w w' := by
  obtain ⟨k, ⟨m, s, n, c⟩, fr, ct, od, nw⟩ := q
  obtain ⟨-, h0, h1, -, -, -, -, h2, h3⟩ := h
  simp only [cmCells] at *
  have SP : Hid (∀ w, Calls Tryd.prog 8 #[.agg #[.string m, .string s, .int .i64 n, .int .i64 c], .int .i64 1048576] w fun e w' => e = .returned (.int .i64 (leftOf 1048576 (wtPl ⟨m, s, n, c⟩))) ∧ Below w.heap.size w w') := fun w => by
    have := szPlace_any w ⟨m, s, n, c⟩ 1048576 (by omega) h0 h1
    exact this
  have HW : Hid (wtCm ⟨k, ⟨m, s, n, c⟩, fr, ct, od, nw⟩ = wtPl ⟨m, s, n, c⟩ + od.size + nw.size) := rfl
  generalize wtCm ⟨k, ⟨m, s, n, c⟩, fr, ct, od, nw⟩ = W at *
  generalize wtPl ⟨m, s, n, c⟩ = x at *
  simp only [okS, maxLen] at h2 h3
  clear h0 h1
  obtain ⟨W1, hW1⟩ : ∃ W1, W1 = w.alloc (.cells #[.int .i64 k, .string m, .string s, .int .i64 n, .int .i64 c, .int .i64 fr, .int .i64 ct, .string od, .string nw] 25) := ⟨_, rfl⟩
  have bA : Hid (Blk W1 w.heap.size #[.int .i64 k, .string m, .string s, .int .i64 n, .int .i64 c, .int .i64 fr, .int .i64 ct, .string od, .string nw] 25) := by show Blk _ _ _ _; rw [hW1]; exact Blk.new
  have B1 : Hid (Below w.heap.size w W1) := by show Below _ _ _; rw [hW1]; exact (Below.refl _ _).alloc (Nat.le_refl _) _
  have HW1 : Hid (W1 = w.alloc (.cells #[.int .i64 k, .string m, .string s, .int .i64 n, .int .i64 c, .int .i64 fr, .int .i64 ct, .string od, .string nw] 25)) := hW1
  clear hW1
  by_cases t0 : 1048576 < x
  · have hr : leftOf 1048576 x = -1 := leftOf_lt t0
    have HR : Hid (leftOf 1048576 W = -1) := leftOf_lt (by rw [HW.out]; omega)
    rw [hr] at SP
    go_enter Tryd.func4, Tryd.ntmps4
    go_wp2_with fail
    rw [← HW1.out]
    refine (SP.out _).mono ?_
    rintro e w2 ⟨rfl, hb⟩
    have B2 : Hid (Below w.heap.size w w2) := B1.out.trans (hb.mono B1.out.size)
    clear hb
    go_wp2_with fail
    go_ret
    exact ⟨by rw [HR.out]; rfl, B2.out⟩
  · have hr : leftOf 1048576 x = ((1048576 - x : Nat) : Int) := leftOf_ge (by omega)
    rw [hr] at SP
    obtain ⟨y, hy⟩ : ∃ y, y = 1048576 - x := ⟨_, rfl⟩
    rw [← hy] at SP
    have hxy : x = 1048576 - y := by omega
    have hy2 : y ≤ 1048576 := by omega
    by_cases t1 : y < od.size
    · have HR : Hid (leftOf 1048576 W = -1) := leftOf_lt (by rw [HW.out]; omega)
      clear hr hy
      go_enter Tryd.func4, Tryd.ntmps4
      go_wp2_with fail
      rw [← HW1.out]
      refine (SP.out _).mono ?_
      rintro e w2 ⟨rfl, hb⟩
      have B2 : Hid (Below w.heap.size w w2) := B1.out.trans (hb.mono B1.out.size)
      have bA2 : Hid (Blk w2 w.heap.size #[.int .i64 k, .string m, .string s, .int .i64 n, .int .i64 c, .int .i64 fr, .int .i64 ct, .string od, .string nw] 25) := bA.out.next hb
      have c7 := bA2.out.cell 7 _ rfl
      have c8 := bA2.out.cell 8 _ rfl
      clear hb
      go_wp2_with fail
      go_ret
      exact ⟨by rw [HR.out]; rfl, B2.out⟩
    · by_cases t2 : y < od.size + nw.size
      · have HR : Hid (leftOf 1048576 W = -1) := leftOf_lt (by rw [HW.out]; omega)
        clear hr hy
        go_enter Tryd.func4, Tryd.ntmps4
        go_wp2_with fail
        rw [← HW1.out]
        refine (SP.out _).mono ?_
        rintro e w2 ⟨rfl, hb⟩
        have B2 : Hid (Below w.heap.size w w2) := B1.out.trans (hb.mono B1.out.size)
        have bA2 : Hid (Blk w2 w.heap.size #[.int .i64 k, .string m, .string s, .int .i64 n, .int .i64 c, .int .i64 fr, .int .i64 ct, .string od, .string nw] 25) := bA.out.next hb
        have c7 := bA2.out.cell 7 _ rfl
        have c8 := bA2.out.cell 8 _ rfl
        clear hb
        go_wp2_with fail
        go_ret
        exact ⟨by rw [HR.out]; rfl, B2.out⟩
      · have HR : Hid (leftOf 1048576 W = (y : Int) - od.size - nw.size) := by
          show leftOf 1048576 W = _
          rw [leftOf_ge (by rw [HW.out]; omega), HW.out]; omega
        clear hr hy
        go_enter Tryd.func4, Tryd.ntmps4
        go_wp2_with fail
        rw [← HW1.out]
        refine (SP.out _).mono ?_
        rintro e w2 ⟨rfl, hb⟩
        have B2 : Hid (Below w.heap.size w w2) := B1.out.trans (hb.mono B1.out.size)
        have bA2 : Hid (Blk w2 w.heap.size #[.int .i64 k, .string m, .string s, .int .i64 n, .int .i64 c, .int .i64 fr, .int .i64 ct, .string od, .string nw] 25) := bA.out.next hb
        have c7 := bA2.out.cell 7 _ rfl
        have c8 := bA2.out.cell 8 _ rfl
        clear hb
        go_wp2_with fail
        go_ret
        exact ⟨by rw [HR.out]; rfl, B2.out⟩

theorem toCommand_any (w : World) (q : Cm) :
    Calls Tryd.prog 6 #[.agg (cmCells q)] w fun e w' => e = .returned (.agg (cmCells q)) ∧ Below w.heap.size w w' := by
  obtain ⟨k, ⟨m, s, n, c⟩, fr, ct, od, nw⟩ := q
  simp only [cmCells]
  have TP : Hid (∀ w, Calls Tryd.prog 10 #[.agg #[.string m, .string s, .int .i64 n, .int .i64 c]] w fun e w' => e = .returned (.agg #[.string m, .string s, .int .i64 n, .int .i64 c]) ∧ Below w.heap.size w w') := fun w => toPlace_any w ⟨m, s, n, c⟩
  have RA : Hid (Blk (((w.alloc (.cells #[.int .i64 k, .string m, .string s, .int .i64 n, .int .i64 c, .int .i64 fr, .int .i64 ct, .string od, .string nw] 25)).alloc (.cells #[.int .i64 0, .string ⟨#[]⟩, .string ⟨#[]⟩, .int .i64 0, .int .i64 0, .int .i64 0, .int .i64 0, .string ⟨#[]⟩, .string ⟨#[]⟩] 30)).alloc (.cells #[.int .i64 k, .string ⟨#[]⟩, .string ⟨#[]⟩, .int .i64 0, .int .i64 0, .int .i64 0, .int .i64 0, .string ⟨#[]⟩, .string ⟨#[]⟩] 30)) w.heap.size #[.int .i64 k, .string m, .string s, .int .i64 n, .int .i64 c, .int .i64 fr, .int .i64 ct, .string od, .string nw] 25) := Blk.new.alloc.alloc
  have RB : Hid (Blk (((w.alloc (.cells #[.int .i64 k, .string m, .string s, .int .i64 n, .int .i64 c, .int .i64 fr, .int .i64 ct, .string od, .string nw] 25)).alloc (.cells #[.int .i64 0, .string ⟨#[]⟩, .string ⟨#[]⟩, .int .i64 0, .int .i64 0, .int .i64 0, .int .i64 0, .string ⟨#[]⟩, .string ⟨#[]⟩] 30)).alloc (.cells #[.int .i64 k, .string ⟨#[]⟩, .string ⟨#[]⟩, .int .i64 0, .int .i64 0, .int .i64 0, .int .i64 0, .string ⟨#[]⟩, .string ⟨#[]⟩] 30)) (w.heap.size + 1) #[.int .i64 0, .string ⟨#[]⟩, .string ⟨#[]⟩, .int .i64 0, .int .i64 0, .int .i64 0, .int .i64 0, .string ⟨#[]⟩, .string ⟨#[]⟩] 30) := by
    have := Blk.new (w := (w.alloc (.cells #[.int .i64 k, .string m, .string s, .int .i64 n, .int .i64 c, .int .i64 fr, .int .i64 ct, .string od, .string nw] 25))) (cs := #[.int .i64 0, .string ⟨#[]⟩, .string ⟨#[]⟩, .int .i64 0, .int .i64 0, .int .i64 0, .int .i64 0, .string ⟨#[]⟩, .string ⟨#[]⟩]) (t := 30)
    rw [alloc_hs] at this
    exact this.alloc
  have RC : Hid (Blk (((w.alloc (.cells #[.int .i64 k, .string m, .string s, .int .i64 n, .int .i64 c, .int .i64 fr, .int .i64 ct, .string od, .string nw] 25)).alloc (.cells #[.int .i64 0, .string ⟨#[]⟩, .string ⟨#[]⟩, .int .i64 0, .int .i64 0, .int .i64 0, .int .i64 0, .string ⟨#[]⟩, .string ⟨#[]⟩] 30)).alloc (.cells #[.int .i64 k, .string ⟨#[]⟩, .string ⟨#[]⟩, .int .i64 0, .int .i64 0, .int .i64 0, .int .i64 0, .string ⟨#[]⟩, .string ⟨#[]⟩] 30)) (w.heap.size + 1 + 1) #[.int .i64 k, .string ⟨#[]⟩, .string ⟨#[]⟩, .int .i64 0, .int .i64 0, .int .i64 0, .int .i64 0, .string ⟨#[]⟩, .string ⟨#[]⟩] 30) := by
    have := Blk.new (w := ((w.alloc (.cells #[.int .i64 k, .string m, .string s, .int .i64 n, .int .i64 c, .int .i64 fr, .int .i64 ct, .string od, .string nw] 25)).alloc (.cells #[.int .i64 0, .string ⟨#[]⟩, .string ⟨#[]⟩, .int .i64 0, .int .i64 0, .int .i64 0, .int .i64 0, .string ⟨#[]⟩, .string ⟨#[]⟩] 30))) (cs := #[.int .i64 k, .string ⟨#[]⟩, .string ⟨#[]⟩, .int .i64 0, .int .i64 0, .int .i64 0, .int .i64 0, .string ⟨#[]⟩, .string ⟨#[]⟩]) (t := 30)
    rw [alloc_hs, alloc_hs] at this
    exact this
  have B0 : Hid (Below w.heap.size w (((w.alloc (.cells #[.int .i64 k, .string m, .string s, .int .i64 n, .int .i64 c, .int .i64 fr, .int .i64 ct, .string od, .string nw] 25)).alloc (.cells #[.int .i64 0, .string ⟨#[]⟩, .string ⟨#[]⟩, .int .i64 0, .int .i64 0, .int .i64 0, .int .i64 0, .string ⟨#[]⟩, .string ⟨#[]⟩] 30)).alloc (.cells #[.int .i64 k, .string ⟨#[]⟩, .string ⟨#[]⟩, .int .i64 0, .int .i64 0, .int .i64 0, .int .i64 0, .string ⟨#[]⟩, .string ⟨#[]⟩] 30))) := (((Below.refl _ _).alloc (Nat.le_refl _) _).alloc (by simp only [alloc_hs]; omega) _).alloc (by simp only [alloc_hs]; omega) _
  have AF : Hid (∀ w2, Below w.heap.size w w2 → Blk w2 (w.heap.size + 1) #[.int .i64 0, .string ⟨#[]⟩, .string ⟨#[]⟩, .int .i64 0, .int .i64 0, .int .i64 0, .int .i64 0, .string ⟨#[]⟩, .string ⟨#[]⟩] 30 → Blk w2 (w.heap.size + 1 + 1) #[.int .i64 k, .string ⟨#[]⟩, .string ⟨#[]⟩, .int .i64 0, .int .i64 0, .int .i64 0, .int .i64 0, .string ⟨#[]⟩, .string ⟨#[]⟩] 30 → Below w.heap.size w (((((((((((((((((w2.setCell ⟨w.heap.size + 1 + 1, 1, none⟩ (.string m)).setCell ⟨w.heap.size + 1 + 1, 2, none⟩ (.string s)).setCell ⟨w.heap.size + 1 + 1, 3, none⟩ (.int .i64 n)).setCell ⟨w.heap.size + 1 + 1, 4, none⟩ (.int .i64 c)).setCell ⟨w.heap.size + 1 + 1, 5, none⟩ (.int .i64 fr)).setCell ⟨w.heap.size + 1 + 1, 6, none⟩ (.int .i64 ct)).setCell ⟨w.heap.size + 1 + 1, 7, none⟩ (.string od)).setCell ⟨w.heap.size + 1 + 1, 8, none⟩ (.string nw)).setCell ⟨w.heap.size + 1, 0, none⟩ (.int .i64 k)).setCell ⟨w.heap.size + 1, 1, none⟩ (.string m)).setCell ⟨w.heap.size + 1, 2, none⟩ (.string s)).setCell ⟨w.heap.size + 1, 3, none⟩ (.int .i64 n)).setCell ⟨w.heap.size + 1, 4, none⟩ (.int .i64 c)).setCell ⟨w.heap.size + 1, 5, none⟩ (.int .i64 fr)).setCell ⟨w.heap.size + 1, 6, none⟩ (.int .i64 ct)).setCell ⟨w.heap.size + 1, 7, none⟩ (.string od)).setCell ⟨w.heap.size + 1, 8, none⟩ (.string nw)) ∧ Blk (((((((((((((((((w2.setCell ⟨w.heap.size + 1 + 1, 1, none⟩ (.string m)).setCell ⟨w.heap.size + 1 + 1, 2, none⟩ (.string s)).setCell ⟨w.heap.size + 1 + 1, 3, none⟩ (.int .i64 n)).setCell ⟨w.heap.size + 1 + 1, 4, none⟩ (.int .i64 c)).setCell ⟨w.heap.size + 1 + 1, 5, none⟩ (.int .i64 fr)).setCell ⟨w.heap.size + 1 + 1, 6, none⟩ (.int .i64 ct)).setCell ⟨w.heap.size + 1 + 1, 7, none⟩ (.string od)).setCell ⟨w.heap.size + 1 + 1, 8, none⟩ (.string nw)).setCell ⟨w.heap.size + 1, 0, none⟩ (.int .i64 k)).setCell ⟨w.heap.size + 1, 1, none⟩ (.string m)).setCell ⟨w.heap.size + 1, 2, none⟩ (.string s)).setCell ⟨w.heap.size + 1, 3, none⟩ (.int .i64 n)).setCell ⟨w.heap.size + 1, 4, none⟩ (.int .i64 c)).setCell ⟨w.heap.size + 1, 5, none⟩ (.int .i64 fr)).setCell ⟨w.heap.size + 1, 6, none⟩ (.int .i64 ct)).setCell ⟨w.heap.size + 1, 7, none⟩ (.string od)).setCell ⟨w.heap.size + 1, 8, none⟩ (.string nw)) (w.heap.size + 1) #[.int .i64 k, .string m, .string s, .int .i64 n, .int .i64 c, .int .i64 fr, .int .i64 ct, .string od, .string nw] 30) := by
    intro w2 hb hO hU
    refine ⟨?_, ?_⟩
    · exact (((((((((((((((((hb.setCell (by dsimp only; omega) _).setCell (by dsimp only; omega) _).setCell (by dsimp only; omega) _).setCell (by dsimp only; omega) _).setCell (by dsimp only; omega) _).setCell (by dsimp only; omega) _).setCell (by dsimp only; omega) _).setCell (by dsimp only; omega) _).setCell (by dsimp only; omega) _).setCell (by dsimp only; omega) _).setCell (by dsimp only; omega) _).setCell (by dsimp only; omega) _).setCell (by dsimp only; omega) _).setCell (by dsimp only; omega) _).setCell (by dsimp only; omega) _).setCell (by dsimp only; omega) _).setCell (by dsimp only; omega) _)
    · have h := ((((((((hO.other (p := ⟨w.heap.size + 1 + 1, 1, none⟩) (v := .string m) (by show w.heap.size + 1 ≠ w.heap.size + 1 + 1; omega)).other (p := ⟨w.heap.size + 1 + 1, 2, none⟩) (v := .string s) (by show w.heap.size + 1 ≠ w.heap.size + 1 + 1; omega)).other (p := ⟨w.heap.size + 1 + 1, 3, none⟩) (v := .int .i64 n) (by show w.heap.size + 1 ≠ w.heap.size + 1 + 1; omega)).other (p := ⟨w.heap.size + 1 + 1, 4, none⟩) (v := .int .i64 c) (by show w.heap.size + 1 ≠ w.heap.size + 1 + 1; omega)).other (p := ⟨w.heap.size + 1 + 1, 5, none⟩) (v := .int .i64 fr) (by show w.heap.size + 1 ≠ w.heap.size + 1 + 1; omega)).other (p := ⟨w.heap.size + 1 + 1, 6, none⟩) (v := .int .i64 ct) (by show w.heap.size + 1 ≠ w.heap.size + 1 + 1; omega)).other (p := ⟨w.heap.size + 1 + 1, 7, none⟩) (v := .string od) (by show w.heap.size + 1 ≠ w.heap.size + 1 + 1; omega)).other (p := ⟨w.heap.size + 1 + 1, 8, none⟩) (v := .string nw) (by show w.heap.size + 1 ≠ w.heap.size + 1 + 1; omega))
      replace h := h.same (j := 0) (v := .int .i64 k) (cs' := #[.int .i64 k, .string ⟨#[]⟩, .string ⟨#[]⟩, .int .i64 0, .int .i64 0, .int .i64 0, .int .i64 0, .string ⟨#[]⟩, .string ⟨#[]⟩]) rfl
      replace h := h.same (j := 1) (v := .string m) (cs' := #[.int .i64 k, .string m, .string ⟨#[]⟩, .int .i64 0, .int .i64 0, .int .i64 0, .int .i64 0, .string ⟨#[]⟩, .string ⟨#[]⟩]) rfl
      replace h := h.same (j := 2) (v := .string s) (cs' := #[.int .i64 k, .string m, .string s, .int .i64 0, .int .i64 0, .int .i64 0, .int .i64 0, .string ⟨#[]⟩, .string ⟨#[]⟩]) rfl
      replace h := h.same (j := 3) (v := .int .i64 n) (cs' := #[.int .i64 k, .string m, .string s, .int .i64 n, .int .i64 0, .int .i64 0, .int .i64 0, .string ⟨#[]⟩, .string ⟨#[]⟩]) rfl
      replace h := h.same (j := 4) (v := .int .i64 c) (cs' := #[.int .i64 k, .string m, .string s, .int .i64 n, .int .i64 c, .int .i64 0, .int .i64 0, .string ⟨#[]⟩, .string ⟨#[]⟩]) rfl
      replace h := h.same (j := 5) (v := .int .i64 fr) (cs' := #[.int .i64 k, .string m, .string s, .int .i64 n, .int .i64 c, .int .i64 fr, .int .i64 0, .string ⟨#[]⟩, .string ⟨#[]⟩]) rfl
      replace h := h.same (j := 6) (v := .int .i64 ct) (cs' := #[.int .i64 k, .string m, .string s, .int .i64 n, .int .i64 c, .int .i64 fr, .int .i64 ct, .string ⟨#[]⟩, .string ⟨#[]⟩]) rfl
      replace h := h.same (j := 7) (v := .string od) (cs' := #[.int .i64 k, .string m, .string s, .int .i64 n, .int .i64 c, .int .i64 fr, .int .i64 ct, .string od, .string ⟨#[]⟩]) rfl
      replace h := h.same (j := 8) (v := .string nw) (cs' := #[.int .i64 k, .string m, .string s, .int .i64 n, .int .i64 c, .int .i64 fr, .int .i64 ct, .string od, .string nw]) rfl
      exact h
  go_enter Tryd.func6, Tryd.ntmps6
  go_wp2_with fail
  refine (TP.out _).mono ?_
  rintro e w2 ⟨rfl, hb⟩
  have A2 : Hid (Blk w2 w.heap.size #[.int .i64 k, .string m, .string s, .int .i64 n, .int .i64 c, .int .i64 fr, .int .i64 ct, .string od, .string nw] 25) := RA.out.next hb
  have O2 : Hid (Blk w2 (w.heap.size + 1) #[.int .i64 0, .string ⟨#[]⟩, .string ⟨#[]⟩, .int .i64 0, .int .i64 0, .int .i64 0, .int .i64 0, .string ⟨#[]⟩, .string ⟨#[]⟩] 30) := RB.out.next hb
  have U2 : Hid (Blk w2 (w.heap.size + 1 + 1) #[.int .i64 k, .string ⟨#[]⟩, .string ⟨#[]⟩, .int .i64 0, .int .i64 0, .int .i64 0, .int .i64 0, .string ⟨#[]⟩, .string ⟨#[]⟩] 30) := RC.out.next hb
  have B2 : Hid (Below w.heap.size w w2) := B0.out.trans (hb.mono B0.out.size)
  clear hb RA RB RC B0
  have a0 := A2.out.cell 0 _ rfl
  have o0 := O2.out.cell 0 _ rfl
  have o0f := O2.out.frozen 0
  have u0 := U2.out.cell 0 _ rfl
  have u0f := U2.out.frozen 0
  have a1 := A2.out.cell 1 _ rfl
  have o1 := O2.out.cell 1 _ rfl
  have o1f := O2.out.frozen 1
  have u1 := U2.out.cell 1 _ rfl
  have u1f := U2.out.frozen 1
  have a2 := A2.out.cell 2 _ rfl
  have o2 := O2.out.cell 2 _ rfl
  have o2f := O2.out.frozen 2
  have u2 := U2.out.cell 2 _ rfl
  have u2f := U2.out.frozen 2
  have a3 := A2.out.cell 3 _ rfl
  have o3 := O2.out.cell 3 _ rfl
  have o3f := O2.out.frozen 3
  have u3 := U2.out.cell 3 _ rfl
  have u3f := U2.out.frozen 3
  have a4 := A2.out.cell 4 _ rfl
  have o4 := O2.out.cell 4 _ rfl
  have o4f := O2.out.frozen 4
  have u4 := U2.out.cell 4 _ rfl
  have u4f := U2.out.frozen 4
  have a5 := A2.out.cell 5 _ rfl
  have o5 := O2.out.cell 5 _ rfl
  have o5f := O2.out.frozen 5
  have u5 := U2.out.cell 5 _ rfl
  have u5f := U2.out.frozen 5
  have a6 := A2.out.cell 6 _ rfl
  have o6 := O2.out.cell 6 _ rfl
  have o6f := O2.out.frozen 6
  have u6 := U2.out.cell 6 _ rfl
  have u6f := U2.out.frozen 6
  have a7 := A2.out.cell 7 _ rfl
  have o7 := O2.out.cell 7 _ rfl
  have o7f := O2.out.frozen 7
  have u7 := U2.out.cell 7 _ rfl
  have u7f := U2.out.frozen 7
  have a8 := A2.out.cell 8 _ rfl
  have o8 := O2.out.cell 8 _ rfl
  have o8f := O2.out.frozen 8
  have u8 := U2.out.cell 8 _ rfl
  have u8f := U2.out.frozen 8
  go_wp2_with fail
  clear a0 o0 o0f u0 u0f a1 o1 o1f u1 u1f a2 o2 o2f u2 u2f a3 o3 o3f u3 u3f a4 o4 o4f u4 u4f a5 o5 o5f u5 u5f a6 o6 o6f u6 u6f a7 o7 o7f u7 u7f a8 o8 o8f u8 u8f
  have F := AF.out w2 B2.out O2.out U2.out
  have q := F.2
  have q0 := q.cell 0 _ rfl
  have q1 := q.cell 1 _ rfl
  have q2 := q.cell 2 _ rfl
  have q3 := q.cell 3 _ rfl
  have q4 := q.cell 4 _ rfl
  have q5 := q.cell 5 _ rfl
  have q6 := q.cell 6 _ rfl
  have q7 := q.cell 7 _ rfl
  have q8 := q.cell 8 _ rfl
  clear q
  exact bodyPost_ret (v := .agg #[.int .i64 k, .string m, .string s, .int .i64 n, .int .i64 c, .int .i64 fr, .int .i64 ct, .string od, .string nw]) (by simp [results, Tryd.results6, go_sem, q0, q1, q2, q3, q4, q5, q6, q7, q8]) rfl ⟨rfl, F.1⟩
end Go.Proofs.YtcfglkmcjmhoiaaDoor
