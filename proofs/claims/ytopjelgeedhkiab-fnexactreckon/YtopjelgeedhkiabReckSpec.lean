/-
  The specification's Reckon, by contract.
-/
import Derived.Test.YtopjelgeedhkiabCmpVal
namespace Go.Proofs.Ytopjelgeedhkiab
open Go.ChangeShapes Go.WideShapes Go.ChangeAt Go.RowKit
set_option linter.unusedVariables false

def trueB : ByteArray := ⟨#[116, 114, 117, 101]⟩
def falseB : ByteArray := ⟨#[102, 97, 108, 115, 101]⟩
/-- What Reckon answers: the number, the kind, the text; and whether it can. -/
def reck (d : Nat) (op : List UInt8) (x y : Va) : (Int × Int × ByteArray) × Bool :=
  if op = [61, 61] then ((1, 0, if cmpVa d x y = 0 then trueB else falseB), true)
  else if op = [60] then ((1, 0, if cmpVa d x y < 0 then trueB else falseB), true)
  else if x.kind ≠ 0 ∨ y.kind ≠ 0 then ((0, 0, ⟨#[]⟩), false)
  else if op = [43] then ((0, wrap64 (x.n + y.n), ⟨#[]⟩), true)
  else if op = [45] then ((0, wrap64 (x.n - y.n), ⟨#[]⟩), true)
  else if op = [42] then ((0, wrap64 (x.n * y.n), ⟨#[]⟩), true)
  else ((0, 0, ⟨#[]⟩), false)
def reckE (r : (Int × Int × ByteArray) × Bool) : Value := .tuple #[.agg #[.int .i64 r.1.1, .int .i64 r.1.2.1, .string r.1.2.2, .slice none 0 0], .bool r.2]

theorem HVa.scal {w : World} {S : Nat → Prop} {d : Nat} {k n : Int} {t : ByteArray} {v : Value} {x : Va} (h : HVa w S d [.int .i64 k, .int .i64 n, .string t, v] x) : x.kind = k ∧ x.n = n := by
  cases d with
  | zero => exact h.elim
  | succ d =>
    obtain ⟨kv, h, -⟩ := h
    simp only [List.cons.injEq, Value.int.injEq, true_and, and_true] at h
    exact ⟨h.1.symm, h.2.1.symm⟩
theorem lst_ne {a b : List UInt8} (h : ¬ a = b) : (a == b) = false := by simpa using h
theorem lst_eq {a b : List UInt8} (h : a = b) : (a == b) = true := by simpa using h

theorem l03Bool_any (b : Bool) (w : World) : Calls Try.prog 12 #[.bool b] w fun e w' => e = .returned (.agg #[.int .i64 1, .int .i64 0, .string (if b = true then trueB else falseB), .slice none 0 0]) ∧ Below w.heap.size w w' := by
  cases b with
  | true =>
    go_enter Try.func12, Try.ntmps12
    go_wp2
    exact bodyPost_ret (v := .agg #[.int .i64 1, .int .i64 0, .string trueB, .slice none 0 0]) (by simp [results, Try.results12, go_sem, trueB]) rfl ⟨rfl, (Below.refl _ _).alloc (Nat.le_refl _) _⟩
  | false =>
    go_enter Try.func12, Try.ntmps12
    go_wp2
    exact bodyPost_ret (v := .agg #[.int .i64 1, .int .i64 0, .string falseB, .slice none 0 0]) (by simp [results, Try.results12, go_sem, falseB]) rfl ⟨rfl, (Below.refl _ _).alloc (Nat.le_refl _) _⟩

set_option maxHeartbeats 4000000 in
set_option maxRecDepth 100000 in
theorem specReckon_any (d : Nat) (w : World) (op : ByteArray) (cs0 cs1 : List Value) (x y : Va) (h0 : HVa w All d cs0 x) (h1 : HVa w All d cs1 y) :
    Calls Try.prog 5 #[.string op, .agg cs0.toArray, .agg cs1.toArray] w fun e w' => e = .returned (reckE (reck d op.toList x y)) ∧ Below w.heap.size w w' := by
  obtain ⟨kx, nx, tx, p, l, c, rfl⟩ := h0.shape
  obtain ⟨ky, ny, ty, q, m, e_, rfl⟩ := h1.shape
  obtain ⟨hkx, hnx⟩ := h0.scal
  obtain ⟨hky, hny⟩ := h1.scal
  have G0 : ∀ w', Below w.heap.size w w' → HVa w' All d [.int .i64 kx, .int .i64 nx, .string tx, .slice p l c] x := fun w' hw => h0.mono (SameOn.of_below hw) (fun _ h => h)
  have G1 : ∀ w', Below w.heap.size w w' → HVa w' All d [.int .i64 ky, .int .i64 ny, .string ty, .slice q m e_] y := fun w' hw => h1.mono (SameOn.of_below hw) (fun _ h => h)
  obtain ⟨W3, hW3⟩ : ∃ W3, W3 = (((w.alloc (.cells #[.int .i64 kx, .int .i64 nx, .string tx, .slice p l c] 28)).alloc (.cells #[.int .i64 ky, .int .i64 ny, .string ty, .slice q m e_] 28)).alloc (.cells #[.int .i64 0, .int .i64 0, .string ⟨#[]⟩, .slice none 0 0] 28)) := ⟨_, rfl⟩
  have bA : Hid (Blk W3 w.heap.size #[.int .i64 kx, .int .i64 nx, .string tx, .slice p l c] 28) := by show Blk _ _ _ _; rw [hW3]; exact Blk.new.alloc.alloc
  have bB : Hid (Blk W3 (w.heap.size + 1) #[.int .i64 ky, .int .i64 ny, .string ty, .slice q m e_] 28) := by
    show Blk _ _ _ _
    rw [hW3]
    have := (Blk.new (w := (w.alloc (.cells #[.int .i64 kx, .int .i64 nx, .string tx, .slice p l c] 28))) (cs := #[.int .i64 ky, .int .i64 ny, .string ty, .slice q m e_]) (t := 28)).alloc (o := .cells #[.int .i64 0, .int .i64 0, .string ⟨#[]⟩, .slice none 0 0] 28)
    simp only [alloc_hs] at this
    exact this
  have bR : Hid (Blk W3 (w.heap.size + 1 + 1) #[.int .i64 0, .int .i64 0, .string ⟨#[]⟩, .slice none 0 0] 28) := by
    show Blk _ _ _ _
    rw [hW3]
    have := Blk.new (w := ((w.alloc (.cells #[.int .i64 kx, .int .i64 nx, .string tx, .slice p l c] 28)).alloc (.cells #[.int .i64 ky, .int .i64 ny, .string ty, .slice q m e_] 28))) (cs := #[.int .i64 0, .int .i64 0, .string ⟨#[]⟩, .slice none 0 0]) (t := 28)
    simp only [alloc_hs] at this
    exact this
  have B3 : Hid (Below w.heap.size w W3) := by show Below _ _ _; rw [hW3]; exact (((Below.refl _ _).alloc (Nat.le_refl _) _).alloc (by simp only [alloc_hs]; omega) _).alloc (by simp only [alloc_hs]; omega) _
  have HW3 : Hid (W3 = (((w.alloc (.cells #[.int .i64 kx, .int .i64 nx, .string tx, .slice p l c] 28)).alloc (.cells #[.int .i64 ky, .int .i64 ny, .string ty, .slice q m e_] 28)).alloc (.cells #[.int .i64 0, .int .i64 0, .string ⟨#[]⟩, .slice none 0 0] 28))) := hW3
  clear hW3 h0 h1
  by_cases q1 : op.toList = [61, 61]
  · have e1 := lst_eq q1
    have R1 : reck d op.toList x y = ((1, 0, if cmpVa d x y = 0 then trueB else falseB), true) := by unfold reck; rw [if_pos q1]
    clear q1
    go_enter Try.func5, Try.ntmps5
    go_wp2_with fail
    rw [← HW3.out]
    refine (specCmp_all d _ _ _ x y ⟨_, rfl, G0 _ B3.out⟩ ⟨_, rfl, G1 _ B3.out⟩).mono ?_
    rintro e w4 ⟨rfl, hb4⟩
    have K4 : Hid (Below W3.heap.size W3 w4) := hb4
    clear hb4
    go_wp2_with fail
    refine (l03Bool_any _ _).mono ?_
    rintro e w5 ⟨rfl, hb5⟩
    have K5 : Hid (Below W3.heap.size W3 w5) := K4.out.trans (hb5.mono K4.out.size)
    clear hb5
    generalize ht : (if (cmpVa d x y == 0) = true then trueB else falseB) = tt at *
    have HS : Hid (reck d op.toList x y = ((1, 0, tt), true)) := by
      show _ = _
      rw [← ht, R1]; simp
    clear ht
    have b4 := bR.out.next K5.out
    have r0 := b4.cell 0 _ rfl
    have z0 := b4.frozen 0
    have r1 := b4.cell 1 _ rfl
    have z1 := b4.frozen 1
    have r2 := b4.cell 2 _ rfl
    have z2 := b4.frozen 2
    have r3 := b4.cell 3 _ rfl
    have z3 := b4.frozen 3
    have bF : Blk ((((w5.setCell ⟨w.heap.size + 1 + 1, 0, none⟩ (.int .i64 1)).setCell ⟨w.heap.size + 1 + 1, 1, none⟩ (.int .i64 0)).setCell ⟨w.heap.size + 1 + 1, 2, none⟩ (.string tt)).setCell ⟨w.heap.size + 1 + 1, 3, none⟩ (.slice none 0 0)) (w.heap.size + 1 + 1) #[.int .i64 1, .int .i64 0, .string tt, .slice none 0 0] 28 := (((b4.same (j := 0) (v := .int .i64 1) rfl).same (j := 1) (v := .int .i64 0) rfl).same (j := 2) (v := .string tt) rfl).same (j := 3) (v := .slice none 0 0) rfl
    have c0 := bF.cell 0 _ rfl
    have c1 := bF.cell 1 _ rfl
    have c2 := bF.cell 2 _ rfl
    have c3 := bF.cell 3 _ rfl
    have HBF : Hid (Below w.heap.size w ((((w5.setCell ⟨w.heap.size + 1 + 1, 0, none⟩ (.int .i64 1)).setCell ⟨w.heap.size + 1 + 1, 1, none⟩ (.int .i64 0)).setCell ⟨w.heap.size + 1 + 1, 2, none⟩ (.string tt)).setCell ⟨w.heap.size + 1 + 1, 3, none⟩ (.slice none 0 0))) := Below.setCell (Below.setCell (Below.setCell (Below.setCell (B3.out.trans (K5.out.mono B3.out.size)) (by show _ ≤ w.heap.size + 1 + 1; omega) _) (by show _ ≤ w.heap.size + 1 + 1; omega) _) (by show _ ≤ w.heap.size + 1 + 1; omega) _) (by show _ ≤ w.heap.size + 1 + 1; omega) _
    clear b4 bF
    go_wp2_with fail
    exact bodyPost_ret (v := .tuple #[.agg #[.int .i64 1, .int .i64 0, .string tt, .slice none 0 0], .bool true]) (by simp [results, Try.results5, go_sem, c0, c1, c2, c3]) rfl ⟨by rw [HS.out]; rfl, HBF.out⟩
  have e1 := lst_ne q1
  by_cases q2 : op.toList = [60]
  · have e2 := lst_eq q2
    have R1 : reck d op.toList x y = ((1, 0, if cmpVa d x y < 0 then trueB else falseB), true) := by unfold reck; rw [if_neg q1, if_pos q2]
    clear q1 q2
    go_enter Try.func5, Try.ntmps5
    go_wp2_with fail
    rw [← HW3.out]
    refine (specCmp_all d _ _ _ x y ⟨_, rfl, G0 _ B3.out⟩ ⟨_, rfl, G1 _ B3.out⟩).mono ?_
    rintro e w4 ⟨rfl, hb4⟩
    have K4 : Hid (Below W3.heap.size W3 w4) := hb4
    clear hb4
    go_wp2_with fail
    refine (l03Bool_any _ _).mono ?_
    rintro e w5 ⟨rfl, hb5⟩
    have K5 : Hid (Below W3.heap.size W3 w5) := K4.out.trans (hb5.mono K4.out.size)
    clear hb5
    generalize ht : (if decide (cmpVa d x y < 0) = true then trueB else falseB) = tt at *
    have HS : Hid (reck d op.toList x y = ((1, 0, tt), true)) := by
      show _ = _
      rw [← ht, R1]; simp
    clear ht
    have b4 := bR.out.next K5.out
    have r0 := b4.cell 0 _ rfl
    have z0 := b4.frozen 0
    have r1 := b4.cell 1 _ rfl
    have z1 := b4.frozen 1
    have r2 := b4.cell 2 _ rfl
    have z2 := b4.frozen 2
    have r3 := b4.cell 3 _ rfl
    have z3 := b4.frozen 3
    have bF : Blk ((((w5.setCell ⟨w.heap.size + 1 + 1, 0, none⟩ (.int .i64 1)).setCell ⟨w.heap.size + 1 + 1, 1, none⟩ (.int .i64 0)).setCell ⟨w.heap.size + 1 + 1, 2, none⟩ (.string tt)).setCell ⟨w.heap.size + 1 + 1, 3, none⟩ (.slice none 0 0)) (w.heap.size + 1 + 1) #[.int .i64 1, .int .i64 0, .string tt, .slice none 0 0] 28 := (((b4.same (j := 0) (v := .int .i64 1) rfl).same (j := 1) (v := .int .i64 0) rfl).same (j := 2) (v := .string tt) rfl).same (j := 3) (v := .slice none 0 0) rfl
    have c0 := bF.cell 0 _ rfl
    have c1 := bF.cell 1 _ rfl
    have c2 := bF.cell 2 _ rfl
    have c3 := bF.cell 3 _ rfl
    have HBF : Hid (Below w.heap.size w ((((w5.setCell ⟨w.heap.size + 1 + 1, 0, none⟩ (.int .i64 1)).setCell ⟨w.heap.size + 1 + 1, 1, none⟩ (.int .i64 0)).setCell ⟨w.heap.size + 1 + 1, 2, none⟩ (.string tt)).setCell ⟨w.heap.size + 1 + 1, 3, none⟩ (.slice none 0 0))) := Below.setCell (Below.setCell (Below.setCell (Below.setCell (B3.out.trans (K5.out.mono B3.out.size)) (by show _ ≤ w.heap.size + 1 + 1; omega) _) (by show _ ≤ w.heap.size + 1 + 1; omega) _) (by show _ ≤ w.heap.size + 1 + 1; omega) _) (by show _ ≤ w.heap.size + 1 + 1; omega) _
    clear b4 bF
    go_wp2_with fail
    exact bodyPost_ret (v := .tuple #[.agg #[.int .i64 1, .int .i64 0, .string tt, .slice none 0 0], .bool true]) (by simp [results, Try.results5, go_sem, c0, c1, c2, c3]) rfl ⟨by rw [HS.out]; rfl, HBF.out⟩
  have e2 := lst_ne q2
  clear bA bB bR B3 HW3 G0 G1
  by_cases k1 : kx = 0
  · by_cases k2 : ky = 0
    · have hk : ¬ (x.kind ≠ 0 ∨ y.kind ≠ 0) := by rw [hkx, hky]; simp [k1, k2]
      by_cases q3 : op.toList = [43]
      · have e3 := lst_eq q3
        have HS : Hid (reck d op.toList x y = ((0, wrap64 (nx + ny), ⟨#[]⟩), true)) := by show _ = _; unfold reck; rw [if_neg q1, if_neg q2, if_neg hk, if_pos q3, hnx, hny]
        clear q1 q2 q3 hk
        go_enter Try.func5, Try.ntmps5
        go_wp2
        exact bodyPost_ret (v := .tuple #[.agg #[.int .i64 0, .int .i64 (wrap64 (nx + ny)), .string ⟨#[]⟩, .slice none 0 0], .bool true]) (by simp [results, Try.results5, go_sem]) rfl ⟨by rw [HS.out]; rfl, (((Below.refl _ _).alloc (Nat.le_refl _) _).alloc (by simp only [alloc_hs]; omega) _).alloc (by simp only [alloc_hs]; omega) _⟩
      have e3 := lst_ne q3
      by_cases q4 : op.toList = [45]
      · have e4 := lst_eq q4
        have HS : Hid (reck d op.toList x y = ((0, wrap64 (nx - ny), ⟨#[]⟩), true)) := by show _ = _; unfold reck; rw [if_neg q1, if_neg q2, if_neg hk, if_neg q3, if_pos q4, hnx, hny]
        clear q1 q2 q3 q4 hk
        go_enter Try.func5, Try.ntmps5
        go_wp2
        exact bodyPost_ret (v := .tuple #[.agg #[.int .i64 0, .int .i64 (wrap64 (nx - ny)), .string ⟨#[]⟩, .slice none 0 0], .bool true]) (by simp [results, Try.results5, go_sem]) rfl ⟨by rw [HS.out]; rfl, (((Below.refl _ _).alloc (Nat.le_refl _) _).alloc (by simp only [alloc_hs]; omega) _).alloc (by simp only [alloc_hs]; omega) _⟩
      have e4 := lst_ne q4
      by_cases q5 : op.toList = [42]
      · have e5 := lst_eq q5
        have HS : Hid (reck d op.toList x y = ((0, wrap64 (nx * ny), ⟨#[]⟩), true)) := by show _ = _; unfold reck; rw [if_neg q1, if_neg q2, if_neg hk, if_neg q3, if_neg q4, if_pos q5, hnx, hny]
        clear q1 q2 q3 q4 q5 hk
        go_enter Try.func5, Try.ntmps5
        go_wp2
        exact bodyPost_ret (v := .tuple #[.agg #[.int .i64 0, .int .i64 (wrap64 (nx * ny)), .string ⟨#[]⟩, .slice none 0 0], .bool true]) (by simp [results, Try.results5, go_sem]) rfl ⟨by rw [HS.out]; rfl, (((Below.refl _ _).alloc (Nat.le_refl _) _).alloc (by simp only [alloc_hs]; omega) _).alloc (by simp only [alloc_hs]; omega) _⟩
      have e5 := lst_ne q5
      have HS : Hid (reck d op.toList x y = ((0, 0, ⟨#[]⟩), false)) := by show _ = _; unfold reck; rw [if_neg q1, if_neg q2, if_neg hk, if_neg q3, if_neg q4, if_neg q5]
      clear q1 q2 q3 q4 q5 hk
      go_enter Try.func5, Try.ntmps5
      go_wp2
      exact bodyPost_ret (v := .tuple #[.agg #[.int .i64 0, .int .i64 0, .string ⟨#[]⟩, .slice none 0 0], .bool false]) (by simp [results, Try.results5, go_sem]) rfl ⟨by rw [HS.out]; rfl, (((Below.refl _ _).alloc (Nat.le_refl _) _).alloc (by simp only [alloc_hs]; omega) _).alloc (by simp only [alloc_hs]; omega) _⟩
    · have HS : Hid (reck d op.toList x y = ((0, 0, ⟨#[]⟩), false)) := by show _ = _; unfold reck; rw [if_neg q1, if_neg q2, if_pos (Or.inr (by rw [hky]; exact k2))]
      clear q1 q2
      go_enter Try.func5, Try.ntmps5
      go_wp2
      exact bodyPost_ret (v := .tuple #[.agg #[.int .i64 0, .int .i64 0, .string ⟨#[]⟩, .slice none 0 0], .bool false]) (by simp [results, Try.results5, go_sem]) rfl ⟨by rw [HS.out]; rfl, (((Below.refl _ _).alloc (Nat.le_refl _) _).alloc (by simp only [alloc_hs]; omega) _).alloc (by simp only [alloc_hs]; omega) _⟩
  · have HS : Hid (reck d op.toList x y = ((0, 0, ⟨#[]⟩), false)) := by show _ = _; unfold reck; rw [if_neg q1, if_neg q2, if_pos (Or.inl (by rw [hkx]; exact k1))]
    clear q1 q2
    go_enter Try.func5, Try.ntmps5
    go_wp2
    exact bodyPost_ret (v := .tuple #[.agg #[.int .i64 0, .int .i64 0, .string ⟨#[]⟩, .slice none 0 0], .bool false]) (by simp [results, Try.results5, go_sem]) rfl ⟨by rw [HS.out]; rfl, (((Below.refl _ _).alloc (Nat.le_refl _) _).alloc (by simp only [alloc_hs]; omega) _).alloc (by simp only [alloc_hs]; omega) _⟩
end Go.Proofs.Ytopjelgeedhkiab
