/-
  The program's Reckon, by contract.
-/
import Derived.Test.YtopjelgeedhkiabReckSpec
import Derived.Test.YtopjelgeedhkiabCmpImpl
namespace Go.Proofs.Ytopjelgeedhkiab
open Go.ChangeShapes Go.WideShapes Go.ChangeAt Go.RowKit
set_option linter.unusedVariables false

theorem truth_any (b : Bool) (w : World) : Calls Try.prog 15 #[.bool b] w fun e w' => e = .returned (.agg #[.int .i64 1, .int .i64 0, .string (if b = true then trueB else falseB), .slice none 0 0]) ∧ Below w.heap.size w w' := by
  cases b with
  | true =>
    go_enter Try.func15, Try.ntmps15
    go_wp2
    exact bodyPost_ret (v := .agg #[.int .i64 1, .int .i64 0, .string trueB, .slice none 0 0]) (by simp [results, Try.results15, go_sem, trueB]) rfl ⟨rfl, (Below.refl _ _).alloc (Nat.le_refl _) _⟩
  | false =>
    go_enter Try.func15, Try.ntmps15
    go_wp2
    exact bodyPost_ret (v := .agg #[.int .i64 1, .int .i64 0, .string falseB, .slice none 0 0]) (by simp [results, Try.results15, go_sem, falseB]) rfl ⟨rfl, (Below.refl _ _).alloc (Nat.le_refl _) _⟩

/-- The types of what is no number. -/
def othT (u : TypeId) : Prop := u = 54 ∨ u = 56 ∨ u = 58 ∨ u = 59 ∨ u = 60

theorem valueOf_num (n : Int) (t : ByteArray) (p : Option Addr) (l c : Nat) (w : World) : Calls Try.prog 18 #[.agg #[.int .i64 0, .int .i64 n, .string t, .slice p l c]] w fun e w' => e = .returned (.iface 52 (.agg #[.int .i64 n])) ∧ Below w.heap.size w w' := by
  go_enter Try.func18, Try.ntmps18
  go_wp2
  go_ret
  exact ⟨rfl, (Below.refl _ _).alloc (Nat.le_refl _) _⟩

set_option maxHeartbeats 4000000 in
set_option maxRecDepth 100000 in
theorem valueOf_oth {d : Nat} (k n : Int) (t : ByteArray) (p : Option Addr) (l c : Nat) (x : Va) (w : World) (h : HVa w All d [.int .i64 k, .int .i64 n, .string t, .slice p l c] x) (hk : ¬ k = 0) :
    Calls Try.prog 18 #[.agg #[.int .i64 k, .int .i64 n, .string t, .slice p l c]] w fun e w' => (∃ u v, e = .returned (.iface u v) ∧ othT u) ∧ Below w.heap.size w w' := by
  have BL : Hid (Below w.heap.size w (w.alloc (.cells #[.int .i64 k, .int .i64 n, .string t, .slice p l c] 28))) := (Below.refl _ _).alloc (Nat.le_refl _) _
  by_cases k4 : k = 4
  · subst k4
    go_enter Try.func18, Try.ntmps18
    go_wp2
    go_ret
    exact ⟨⟨_, _, rfl, Or.inr (Or.inr (Or.inr (Or.inl rfl)))⟩, BL.out⟩
  by_cases k1 : k = 1
  · subst k1
    go_enter Try.func18, Try.ntmps18
    go_wp2
    go_ret
    exact ⟨⟨_, _, rfl, Or.inl rfl⟩, BL.out⟩
  by_cases k2 : k = 2
  · subst k2
    go_enter Try.func18, Try.ntmps18
    go_wp2
    go_ret
    exact ⟨⟨_, _, rfl, Or.inr (Or.inl rfl)⟩, BL.out⟩
  by_cases k3 : k = 3
  · subst k3
    go_enter Try.func18, Try.ntmps18
    go_wp2
    go_ret
    exact ⟨⟨_, _, rfl, Or.inr (Or.inr (Or.inl rfl))⟩, BL.out⟩
  go_enter Try.func18, Try.ntmps18
  go_wp2
  go_ret
  exact ⟨⟨_, _, rfl, Or.inr (Or.inr (Or.inr (Or.inr rfl)))⟩, BL.out⟩

theorem assertNum_yes (v : Value) (w : World) : (Instr.typeAssert (.iface 52 v) 42 52 true).run Try.prog w = .ok (.tuple #[v, .bool true]) w := by kernel_rfl
theorem assertNum_no {u : TypeId} (h : othT u) (v : Value) (w : World) : (Instr.typeAssert (.iface u v) 42 52 true).run Try.prog w = .ok (.tuple #[.agg #[.int .i64 0], .bool false]) w := by
  rcases h with rfl | rfl | rfl | rfl | rfl <;> kernel_rfl

theorem numberOf_yes (n : Int) (w : World) : Calls Try.prog 17 #[.iface 52 (.agg #[.int .i64 n])] w fun e w' => e = .returned (.tuple #[.int .i64 n, .bool true]) ∧ Below w.heap.size w w' := by
  have hy := assertNum_yes
  go_enter Try.func17, Try.ntmps17
  go_wp2
  exact bodyPost_ret (v := .tuple #[.int .i64 n, .bool true]) (by simp [results, Try.results17, go_sem]) rfl ⟨rfl, by first | exact Below.refl _ _ | exact (Below.refl _ _).alloc (Nat.le_refl _) _⟩
theorem numberOf_no {u : TypeId} (v : Value) (h : othT u) (w : World) : Calls Try.prog 17 #[.iface u v] w fun e w' => e = .returned (.tuple #[.int .i64 0, .bool false]) ∧ Below w.heap.size w w' := by
  have hy := assertNum_no h
  go_enter Try.func17, Try.ntmps17
  go_wp2
  exact bodyPost_ret (v := .tuple #[.int .i64 0, .bool false]) (by simp [results, Try.results17, go_sem]) rfl ⟨rfl, by first | exact Below.refl _ _ | exact (Below.refl _ _).alloc (Nat.le_refl _) _⟩

/-- What reckonNumbers answers. -/
def reckN (op : List UInt8) (a b : Int) : (Int × Int × ByteArray) × Bool :=
  if op = [43] then ((0, wrap64 (a + b), ⟨#[]⟩), true)
  else if op = [45] then ((0, wrap64 (a - b), ⟨#[]⟩), true)
  else if op = [42] then ((0, wrap64 (a * b), ⟨#[]⟩), true)
  else ((0, 0, ⟨#[]⟩), false)
theorem reckonNumbers_any (op : ByteArray) (a b : Int) (w : World) : Calls Try.prog 19 #[.string op, .int .i64 a, .int .i64 b] w fun e w' => e = .returned (reckE (reckN op.toList a b)) ∧ Below w.heap.size w w' := by
  by_cases q3 : op.toList = [43]
  · have e3 := lst_eq q3
    have HS : Hid (reckN op.toList a b = ((0, wrap64 (a + b), ⟨#[]⟩), true)) := if_pos q3
    clear q3
    go_enter Try.func19, Try.ntmps19
    go_wp2
    exact bodyPost_ret (v := .tuple #[.agg #[.int .i64 0, .int .i64 (wrap64 (a + b)), .string ⟨#[]⟩, .slice none 0 0], .bool true]) (by simp [results, Try.results19, go_sem]) rfl ⟨by rw [HS.out]; rfl, (Below.refl _ _).alloc (Nat.le_refl _) _⟩
  have e3 := lst_ne q3
  by_cases q4 : op.toList = [45]
  · have e4 := lst_eq q4
    have HS : Hid (reckN op.toList a b = ((0, wrap64 (a - b), ⟨#[]⟩), true)) := by show _ = _; unfold reckN; rw [if_neg q3, if_pos q4]
    clear q3 q4
    go_enter Try.func19, Try.ntmps19
    go_wp2
    exact bodyPost_ret (v := .tuple #[.agg #[.int .i64 0, .int .i64 (wrap64 (a - b)), .string ⟨#[]⟩, .slice none 0 0], .bool true]) (by simp [results, Try.results19, go_sem]) rfl ⟨by rw [HS.out]; rfl, (Below.refl _ _).alloc (Nat.le_refl _) _⟩
  have e4 := lst_ne q4
  by_cases q5 : op.toList = [42]
  · have e5 := lst_eq q5
    have HS : Hid (reckN op.toList a b = ((0, wrap64 (a * b), ⟨#[]⟩), true)) := by show _ = _; unfold reckN; rw [if_neg q3, if_neg q4, if_pos q5]
    clear q3 q4 q5
    go_enter Try.func19, Try.ntmps19
    go_wp2
    exact bodyPost_ret (v := .tuple #[.agg #[.int .i64 0, .int .i64 (wrap64 (a * b)), .string ⟨#[]⟩, .slice none 0 0], .bool true]) (by simp [results, Try.results19, go_sem]) rfl ⟨by rw [HS.out]; rfl, (Below.refl _ _).alloc (Nat.le_refl _) _⟩
  have e5 := lst_ne q5
  have HS : Hid (reckN op.toList a b = ((0, 0, ⟨#[]⟩), false)) := by show _ = _; unfold reckN; rw [if_neg q3, if_neg q4, if_neg q5]
  clear q3 q4 q5
  go_enter Try.func19, Try.ntmps19
  go_wp2
  exact bodyPost_ret (v := .tuple #[.agg #[.int .i64 0, .int .i64 0, .string ⟨#[]⟩, .slice none 0 0], .bool false]) (by simp [results, Try.results19, go_sem]) rfl ⟨by rw [HS.out]; rfl, (Below.refl _ _).alloc (Nat.le_refl _) _⟩

def NumI (k n : Int) (u : TypeId) (v : Value) : Prop := (k = 0 ∧ u = 52 ∧ v = .agg #[.int .i64 n]) ∨ (¬ k = 0 ∧ othT u)
def numN (k n : Int) : Int := if k = 0 then n else 0
def numK (k : Int) : Bool := decide (k = 0)
theorem valueOf_any {d : Nat} (k n : Int) (t : ByteArray) (p : Option Addr) (l c : Nat) (x : Va) (w : World) (h : HVa w All d [.int .i64 k, .int .i64 n, .string t, .slice p l c] x) :
    Calls Try.prog 18 #[.agg #[.int .i64 k, .int .i64 n, .string t, .slice p l c]] w fun e w' => ∃ u v, e = .returned (.iface u v) ∧ NumI k n u v ∧ Below w.heap.size w w' := by
  by_cases hk : k = 0
  · subst hk
    exact (valueOf_num n t p l c w).mono fun e w' h => ⟨_, _, h.1, Or.inl ⟨rfl, rfl, rfl⟩, h.2⟩
  · exact (valueOf_oth k n t p l c x w h hk).mono fun e w' h => by obtain ⟨⟨u, v, h1, h2⟩, h3⟩ := h; exact ⟨u, v, h1, Or.inr ⟨hk, h2⟩, h3⟩
theorem numberOf_any {k n : Int} {u : TypeId} {v : Value} (h : NumI k n u v) (w : World) : Calls Try.prog 17 #[.iface u v] w fun e w' => e = .returned (.tuple #[.int .i64 (numN k n), .bool (numK k)]) ∧ Below w.heap.size w w' := by
  rcases h with ⟨rfl, rfl, rfl⟩ | ⟨hk, h⟩
  · exact numberOf_yes n w
  · have e1 : numN k n = 0 := if_neg hk
    have e2 : numK k = false := by unfold numK; simpa using hk
    rw [e1, e2]; exact numberOf_no v h w

set_option maxHeartbeats 4000000 in
set_option maxRecDepth 100000 in
theorem implReckon_any (d : Nat) (w : World) (op : ByteArray) (cs0 cs1 : List Value) (x y : Va) (h0 : HVa w All d cs0 x) (h1 : HVa w All d cs1 y) :
    Calls Try.prog 7 #[.string op, .agg cs0.toArray, .agg cs1.toArray] w fun e w' => e = .returned (reckE (reck d op.toList x y)) ∧ Below w.heap.size w w' := by
  obtain ⟨kx, nx, tx, p, l, c, rfl⟩ := h0.shape
  obtain ⟨ky, ny, ty, q, m, e_, rfl⟩ := h1.shape
  obtain ⟨hkx, hnx⟩ := h0.scal
  obtain ⟨hky, hny⟩ := h1.scal
  have G0 : ∀ w', Below w.heap.size w w' → HVa w' All d [.int .i64 kx, .int .i64 nx, .string tx, .slice p l c] x := fun w' hw => h0.mono (SameOn.of_below hw) (fun _ h => h)
  have G1 : ∀ w', Below w.heap.size w w' → HVa w' All d [.int .i64 ky, .int .i64 ny, .string ty, .slice q m e_] y := fun w' hw => h1.mono (SameOn.of_below hw) (fun _ h => h)
  obtain ⟨W3, hW3⟩ : ∃ W3, W3 = (((w.alloc (.cells #[.int .i64 kx, .int .i64 nx, .string tx, .slice p l c] 28)).alloc (.cells #[.int .i64 ky, .int .i64 ny, .string ty, .slice q m e_] 28)).alloc (.cells #[.int .i64 0, .int .i64 0, .string ⟨#[]⟩, .slice none 0 0] 28)) := ⟨_, rfl⟩
  have bA : Hid (Blk W3 w.heap.size #[.int .i64 kx, .int .i64 nx, .string tx, .slice p l c] 28) := by show Blk _ _ _ _; rw [hW3]; exact Blk.new.alloc.alloc
  have bB : Hid (Blk W3 (w.heap.size + 1) #[.int .i64 ky, .int .i64 ny, .string ty, .slice q m e_] 28) := by
    show Blk _ _ _ _
    rw [hW3]
    have := (Blk.new (w := (w.alloc (.cells #[.int .i64 kx, .int .i64 nx, .string tx, .slice p l c] 28))) (cs := #[.int .i64 ky, .int .i64 ny, .string ty, .slice q m e_]) (t := 28)).alloc (o := .cells #[.int .i64 0, .int .i64 0, .string ⟨#[]⟩, .slice none 0 0] 28)
    simp only [alloc_hs] at this
    exact this
  have bR : Hid (Blk W3 (w.heap.size + 1 + 1) #[.int .i64 0, .int .i64 0, .string ⟨#[]⟩, .slice none 0 0] 28) := by
    show Blk _ _ _ _
    rw [hW3]
    have := Blk.new (w := ((w.alloc (.cells #[.int .i64 kx, .int .i64 nx, .string tx, .slice p l c] 28)).alloc (.cells #[.int .i64 ky, .int .i64 ny, .string ty, .slice q m e_] 28))) (cs := #[.int .i64 0, .int .i64 0, .string ⟨#[]⟩, .slice none 0 0]) (t := 28)
    simp only [alloc_hs] at this
    exact this
  have B3 : Hid (Below w.heap.size w W3) := by show Below _ _ _; rw [hW3]; exact (((Below.refl _ _).alloc (Nat.le_refl _) _).alloc (by simp only [alloc_hs]; omega) _).alloc (by simp only [alloc_hs]; omega) _
  have HW3 : Hid (W3 = (((w.alloc (.cells #[.int .i64 kx, .int .i64 nx, .string tx, .slice p l c] 28)).alloc (.cells #[.int .i64 ky, .int .i64 ny, .string ty, .slice q m e_] 28)).alloc (.cells #[.int .i64 0, .int .i64 0, .string ⟨#[]⟩, .slice none 0 0] 28))) := hW3
  clear hW3 h0 h1
  by_cases q1 : op.toList = [61, 61]
  · have e1 := lst_eq q1
    have R1 : reck d op.toList x y = ((1, 0, if cmpVa d x y = 0 then trueB else falseB), true) := by unfold reck; rw [if_pos q1]
    clear q1
    go_enter Try.func7, Try.ntmps7
    go_wp2_with fail
    rw [← HW3.out]
    refine (implCmp_all d _ _ _ x y ⟨_, rfl, G0 _ B3.out⟩ ⟨_, rfl, G1 _ B3.out⟩).mono ?_
    rintro e w4 ⟨rfl, hb4⟩
    have K4 : Hid (Below W3.heap.size W3 w4) := hb4
    clear hb4
    go_wp2_with fail
    refine (truth_any _ _).mono ?_
    rintro e w5 ⟨rfl, hb5⟩
    have K5 : Hid (Below W3.heap.size W3 w5) := K4.out.trans (hb5.mono K4.out.size)
    clear hb5
    generalize ht : (if (cmpVa d x y == 0) = true then trueB else falseB) = tt at *
    have HS : Hid (reck d op.toList x y = ((1, 0, tt), true)) := by
      show _ = _
      rw [← ht, R1]; simp
    clear ht
    have b4 := bR.out.next K5.out
    have r0 := b4.cell 0 _ rfl
    have z0 := b4.frozen 0
    have r1 := b4.cell 1 _ rfl
    have z1 := b4.frozen 1
    have r2 := b4.cell 2 _ rfl
    have z2 := b4.frozen 2
    have r3 := b4.cell 3 _ rfl
    have z3 := b4.frozen 3
    have bF : Blk ((((w5.setCell ⟨w.heap.size + 1 + 1, 0, none⟩ (.int .i64 1)).setCell ⟨w.heap.size + 1 + 1, 1, none⟩ (.int .i64 0)).setCell ⟨w.heap.size + 1 + 1, 2, none⟩ (.string tt)).setCell ⟨w.heap.size + 1 + 1, 3, none⟩ (.slice none 0 0)) (w.heap.size + 1 + 1) #[.int .i64 1, .int .i64 0, .string tt, .slice none 0 0] 28 := (((b4.same (j := 0) (v := .int .i64 1) rfl).same (j := 1) (v := .int .i64 0) rfl).same (j := 2) (v := .string tt) rfl).same (j := 3) (v := .slice none 0 0) rfl
    have c0 := bF.cell 0 _ rfl
    have c1 := bF.cell 1 _ rfl
    have c2 := bF.cell 2 _ rfl
    have c3 := bF.cell 3 _ rfl
    have HBF : Hid (Below w.heap.size w ((((w5.setCell ⟨w.heap.size + 1 + 1, 0, none⟩ (.int .i64 1)).setCell ⟨w.heap.size + 1 + 1, 1, none⟩ (.int .i64 0)).setCell ⟨w.heap.size + 1 + 1, 2, none⟩ (.string tt)).setCell ⟨w.heap.size + 1 + 1, 3, none⟩ (.slice none 0 0))) := Below.setCell (Below.setCell (Below.setCell (Below.setCell (B3.out.trans (K5.out.mono B3.out.size)) (by show _ ≤ w.heap.size + 1 + 1; omega) _) (by show _ ≤ w.heap.size + 1 + 1; omega) _) (by show _ ≤ w.heap.size + 1 + 1; omega) _) (by show _ ≤ w.heap.size + 1 + 1; omega) _
    clear b4 bF
    go_wp2_with fail
    exact bodyPost_ret (v := .tuple #[.agg #[.int .i64 1, .int .i64 0, .string tt, .slice none 0 0], .bool true]) (by simp [results, Try.results7, go_sem, c0, c1, c2, c3]) rfl ⟨by rw [HS.out]; rfl, HBF.out⟩
  have e1 := lst_ne q1
  by_cases q2 : op.toList = [60]
  · have e2 := lst_eq q2
    have R1 : reck d op.toList x y = ((1, 0, if cmpVa d x y < 0 then trueB else falseB), true) := by unfold reck; rw [if_neg q1, if_pos q2]
    clear q1 q2
    go_enter Try.func7, Try.ntmps7
    go_wp2_with fail
    rw [← HW3.out]
    refine (implCmp_all d _ _ _ x y ⟨_, rfl, G0 _ B3.out⟩ ⟨_, rfl, G1 _ B3.out⟩).mono ?_
    rintro e w4 ⟨rfl, hb4⟩
    have K4 : Hid (Below W3.heap.size W3 w4) := hb4
    clear hb4
    go_wp2_with fail
    refine (truth_any _ _).mono ?_
    rintro e w5 ⟨rfl, hb5⟩
    have K5 : Hid (Below W3.heap.size W3 w5) := K4.out.trans (hb5.mono K4.out.size)
    clear hb5
    generalize ht : (if decide (cmpVa d x y < 0) = true then trueB else falseB) = tt at *
    have HS : Hid (reck d op.toList x y = ((1, 0, tt), true)) := by
      show _ = _
      rw [← ht, R1]; simp
    clear ht
    have b4 := bR.out.next K5.out
    have r0 := b4.cell 0 _ rfl
    have z0 := b4.frozen 0
    have r1 := b4.cell 1 _ rfl
    have z1 := b4.frozen 1
    have r2 := b4.cell 2 _ rfl
    have z2 := b4.frozen 2
    have r3 := b4.cell 3 _ rfl
    have z3 := b4.frozen 3
    have bF : Blk ((((w5.setCell ⟨w.heap.size + 1 + 1, 0, none⟩ (.int .i64 1)).setCell ⟨w.heap.size + 1 + 1, 1, none⟩ (.int .i64 0)).setCell ⟨w.heap.size + 1 + 1, 2, none⟩ (.string tt)).setCell ⟨w.heap.size + 1 + 1, 3, none⟩ (.slice none 0 0)) (w.heap.size + 1 + 1) #[.int .i64 1, .int .i64 0, .string tt, .slice none 0 0] 28 := (((b4.same (j := 0) (v := .int .i64 1) rfl).same (j := 1) (v := .int .i64 0) rfl).same (j := 2) (v := .string tt) rfl).same (j := 3) (v := .slice none 0 0) rfl
    have c0 := bF.cell 0 _ rfl
    have c1 := bF.cell 1 _ rfl
    have c2 := bF.cell 2 _ rfl
    have c3 := bF.cell 3 _ rfl
    have HBF : Hid (Below w.heap.size w ((((w5.setCell ⟨w.heap.size + 1 + 1, 0, none⟩ (.int .i64 1)).setCell ⟨w.heap.size + 1 + 1, 1, none⟩ (.int .i64 0)).setCell ⟨w.heap.size + 1 + 1, 2, none⟩ (.string tt)).setCell ⟨w.heap.size + 1 + 1, 3, none⟩ (.slice none 0 0))) := Below.setCell (Below.setCell (Below.setCell (Below.setCell (B3.out.trans (K5.out.mono B3.out.size)) (by show _ ≤ w.heap.size + 1 + 1; omega) _) (by show _ ≤ w.heap.size + 1 + 1; omega) _) (by show _ ≤ w.heap.size + 1 + 1; omega) _) (by show _ ≤ w.heap.size + 1 + 1; omega) _
    clear b4 bF
    go_wp2_with fail
    exact bodyPost_ret (v := .tuple #[.agg #[.int .i64 1, .int .i64 0, .string tt, .slice none 0 0], .bool true]) (by simp [results, Try.results7, go_sem, c0, c1, c2, c3]) rfl ⟨by rw [HS.out]; rfl, HBF.out⟩
  have e2 := lst_ne q2
  by_cases k1 : kx = 0
  · have n1 : numK kx = true := by unfold numK; simpa using k1
    by_cases k2 : ky = 0
    · have n2 : numK ky = true := by unfold numK; simpa using k2
      have m1 : numN kx nx = nx := if_pos k1
      have m2 : numN ky ny = ny := if_pos k2
      have HS : Hid (reck d op.toList x y = reckN op.toList nx ny) := by
        show _ = _
        unfold reck reckN
        rw [if_neg q1, if_neg q2, if_neg (by rw [hkx, hky]; simp [k1, k2]), hnx, hny]
      clear q1 q2 k1 k2
      go_enter Try.func7, Try.ntmps7
      go_wp2_with fail
      rw [← HW3.out]
      refine (valueOf_any kx nx tx p l c x _ (G0 _ B3.out)).mono ?_
      rintro e w4 ⟨u, v, rfl, NI, hb⟩
      have K4 : Hid (Below W3.heap.size W3 w4) := hb
      clear hb
      go_wp2_with fail
      refine (numberOf_any NI _).mono ?_
      rintro e w5 ⟨rfl, hb⟩
      clear NI
      have K5 : Hid (Below W3.heap.size W3 w5) := K4.out.trans (hb.mono K4.out.size)
      clear hb
      have f0 := (bB.out.next K5.out).cell 0 _ rfl
      have f1 := (bB.out.next K5.out).cell 1 _ rfl
      have f2 := (bB.out.next K5.out).cell 2 _ rfl
      have f3 := (bB.out.next K5.out).cell 3 _ rfl
      go_wp2_with fail
      refine (valueOf_any ky ny ty q m e_ y _ (G1 _ (B3.out.trans (K5.out.mono B3.out.size)))).mono ?_
      rintro e w6 ⟨u2, v2, rfl, NI, hb⟩
      have K6 : Hid (Below W3.heap.size W3 w6) := K5.out.trans (hb.mono K5.out.size)
      clear hb
      clear f0 f1 f2 f3
      go_wp2_with fail
      refine (numberOf_any NI _).mono ?_
      rintro e w7 ⟨rfl, hb⟩
      clear NI
      have K7 : Hid (Below W3.heap.size W3 w7) := K6.out.trans (hb.mono K6.out.size)
      clear hb
      go_wp2_with fail
      refine (reckonNumbers_any op nx ny _).mono ?_
      rintro e w8 ⟨rfl, hb⟩
      unfold reckE
      have K8 : Hid (Below W3.heap.size W3 w8) := K7.out.trans (hb.mono K7.out.size)
      clear hb
      generalize hrn : reckN op.toList nx ny = rr at *
      obtain ⟨⟨ra, rb, rc⟩, rd⟩ := rr
      have b4 := bR.out.next K8.out
      have r0 := b4.cell 0 _ rfl
      have z0 := b4.frozen 0
      have r1 := b4.cell 1 _ rfl
      have z1 := b4.frozen 1
      have r2 := b4.cell 2 _ rfl
      have z2 := b4.frozen 2
      have r3 := b4.cell 3 _ rfl
      have z3 := b4.frozen 3
      have bF : Blk ((((w8.setCell ⟨w.heap.size + 1 + 1, 0, none⟩ (.int .i64 ra)).setCell ⟨w.heap.size + 1 + 1, 1, none⟩ (.int .i64 rb)).setCell ⟨w.heap.size + 1 + 1, 2, none⟩ (.string rc)).setCell ⟨w.heap.size + 1 + 1, 3, none⟩ (.slice none 0 0)) (w.heap.size + 1 + 1) #[.int .i64 ra, .int .i64 rb, .string rc, .slice none 0 0] 28 := (((b4.same (j := 0) (v := .int .i64 ra) rfl).same (j := 1) (v := .int .i64 rb) rfl).same (j := 2) (v := .string rc) rfl).same (j := 3) (v := .slice none 0 0) rfl
      have c0 := bF.cell 0 _ rfl
      have c1 := bF.cell 1 _ rfl
      have c2 := bF.cell 2 _ rfl
      have c3 := bF.cell 3 _ rfl
      have HBF : Hid (Below w.heap.size w ((((w8.setCell ⟨w.heap.size + 1 + 1, 0, none⟩ (.int .i64 ra)).setCell ⟨w.heap.size + 1 + 1, 1, none⟩ (.int .i64 rb)).setCell ⟨w.heap.size + 1 + 1, 2, none⟩ (.string rc)).setCell ⟨w.heap.size + 1 + 1, 3, none⟩ (.slice none 0 0))) := Below.setCell (Below.setCell (Below.setCell (Below.setCell (B3.out.trans (K8.out.mono B3.out.size)) (by show _ ≤ w.heap.size + 1 + 1; omega) _) (by show _ ≤ w.heap.size + 1 + 1; omega) _) (by show _ ≤ w.heap.size + 1 + 1; omega) _) (by show _ ≤ w.heap.size + 1 + 1; omega) _
      clear b4 bF
      go_wp2_with fail
      exact bodyPost_ret (v := .tuple #[.agg #[.int .i64 ra, .int .i64 rb, .string rc, .slice none 0 0], .bool rd]) (by simp [results, Try.results7, go_sem, c0, c1, c2, c3]) rfl ⟨by rw [HS.out]; rfl, HBF.out⟩
    · have n2 : numK ky = false := by unfold numK; simpa using k2
      have HS : Hid (reck d op.toList x y = ((0, 0, ⟨#[]⟩), false)) := by show _ = _; unfold reck; rw [if_neg q1, if_neg q2, if_pos (Or.inr (by rw [hky]; exact k2))]
      clear q1 q2
      clear k1 k2
      go_enter Try.func7, Try.ntmps7
      go_wp2_with fail
      rw [← HW3.out]
      refine (valueOf_any kx nx tx p l c x _ (G0 _ B3.out)).mono ?_
      rintro e w4 ⟨u, v, rfl, NI, hb⟩
      have K4 : Hid (Below W3.heap.size W3 w4) := hb
      clear hb
      go_wp2_with fail
      refine (numberOf_any NI _).mono ?_
      rintro e w5 ⟨rfl, hb⟩
      clear NI
      have K5 : Hid (Below W3.heap.size W3 w5) := K4.out.trans (hb.mono K4.out.size)
      clear hb
      have f0 := (bB.out.next K5.out).cell 0 _ rfl
      have f1 := (bB.out.next K5.out).cell 1 _ rfl
      have f2 := (bB.out.next K5.out).cell 2 _ rfl
      have f3 := (bB.out.next K5.out).cell 3 _ rfl
      go_wp2_with fail
      refine (valueOf_any ky ny ty q m e_ y _ (G1 _ (B3.out.trans (K5.out.mono B3.out.size)))).mono ?_
      rintro e w6 ⟨u2, v2, rfl, NI, hb⟩
      have K6 : Hid (Below W3.heap.size W3 w6) := K5.out.trans (hb.mono K5.out.size)
      clear hb
      clear f0 f1 f2 f3
      go_wp2_with fail
      refine (numberOf_any NI _).mono ?_
      rintro e w7 ⟨rfl, hb⟩
      clear NI
      have K7 : Hid (Below W3.heap.size W3 w7) := K6.out.trans (hb.mono K6.out.size)
      clear hb
      have b4 := bR.out.next K7.out
      have r0 := b4.cell 0 _ rfl
      have z0 := b4.frozen 0
      have r1 := b4.cell 1 _ rfl
      have z1 := b4.frozen 1
      have r2 := b4.cell 2 _ rfl
      have z2 := b4.frozen 2
      have r3 := b4.cell 3 _ rfl
      have z3 := b4.frozen 3
      have bF : Blk ((((w7.setCell ⟨w.heap.size + 1 + 1, 0, none⟩ (.int .i64 0)).setCell ⟨w.heap.size + 1 + 1, 1, none⟩ (.int .i64 0)).setCell ⟨w.heap.size + 1 + 1, 2, none⟩ (.string ⟨#[]⟩)).setCell ⟨w.heap.size + 1 + 1, 3, none⟩ (.slice none 0 0)) (w.heap.size + 1 + 1) #[.int .i64 0, .int .i64 0, .string ⟨#[]⟩, .slice none 0 0] 28 := (((b4.same (j := 0) (v := .int .i64 0) rfl).same (j := 1) (v := .int .i64 0) rfl).same (j := 2) (v := .string ⟨#[]⟩) rfl).same (j := 3) (v := .slice none 0 0) rfl
      have c0 := bF.cell 0 _ rfl
      have c1 := bF.cell 1 _ rfl
      have c2 := bF.cell 2 _ rfl
      have c3 := bF.cell 3 _ rfl
      have HBF : Hid (Below w.heap.size w ((((w7.setCell ⟨w.heap.size + 1 + 1, 0, none⟩ (.int .i64 0)).setCell ⟨w.heap.size + 1 + 1, 1, none⟩ (.int .i64 0)).setCell ⟨w.heap.size + 1 + 1, 2, none⟩ (.string ⟨#[]⟩)).setCell ⟨w.heap.size + 1 + 1, 3, none⟩ (.slice none 0 0))) := Below.setCell (Below.setCell (Below.setCell (Below.setCell (B3.out.trans (K7.out.mono B3.out.size)) (by show _ ≤ w.heap.size + 1 + 1; omega) _) (by show _ ≤ w.heap.size + 1 + 1; omega) _) (by show _ ≤ w.heap.size + 1 + 1; omega) _) (by show _ ≤ w.heap.size + 1 + 1; omega) _
      clear b4 bF
      go_wp2_with fail
      exact bodyPost_ret (v := .tuple #[.agg #[.int .i64 0, .int .i64 0, .string ⟨#[]⟩, .slice none 0 0], .bool false]) (by simp [results, Try.results7, go_sem, c0, c1, c2, c3]) rfl ⟨by rw [HS.out]; rfl, HBF.out⟩
  · have n1 : numK kx = false := by unfold numK; simpa using k1
    have HS : Hid (reck d op.toList x y = ((0, 0, ⟨#[]⟩), false)) := by show _ = _; unfold reck; rw [if_neg q1, if_neg q2, if_pos (Or.inl (by rw [hkx]; exact k1))]
    clear q1 q2
    clear k1
    go_enter Try.func7, Try.ntmps7
    go_wp2_with fail
    rw [← HW3.out]
    refine (valueOf_any kx nx tx p l c x _ (G0 _ B3.out)).mono ?_
    rintro e w4 ⟨u, v, rfl, NI, hb⟩
    have K4 : Hid (Below W3.heap.size W3 w4) := hb
    clear hb
    go_wp2_with fail
    refine (numberOf_any NI _).mono ?_
    rintro e w5 ⟨rfl, hb⟩
    clear NI
    have K5 : Hid (Below W3.heap.size W3 w5) := K4.out.trans (hb.mono K4.out.size)
    clear hb
    have f0 := (bB.out.next K5.out).cell 0 _ rfl
    have f1 := (bB.out.next K5.out).cell 1 _ rfl
    have f2 := (bB.out.next K5.out).cell 2 _ rfl
    have f3 := (bB.out.next K5.out).cell 3 _ rfl
    go_wp2_with fail
    refine (valueOf_any ky ny ty q m e_ y _ (G1 _ (B3.out.trans (K5.out.mono B3.out.size)))).mono ?_
    rintro e w6 ⟨u2, v2, rfl, NI, hb⟩
    have K6 : Hid (Below W3.heap.size W3 w6) := K5.out.trans (hb.mono K5.out.size)
    clear hb
    clear f0 f1 f2 f3
    go_wp2_with fail
    refine (numberOf_any NI _).mono ?_
    rintro e w7 ⟨rfl, hb⟩
    clear NI
    have K7 : Hid (Below W3.heap.size W3 w7) := K6.out.trans (hb.mono K6.out.size)
    clear hb
    have b4 := bR.out.next K7.out
    have r0 := b4.cell 0 _ rfl
    have z0 := b4.frozen 0
    have r1 := b4.cell 1 _ rfl
    have z1 := b4.frozen 1
    have r2 := b4.cell 2 _ rfl
    have z2 := b4.frozen 2
    have r3 := b4.cell 3 _ rfl
    have z3 := b4.frozen 3
    have bF : Blk ((((w7.setCell ⟨w.heap.size + 1 + 1, 0, none⟩ (.int .i64 0)).setCell ⟨w.heap.size + 1 + 1, 1, none⟩ (.int .i64 0)).setCell ⟨w.heap.size + 1 + 1, 2, none⟩ (.string ⟨#[]⟩)).setCell ⟨w.heap.size + 1 + 1, 3, none⟩ (.slice none 0 0)) (w.heap.size + 1 + 1) #[.int .i64 0, .int .i64 0, .string ⟨#[]⟩, .slice none 0 0] 28 := (((b4.same (j := 0) (v := .int .i64 0) rfl).same (j := 1) (v := .int .i64 0) rfl).same (j := 2) (v := .string ⟨#[]⟩) rfl).same (j := 3) (v := .slice none 0 0) rfl
    have c0 := bF.cell 0 _ rfl
    have c1 := bF.cell 1 _ rfl
    have c2 := bF.cell 2 _ rfl
    have c3 := bF.cell 3 _ rfl
    have HBF : Hid (Below w.heap.size w ((((w7.setCell ⟨w.heap.size + 1 + 1, 0, none⟩ (.int .i64 0)).setCell ⟨w.heap.size + 1 + 1, 1, none⟩ (.int .i64 0)).setCell ⟨w.heap.size + 1 + 1, 2, none⟩ (.string ⟨#[]⟩)).setCell ⟨w.heap.size + 1 + 1, 3, none⟩ (.slice none 0 0))) := Below.setCell (Below.setCell (Below.setCell (Below.setCell (B3.out.trans (K7.out.mono B3.out.size)) (by show _ ≤ w.heap.size + 1 + 1; omega) _) (by show _ ≤ w.heap.size + 1 + 1; omega) _) (by show _ ≤ w.heap.size + 1 + 1; omega) _) (by show _ ≤ w.heap.size + 1 + 1; omega) _
    clear b4 bF
    go_wp2_with fail
    exact bodyPost_ret (v := .tuple #[.agg #[.int .i64 0, .int .i64 0, .string ⟨#[]⟩, .slice none 0 0], .bool false]) (by simp [results, Try.results7, go_sem, c0, c1, c2, c3]) rfl ⟨by rw [HS.out]; rfl, HBF.out⟩
end Go.Proofs.Ytopjelgeedhkiab
