/-
  Texts of the proof, packed: ReckImpl, TextSpec.
-/
import Derived.Test.YtmnghlkkfkpjhaaGreatDoorPackP
import Derived.Test.YtmnghlkkfkpjhaaGreatDoorPackE
import Derived.Test.YtmnghlkkfkpjhaaGreatDoorPackD
/-
  The program's Reckon, by contract.
-/
namespace Go.Proofs.YtmnghlkkfkpjhaaGreatDoor
open Go.ChangeShapes Go.WideShapes Go.ChangeAt Go.RowKit
set_option linter.unusedVariables false

theorem truth_any (b : Bool) (w : World) : Calls Tryz.prog 43 #[.bool b] w fun e w' => e = .returned (.agg #[.int .i64 1, .int .i64 0, .string (if b = true then trueB else falseB), .slice none 0 0]) ∧ Below w.heap.size w w' := by
  cases b with
  | true =>
    go_enter Tryz.func43, Tryz.ntmps43
    go_wp2
    exact bodyPost_ret (v := .agg #[.int .i64 1, .int .i64 0, .string trueB, .slice none 0 0]) (by simp [results, Tryz.results43, go_sem, trueB]) rfl ⟨rfl, (Below.refl _ _).alloc (Nat.le_refl _) _⟩
  | false =>
    go_enter Tryz.func43, Tryz.ntmps43
    go_wp2
    exact bodyPost_ret (v := .agg #[.int .i64 1, .int .i64 0, .string falseB, .slice none 0 0]) (by simp [results, Tryz.results43, go_sem, falseB]) rfl ⟨rfl, (Below.refl _ _).alloc (Nat.le_refl _) _⟩

/-- The types of what is no number. -/
def othT (u : TypeId) : Prop := u = 89 ∨ u = 91 ∨ u = 95 ∨ u = 96 ∨ u = 99

theorem valueOf_num (n : Int) (t : ByteArray) (p : Option Addr) (l c : Nat) (w : World) : Calls Tryz.prog 45 #[.agg #[.int .i64 0, .int .i64 n, .string t, .slice p l c]] w fun e w' => e = .returned (.iface 87 (.agg #[.int .i64 n])) ∧ Below w.heap.size w w' := by
  go_enter Tryz.func45, Tryz.ntmps45
  go_wp2
  go_ret
  exact ⟨rfl, (Below.refl _ _).alloc (Nat.le_refl _) _⟩

set_option maxHeartbeats 4000000 in
set_option maxRecDepth 100000 in
theorem valueOf_oth {d : Nat} (k n : Int) (t : ByteArray) (p : Option Addr) (l c : Nat) (x : Va) (w : World) (h : HVa w All d [.int .i64 k, .int .i64 n, .string t, .slice p l c] x) (hk : ¬ k = 0) :
    Calls Tryz.prog 45 #[.agg #[.int .i64 k, .int .i64 n, .string t, .slice p l c]] w fun e w' => (∃ u v, e = .returned (.iface u v) ∧ othT u) ∧ Below w.heap.size w w' := by
  have BL : Hid (Below w.heap.size w (w.alloc (.cells #[.int .i64 k, .int .i64 n, .string t, .slice p l c] 26))) := (Below.refl _ _).alloc (Nat.le_refl _) _
  by_cases k4 : k = 4
  · subst k4
    go_enter Tryz.func45, Tryz.ntmps45
    go_wp2
    go_ret
    exact ⟨⟨_, _, rfl, Or.inr (Or.inr (Or.inr (Or.inl rfl)))⟩, BL.out⟩
  by_cases k1 : k = 1
  · subst k1
    go_enter Tryz.func45, Tryz.ntmps45
    go_wp2
    go_ret
    exact ⟨⟨_, _, rfl, Or.inl rfl⟩, BL.out⟩
  by_cases k2 : k = 2
  · subst k2
    go_enter Tryz.func45, Tryz.ntmps45
    go_wp2
    go_ret
    exact ⟨⟨_, _, rfl, Or.inr (Or.inl rfl)⟩, BL.out⟩
  by_cases k3 : k = 3
  · subst k3
    go_enter Tryz.func45, Tryz.ntmps45
    go_wp2
    go_ret
    exact ⟨⟨_, _, rfl, Or.inr (Or.inr (Or.inl rfl))⟩, BL.out⟩
  go_enter Tryz.func45, Tryz.ntmps45
  go_wp2
  go_ret
  exact ⟨⟨_, _, rfl, Or.inr (Or.inr (Or.inr (Or.inr rfl)))⟩, BL.out⟩

theorem assertNum_yes (v : Value) (w : World) : (Instr.typeAssert (.iface 87 v) 71 87 true).run Tryz.prog w = .ok (.tuple #[v, .bool true]) w := by kernel_rfl
theorem assertNum_no {u : TypeId} (h : othT u) (v : Value) (w : World) : (Instr.typeAssert (.iface u v) 71 87 true).run Tryz.prog w = .ok (.tuple #[.agg #[.int .i64 0], .bool false]) w := by
  rcases h with rfl | rfl | rfl | rfl | rfl <;> kernel_rfl

theorem numberOf_yes (n : Int) (w : World) : Calls Tryz.prog 44 #[.iface 87 (.agg #[.int .i64 n])] w fun e w' => e = .returned (.tuple #[.int .i64 n, .bool true]) ∧ Below w.heap.size w w' := by
  have hy := assertNum_yes
  go_enter Tryz.func44, Tryz.ntmps44
  go_wp2
  exact bodyPost_ret (v := .tuple #[.int .i64 n, .bool true]) (by simp [results, Tryz.results44, go_sem]) rfl ⟨rfl, by first | exact Below.refl _ _ | exact (Below.refl _ _).alloc (Nat.le_refl _) _⟩
theorem numberOf_no {u : TypeId} (v : Value) (h : othT u) (w : World) : Calls Tryz.prog 44 #[.iface u v] w fun e w' => e = .returned (.tuple #[.int .i64 0, .bool false]) ∧ Below w.heap.size w w' := by
  have hy := assertNum_no h
  go_enter Tryz.func44, Tryz.ntmps44
  go_wp2
  exact bodyPost_ret (v := .tuple #[.int .i64 0, .bool false]) (by simp [results, Tryz.results44, go_sem]) rfl ⟨rfl, by first | exact Below.refl _ _ | exact (Below.refl _ _).alloc (Nat.le_refl _) _⟩

/-- What reckonNumbers answers. -/
def reckN (op : List UInt8) (a b : Int) : (Int × Int × ByteArray) × Bool :=
  if op = [43] then ((0, wrap64 (a + b), ⟨#[]⟩), true)
  else if op = [45] then ((0, wrap64 (a - b), ⟨#[]⟩), true)
  else if op = [42] then ((0, wrap64 (a * b), ⟨#[]⟩), true)
  else ((0, 0, ⟨#[]⟩), false)
theorem reckonNumbers_any (op : ByteArray) (a b : Int) (w : World) : Calls Tryz.prog 46 #[.string op, .int .i64 a, .int .i64 b] w fun e w' => e = .returned (reckE (reckN op.toList a b)) ∧ Below w.heap.size w w' := by
  by_cases q3 : op.toList = [43]
  · have e3 := lst_eq q3
    have HS : Hid (reckN op.toList a b = ((0, wrap64 (a + b), ⟨#[]⟩), true)) := if_pos q3
    clear q3
    go_enter Tryz.func46, Tryz.ntmps46
    go_wp2
    exact bodyPost_ret (v := .tuple #[.agg #[.int .i64 0, .int .i64 (wrap64 (a + b)), .string ⟨#[]⟩, .slice none 0 0], .bool true]) (by simp [results, Tryz.results46, go_sem]) rfl ⟨by rw [HS.out]; rfl, (Below.refl _ _).alloc (Nat.le_refl _) _⟩
  have e3 := lst_ne q3
  by_cases q4 : op.toList = [45]
  · have e4 := lst_eq q4
    have HS : Hid (reckN op.toList a b = ((0, wrap64 (a - b), ⟨#[]⟩), true)) := by show _ = _; unfold reckN; rw [if_neg q3, if_pos q4]
    clear q3 q4
    go_enter Tryz.func46, Tryz.ntmps46
    go_wp2
    exact bodyPost_ret (v := .tuple #[.agg #[.int .i64 0, .int .i64 (wrap64 (a - b)), .string ⟨#[]⟩, .slice none 0 0], .bool true]) (by simp [results, Tryz.results46, go_sem]) rfl ⟨by rw [HS.out]; rfl, (Below.refl _ _).alloc (Nat.le_refl _) _⟩
  have e4 := lst_ne q4
  by_cases q5 : op.toList = [42]
  · have e5 := lst_eq q5
    have HS : Hid (reckN op.toList a b = ((0, wrap64 (a * b), ⟨#[]⟩), true)) := by show _ = _; unfold reckN; rw [if_neg q3, if_neg q4, if_pos q5]
    clear q3 q4 q5
    go_enter Tryz.func46, Tryz.ntmps46
    go_wp2
    exact bodyPost_ret (v := .tuple #[.agg #[.int .i64 0, .int .i64 (wrap64 (a * b)), .string ⟨#[]⟩, .slice none 0 0], .bool true]) (by simp [results, Tryz.results46, go_sem]) rfl ⟨by rw [HS.out]; rfl, (Below.refl _ _).alloc (Nat.le_refl _) _⟩
  have e5 := lst_ne q5
  have HS : Hid (reckN op.toList a b = ((0, 0, ⟨#[]⟩), false)) := by show _ = _; unfold reckN; rw [if_neg q3, if_neg q4, if_neg q5]
  clear q3 q4 q5
  go_enter Tryz.func46, Tryz.ntmps46
  go_wp2
  exact bodyPost_ret (v := .tuple #[.agg #[.int .i64 0, .int .i64 0, .string ⟨#[]⟩, .slice none 0 0], .bool false]) (by simp [results, Tryz.results46, go_sem]) rfl ⟨by rw [HS.out]; rfl, (Below.refl _ _).alloc (Nat.le_refl _) _⟩

def NumI (k n : Int) (u : TypeId) (v : Value) : Prop := (k = 0 ∧ u = 87 ∧ v = .agg #[.int .i64 n]) ∨ (¬ k = 0 ∧ othT u)
def numN (k n : Int) : Int := if k = 0 then n else 0
def numK (k : Int) : Bool := decide (k = 0)
theorem valueOf_any {d : Nat} (k n : Int) (t : ByteArray) (p : Option Addr) (l c : Nat) (x : Va) (w : World) (h : HVa w All d [.int .i64 k, .int .i64 n, .string t, .slice p l c] x) :
    Calls Tryz.prog 45 #[.agg #[.int .i64 k, .int .i64 n, .string t, .slice p l c]] w fun e w' => ∃ u v, e = .returned (.iface u v) ∧ NumI k n u v ∧ Below w.heap.size w w' := by
  by_cases hk : k = 0
  · subst hk
    exact (valueOf_num n t p l c w).mono fun e w' h => ⟨_, _, h.1, Or.inl ⟨rfl, rfl, rfl⟩, h.2⟩
  · exact (valueOf_oth k n t p l c x w h hk).mono fun e w' h => by obtain ⟨⟨u, v, h1, h2⟩, h3⟩ := h; exact ⟨u, v, h1, Or.inr ⟨hk, h2⟩, h3⟩
theorem numberOf_any {k n : Int} {u : TypeId} {v : Value} (h : NumI k n u v) (w : World) : Calls Tryz.prog 44 #[.iface u v] w fun e w' => e = .returned (.tuple #[.int .i64 (numN k n), .bool (numK k)]) ∧ Below w.heap.size w w' := by
  rcases h with ⟨rfl, rfl, rfl⟩ | ⟨hk, h⟩
  · exact numberOf_yes n w
  · have e1 : numN k n = 0 := if_neg hk
    have e2 : numK k = false := by unfold numK; simpa using hk
    rw [e1, e2]; exact numberOf_no v h w

set_option maxHeartbeats 4000000 in
set_option maxRecDepth 100000 in
theorem implReckon_any (d : Nat) (w : World) (op : ByteArray) (cs0 cs1 : List Value) (x y : Va) (h0 : HVa w All d cs0 x) (h1 : HVa w All d cs1 y) :
    Calls Tryz.prog 14 #[.string op, .agg cs0.toArray, .agg cs1.toArray] w fun e w' => e = .returned (reckE (reck d op.toList x y)) ∧ Below w.heap.size w w' := by
  obtain ⟨kx, nx, tx, p, l, c, rfl⟩ := h0.shape
  obtain ⟨ky, ny, ty, q, m, e_, rfl⟩ := h1.shape
  obtain ⟨hkx, hnx⟩ := h0.scal
  obtain ⟨hky, hny⟩ := h1.scal
  have G0 : ∀ w', Below w.heap.size w w' → HVa w' All d [.int .i64 kx, .int .i64 nx, .string tx, .slice p l c] x := fun w' hw => h0.mono (SameOn.of_below hw) (fun _ h => h)
  have G1 : ∀ w', Below w.heap.size w w' → HVa w' All d [.int .i64 ky, .int .i64 ny, .string ty, .slice q m e_] y := fun w' hw => h1.mono (SameOn.of_below hw) (fun _ h => h)
  obtain ⟨W3, hW3⟩ : ∃ W3, W3 = (((w.alloc (.cells #[.int .i64 kx, .int .i64 nx, .string tx, .slice p l c] 26)).alloc (.cells #[.int .i64 ky, .int .i64 ny, .string ty, .slice q m e_] 26)).alloc (.cells #[.int .i64 0, .int .i64 0, .string ⟨#[]⟩, .slice none 0 0] 26)) := ⟨_, rfl⟩
  have bA : Hid (Blk W3 w.heap.size #[.int .i64 kx, .int .i64 nx, .string tx, .slice p l c] 26) := by show Blk _ _ _ _; rw [hW3]; exact Blk.new.alloc.alloc
  have bB : Hid (Blk W3 (w.heap.size + 1) #[.int .i64 ky, .int .i64 ny, .string ty, .slice q m e_] 26) := by
    show Blk _ _ _ _
    rw [hW3]
    have := (Blk.new (w := (w.alloc (.cells #[.int .i64 kx, .int .i64 nx, .string tx, .slice p l c] 26))) (cs := #[.int .i64 ky, .int .i64 ny, .string ty, .slice q m e_]) (t := 26)).alloc (o := .cells #[.int .i64 0, .int .i64 0, .string ⟨#[]⟩, .slice none 0 0] 26)
    simp only [alloc_hs] at this
    exact this
  have bR : Hid (Blk W3 (w.heap.size + 1 + 1) #[.int .i64 0, .int .i64 0, .string ⟨#[]⟩, .slice none 0 0] 26) := by
    show Blk _ _ _ _
    rw [hW3]
    have := Blk.new (w := ((w.alloc (.cells #[.int .i64 kx, .int .i64 nx, .string tx, .slice p l c] 26)).alloc (.cells #[.int .i64 ky, .int .i64 ny, .string ty, .slice q m e_] 26))) (cs := #[.int .i64 0, .int .i64 0, .string ⟨#[]⟩, .slice none 0 0]) (t := 26)
    simp only [alloc_hs] at this
    exact this
  have B3 : Hid (Below w.heap.size w W3) := by show Below _ _ _; rw [hW3]; exact (((Below.refl _ _).alloc (Nat.le_refl _) _).alloc (by simp only [alloc_hs]; omega) _).alloc (by simp only [alloc_hs]; omega) _
  have HW3 : Hid (W3 = (((w.alloc (.cells #[.int .i64 kx, .int .i64 nx, .string tx, .slice p l c] 26)).alloc (.cells #[.int .i64 ky, .int .i64 ny, .string ty, .slice q m e_] 26)).alloc (.cells #[.int .i64 0, .int .i64 0, .string ⟨#[]⟩, .slice none 0 0] 26))) := hW3
  clear hW3 h0 h1
  by_cases q1 : op.toList = [61, 61]
  · have e1 := lst_eq q1
    have R1 : reck d op.toList x y = ((1, 0, if cmpVa d x y = 0 then trueB else falseB), true) := by unfold reck; rw [if_pos q1]
    clear q1
    go_enter Tryz.func14, Tryz.ntmps14
    go_wp2_with fail
    rw [← HW3.out]
    refine (implCmp_all d _ _ _ x y ⟨_, rfl, G0 _ B3.out⟩ ⟨_, rfl, G1 _ B3.out⟩).mono ?_
    rintro e w4 ⟨rfl, hb4⟩
    have K4 : Hid (Below W3.heap.size W3 w4) := hb4
    clear hb4
    go_wp2_with fail
    refine (truth_any _ _).mono ?_
    rintro e w5 ⟨rfl, hb5⟩
    have K5 : Hid (Below W3.heap.size W3 w5) := K4.out.trans (hb5.mono K4.out.size)
    clear hb5
    generalize ht : (if (cmpVa d x y == 0) = true then trueB else falseB) = tt at *
    have HS : Hid (reck d op.toList x y = ((1, 0, tt), true)) := by
      show _ = _
      rw [← ht, R1]; simp
    clear ht
    have b4 := bR.out.next K5.out
    have r0 := b4.cell 0 _ rfl
    have z0 := b4.frozen 0
    have r1 := b4.cell 1 _ rfl
    have z1 := b4.frozen 1
    have r2 := b4.cell 2 _ rfl
    have z2 := b4.frozen 2
    have r3 := b4.cell 3 _ rfl
    have z3 := b4.frozen 3
    have bF : Blk ((((w5.setCell ⟨w.heap.size + 1 + 1, 0, none⟩ (.int .i64 1)).setCell ⟨w.heap.size + 1 + 1, 1, none⟩ (.int .i64 0)).setCell ⟨w.heap.size + 1 + 1, 2, none⟩ (.string tt)).setCell ⟨w.heap.size + 1 + 1, 3, none⟩ (.slice none 0 0)) (w.heap.size + 1 + 1) #[.int .i64 1, .int .i64 0, .string tt, .slice none 0 0] 26 := (((b4.same (j := 0) (v := .int .i64 1) rfl).same (j := 1) (v := .int .i64 0) rfl).same (j := 2) (v := .string tt) rfl).same (j := 3) (v := .slice none 0 0) rfl
    have c0 := bF.cell 0 _ rfl
    have c1 := bF.cell 1 _ rfl
    have c2 := bF.cell 2 _ rfl
    have c3 := bF.cell 3 _ rfl
    have HBF : Hid (Below w.heap.size w ((((w5.setCell ⟨w.heap.size + 1 + 1, 0, none⟩ (.int .i64 1)).setCell ⟨w.heap.size + 1 + 1, 1, none⟩ (.int .i64 0)).setCell ⟨w.heap.size + 1 + 1, 2, none⟩ (.string tt)).setCell ⟨w.heap.size + 1 + 1, 3, none⟩ (.slice none 0 0))) := Below.setCell (Below.setCell (Below.setCell (Below.setCell (B3.out.trans (K5.out.mono B3.out.size)) (by show _ ≤ w.heap.size + 1 + 1; omega) _) (by show _ ≤ w.heap.size + 1 + 1; omega) _) (by show _ ≤ w.heap.size + 1 + 1; omega) _) (by show _ ≤ w.heap.size + 1 + 1; omega) _
    clear b4 bF
    go_wp2_with fail
    exact bodyPost_ret (v := .tuple #[.agg #[.int .i64 1, .int .i64 0, .string tt, .slice none 0 0], .bool true]) (by simp [results, Tryz.results14, go_sem, c0, c1, c2, c3]) rfl ⟨by rw [HS.out]; rfl, HBF.out⟩
  have e1 := lst_ne q1
  by_cases q2 : op.toList = [60]
  · have e2 := lst_eq q2
    have R1 : reck d op.toList x y = ((1, 0, if cmpVa d x y < 0 then trueB else falseB), true) := by unfold reck; rw [if_neg q1, if_pos q2]
    clear q1 q2
    go_enter Tryz.func14, Tryz.ntmps14
    go_wp2_with fail
    rw [← HW3.out]
    refine (implCmp_all d _ _ _ x y ⟨_, rfl, G0 _ B3.out⟩ ⟨_, rfl, G1 _ B3.out⟩).mono ?_
    rintro e w4 ⟨rfl, hb4⟩
    have K4 : Hid (Below W3.heap.size W3 w4) := hb4
    clear hb4
    go_wp2_with fail
    refine (truth_any _ _).mono ?_
    rintro e w5 ⟨rfl, hb5⟩
    have K5 : Hid (Below W3.heap.size W3 w5) := K4.out.trans (hb5.mono K4.out.size)
    clear hb5
    generalize ht : (if decide (cmpVa d x y < 0) = true then trueB else falseB) = tt at *
    have HS : Hid (reck d op.toList x y = ((1, 0, tt), true)) := by
      show _ = _
      rw [← ht, R1]; simp
    clear ht
    have b4 := bR.out.next K5.out
    have r0 := b4.cell 0 _ rfl
    have z0 := b4.frozen 0
    have r1 := b4.cell 1 _ rfl
    have z1 := b4.frozen 1
    have r2 := b4.cell 2 _ rfl
    have z2 := b4.frozen 2
    have r3 := b4.cell 3 _ rfl
    have z3 := b4.frozen 3
    have bF : Blk ((((w5.setCell ⟨w.heap.size + 1 + 1, 0, none⟩ (.int .i64 1)).setCell ⟨w.heap.size + 1 + 1, 1, none⟩ (.int .i64 0)).setCell ⟨w.heap.size + 1 + 1, 2, none⟩ (.string tt)).setCell ⟨w.heap.size + 1 + 1, 3, none⟩ (.slice none 0 0)) (w.heap.size + 1 + 1) #[.int .i64 1, .int .i64 0, .string tt, .slice none 0 0] 26 := (((b4.same (j := 0) (v := .int .i64 1) rfl).same (j := 1) (v := .int .i64 0) rfl).same (j := 2) (v := .string tt) rfl).same (j := 3) (v := .slice none 0 0) rfl
    have c0 := bF.cell 0 _ rfl
    have c1 := bF.cell 1 _ rfl
    have c2 := bF.cell 2 _ rfl
    have c3 := bF.cell 3 _ rfl
    have HBF : Hid (Below w.heap.size w ((((w5.setCell ⟨w.heap.size + 1 + 1, 0, none⟩ (.int .i64 1)).setCell ⟨w.heap.size + 1 + 1, 1, none⟩ (.int .i64 0)).setCell ⟨w.heap.size + 1 + 1, 2, none⟩ (.string tt)).setCell ⟨w.heap.size + 1 + 1, 3, none⟩ (.slice none 0 0))) := Below.setCell (Below.setCell (Below.setCell (Below.setCell (B3.out.trans (K5.out.mono B3.out.size)) (by show _ ≤ w.heap.size + 1 + 1; omega) _) (by show _ ≤ w.heap.size + 1 + 1; omega) _) (by show _ ≤ w.heap.size + 1 + 1; omega) _) (by show _ ≤ w.heap.size + 1 + 1; omega) _
    clear b4 bF
    go_wp2_with fail
    exact bodyPost_ret (v := .tuple #[.agg #[.int .i64 1, .int .i64 0, .string tt, .slice none 0 0], .bool true]) (by simp [results, Tryz.results14, go_sem, c0, c1, c2, c3]) rfl ⟨by rw [HS.out]; rfl, HBF.out⟩
  have e2 := lst_ne q2
  by_cases k1 : kx = 0
  · have n1 : numK kx = true := by unfold numK; simpa using k1
    by_cases k2 : ky = 0
    · have n2 : numK ky = true := by unfold numK; simpa using k2
      have m1 : numN kx nx = nx := if_pos k1
      have m2 : numN ky ny = ny := if_pos k2
      have HS : Hid (reck d op.toList x y = reckN op.toList nx ny) := by
        show _ = _
        unfold reck reckN
        rw [if_neg q1, if_neg q2, if_neg (by rw [hkx, hky]; simp [k1, k2]), hnx, hny]
      clear q1 q2 k1 k2
      go_enter Tryz.func14, Tryz.ntmps14
      go_wp2_with fail
      rw [← HW3.out]
      refine (valueOf_any kx nx tx p l c x _ (G0 _ B3.out)).mono ?_
      rintro e w4 ⟨u, v, rfl, NI, hb⟩
      have K4 : Hid (Below W3.heap.size W3 w4) := hb
      clear hb
      go_wp2_with fail
      refine (numberOf_any NI _).mono ?_
      rintro e w5 ⟨rfl, hb⟩
      clear NI
      have K5 : Hid (Below W3.heap.size W3 w5) := K4.out.trans (hb.mono K4.out.size)
      clear hb
      have f0 := (bB.out.next K5.out).cell 0 _ rfl
      have f1 := (bB.out.next K5.out).cell 1 _ rfl
      have f2 := (bB.out.next K5.out).cell 2 _ rfl
      have f3 := (bB.out.next K5.out).cell 3 _ rfl
      go_wp2_with fail
      refine (valueOf_any ky ny ty q m e_ y _ (G1 _ (B3.out.trans (K5.out.mono B3.out.size)))).mono ?_
      rintro e w6 ⟨u2, v2, rfl, NI, hb⟩
      have K6 : Hid (Below W3.heap.size W3 w6) := K5.out.trans (hb.mono K5.out.size)
      clear hb
      clear f0 f1 f2 f3
      go_wp2_with fail
      refine (numberOf_any NI _).mono ?_
      rintro e w7 ⟨rfl, hb⟩
      clear NI
      have K7 : Hid (Below W3.heap.size W3 w7) := K6.out.trans (hb.mono K6.out.size)
      clear hb
      go_wp2_with fail
      refine (reckonNumbers_any op nx ny _).mono ?_
      rintro e w8 ⟨rfl, hb⟩
      unfold reckE
      have K8 : Hid (Below W3.heap.size W3 w8) := K7.out.trans (hb.mono K7.out.size)
      clear hb
      generalize hrn : reckN op.toList nx ny = rr at *
      obtain ⟨⟨ra, rb, rc⟩, rd⟩ := rr
      have b4 := bR.out.next K8.out
      have r0 := b4.cell 0 _ rfl
      have z0 := b4.frozen 0
      have r1 := b4.cell 1 _ rfl
      have z1 := b4.frozen 1
      have r2 := b4.cell 2 _ rfl
      have z2 := b4.frozen 2
      have r3 := b4.cell 3 _ rfl
      have z3 := b4.frozen 3
      have bF : Blk ((((w8.setCell ⟨w.heap.size + 1 + 1, 0, none⟩ (.int .i64 ra)).setCell ⟨w.heap.size + 1 + 1, 1, none⟩ (.int .i64 rb)).setCell ⟨w.heap.size + 1 + 1, 2, none⟩ (.string rc)).setCell ⟨w.heap.size + 1 + 1, 3, none⟩ (.slice none 0 0)) (w.heap.size + 1 + 1) #[.int .i64 ra, .int .i64 rb, .string rc, .slice none 0 0] 26 := (((b4.same (j := 0) (v := .int .i64 ra) rfl).same (j := 1) (v := .int .i64 rb) rfl).same (j := 2) (v := .string rc) rfl).same (j := 3) (v := .slice none 0 0) rfl
      have c0 := bF.cell 0 _ rfl
      have c1 := bF.cell 1 _ rfl
      have c2 := bF.cell 2 _ rfl
      have c3 := bF.cell 3 _ rfl
      have HBF : Hid (Below w.heap.size w ((((w8.setCell ⟨w.heap.size + 1 + 1, 0, none⟩ (.int .i64 ra)).setCell ⟨w.heap.size + 1 + 1, 1, none⟩ (.int .i64 rb)).setCell ⟨w.heap.size + 1 + 1, 2, none⟩ (.string rc)).setCell ⟨w.heap.size + 1 + 1, 3, none⟩ (.slice none 0 0))) := Below.setCell (Below.setCell (Below.setCell (Below.setCell (B3.out.trans (K8.out.mono B3.out.size)) (by show _ ≤ w.heap.size + 1 + 1; omega) _) (by show _ ≤ w.heap.size + 1 + 1; omega) _) (by show _ ≤ w.heap.size + 1 + 1; omega) _) (by show _ ≤ w.heap.size + 1 + 1; omega) _
      clear b4 bF
      go_wp2_with fail
      exact bodyPost_ret (v := .tuple #[.agg #[.int .i64 ra, .int .i64 rb, .string rc, .slice none 0 0], .bool rd]) (by simp [results, Tryz.results14, go_sem, c0, c1, c2, c3]) rfl ⟨by rw [HS.out]; rfl, HBF.out⟩
    · have n2 : numK ky = false := by unfold numK; simpa using k2
      have HS : Hid (reck d op.toList x y = ((0, 0, ⟨#[]⟩), false)) := by show _ = _; unfold reck; rw [if_neg q1, if_neg q2, if_pos (Or.inr (by rw [hky]; exact k2))]
      clear q1 q2
      clear k1 k2
      go_enter Tryz.func14, Tryz.ntmps14
      go_wp2_with fail
      rw [← HW3.out]
      refine (valueOf_any kx nx tx p l c x _ (G0 _ B3.out)).mono ?_
      rintro e w4 ⟨u, v, rfl, NI, hb⟩
      have K4 : Hid (Below W3.heap.size W3 w4) := hb
      clear hb
      go_wp2_with fail
      refine (numberOf_any NI _).mono ?_
      rintro e w5 ⟨rfl, hb⟩
      clear NI
      have K5 : Hid (Below W3.heap.size W3 w5) := K4.out.trans (hb.mono K4.out.size)
      clear hb
      have f0 := (bB.out.next K5.out).cell 0 _ rfl
      have f1 := (bB.out.next K5.out).cell 1 _ rfl
      have f2 := (bB.out.next K5.out).cell 2 _ rfl
      have f3 := (bB.out.next K5.out).cell 3 _ rfl
      go_wp2_with fail
      refine (valueOf_any ky ny ty q m e_ y _ (G1 _ (B3.out.trans (K5.out.mono B3.out.size)))).mono ?_
      rintro e w6 ⟨u2, v2, rfl, NI, hb⟩
      have K6 : Hid (Below W3.heap.size W3 w6) := K5.out.trans (hb.mono K5.out.size)
      clear hb
      clear f0 f1 f2 f3
      go_wp2_with fail
      refine (numberOf_any NI _).mono ?_
      rintro e w7 ⟨rfl, hb⟩
      clear NI
      have K7 : Hid (Below W3.heap.size W3 w7) := K6.out.trans (hb.mono K6.out.size)
      clear hb
      have b4 := bR.out.next K7.out
      have r0 := b4.cell 0 _ rfl
      have z0 := b4.frozen 0
      have r1 := b4.cell 1 _ rfl
      have z1 := b4.frozen 1
      have r2 := b4.cell 2 _ rfl
      have z2 := b4.frozen 2
      have r3 := b4.cell 3 _ rfl
      have z3 := b4.frozen 3
      have bF : Blk ((((w7.setCell ⟨w.heap.size + 1 + 1, 0, none⟩ (.int .i64 0)).setCell ⟨w.heap.size + 1 + 1, 1, none⟩ (.int .i64 0)).setCell ⟨w.heap.size + 1 + 1, 2, none⟩ (.string ⟨#[]⟩)).setCell ⟨w.heap.size + 1 + 1, 3, none⟩ (.slice none 0 0)) (w.heap.size + 1 + 1) #[.int .i64 0, .int .i64 0, .string ⟨#[]⟩, .slice none 0 0] 26 := (((b4.same (j := 0) (v := .int .i64 0) rfl).same (j := 1) (v := .int .i64 0) rfl).same (j := 2) (v := .string ⟨#[]⟩) rfl).same (j := 3) (v := .slice none 0 0) rfl
      have c0 := bF.cell 0 _ rfl
      have c1 := bF.cell 1 _ rfl
      have c2 := bF.cell 2 _ rfl
      have c3 := bF.cell 3 _ rfl
      have HBF : Hid (Below w.heap.size w ((((w7.setCell ⟨w.heap.size + 1 + 1, 0, none⟩ (.int .i64 0)).setCell ⟨w.heap.size + 1 + 1, 1, none⟩ (.int .i64 0)).setCell ⟨w.heap.size + 1 + 1, 2, none⟩ (.string ⟨#[]⟩)).setCell ⟨w.heap.size + 1 + 1, 3, none⟩ (.slice none 0 0))) := Below.setCell (Below.setCell (Below.setCell (Below.setCell (B3.out.trans (K7.out.mono B3.out.size)) (by show _ ≤ w.heap.size + 1 + 1; omega) _) (by show _ ≤ w.heap.size + 1 + 1; omega) _) (by show _ ≤ w.heap.size + 1 + 1; omega) _) (by show _ ≤ w.heap.size + 1 + 1; omega) _
      clear b4 bF
      go_wp2_with fail
      exact bodyPost_ret (v := .tuple #[.agg #[.int .i64 0, .int .i64 0, .string ⟨#[]⟩, .slice none 0 0], .bool false]) (by simp [results, Tryz.results14, go_sem, c0, c1, c2, c3]) rfl ⟨by rw [HS.out]; rfl, HBF.out⟩
  · have n1 : numK kx = false := by unfold numK; simpa using k1
    have HS : Hid (reck d op.toList x y = ((0, 0, ⟨#[]⟩), false)) := by show _ = _; unfold reck; rw [if_neg q1, if_neg q2, if_pos (Or.inl (by rw [hkx]; exact k1))]
    clear q1 q2
    clear k1
    go_enter Tryz.func14, Tryz.ntmps14
    go_wp2_with fail
    rw [← HW3.out]
    refine (valueOf_any kx nx tx p l c x _ (G0 _ B3.out)).mono ?_
    rintro e w4 ⟨u, v, rfl, NI, hb⟩
    have K4 : Hid (Below W3.heap.size W3 w4) := hb
    clear hb
    go_wp2_with fail
    refine (numberOf_any NI _).mono ?_
    rintro e w5 ⟨rfl, hb⟩
    clear NI
    have K5 : Hid (Below W3.heap.size W3 w5) := K4.out.trans (hb.mono K4.out.size)
    clear hb
    have f0 := (bB.out.next K5.out).cell 0 _ rfl
    have f1 := (bB.out.next K5.out).cell 1 _ rfl
    have f2 := (bB.out.next K5.out).cell 2 _ rfl
    have f3 := (bB.out.next K5.out).cell 3 _ rfl
    go_wp2_with fail
    refine (valueOf_any ky ny ty q m e_ y _ (G1 _ (B3.out.trans (K5.out.mono B3.out.size)))).mono ?_
    rintro e w6 ⟨u2, v2, rfl, NI, hb⟩
    have K6 : Hid (Below W3.heap.size W3 w6) := K5.out.trans (hb.mono K5.out.size)
    clear hb
    clear f0 f1 f2 f3
    go_wp2_with fail
    refine (numberOf_any NI _).mono ?_
    rintro e w7 ⟨rfl, hb⟩
    clear NI
    have K7 : Hid (Below W3.heap.size W3 w7) := K6.out.trans (hb.mono K6.out.size)
    clear hb
    have b4 := bR.out.next K7.out
    have r0 := b4.cell 0 _ rfl
    have z0 := b4.frozen 0
    have r1 := b4.cell 1 _ rfl
    have z1 := b4.frozen 1
    have r2 := b4.cell 2 _ rfl
    have z2 := b4.frozen 2
    have r3 := b4.cell 3 _ rfl
    have z3 := b4.frozen 3
    have bF : Blk ((((w7.setCell ⟨w.heap.size + 1 + 1, 0, none⟩ (.int .i64 0)).setCell ⟨w.heap.size + 1 + 1, 1, none⟩ (.int .i64 0)).setCell ⟨w.heap.size + 1 + 1, 2, none⟩ (.string ⟨#[]⟩)).setCell ⟨w.heap.size + 1 + 1, 3, none⟩ (.slice none 0 0)) (w.heap.size + 1 + 1) #[.int .i64 0, .int .i64 0, .string ⟨#[]⟩, .slice none 0 0] 26 := (((b4.same (j := 0) (v := .int .i64 0) rfl).same (j := 1) (v := .int .i64 0) rfl).same (j := 2) (v := .string ⟨#[]⟩) rfl).same (j := 3) (v := .slice none 0 0) rfl
    have c0 := bF.cell 0 _ rfl
    have c1 := bF.cell 1 _ rfl
    have c2 := bF.cell 2 _ rfl
    have c3 := bF.cell 3 _ rfl
    have HBF : Hid (Below w.heap.size w ((((w7.setCell ⟨w.heap.size + 1 + 1, 0, none⟩ (.int .i64 0)).setCell ⟨w.heap.size + 1 + 1, 1, none⟩ (.int .i64 0)).setCell ⟨w.heap.size + 1 + 1, 2, none⟩ (.string ⟨#[]⟩)).setCell ⟨w.heap.size + 1 + 1, 3, none⟩ (.slice none 0 0))) := Below.setCell (Below.setCell (Below.setCell (Below.setCell (B3.out.trans (K7.out.mono B3.out.size)) (by show _ ≤ w.heap.size + 1 + 1; omega) _) (by show _ ≤ w.heap.size + 1 + 1; omega) _) (by show _ ≤ w.heap.size + 1 + 1; omega) _) (by show _ ≤ w.heap.size + 1 + 1; omega) _
    clear b4 bF
    go_wp2_with fail
    exact bodyPost_ret (v := .tuple #[.agg #[.int .i64 0, .int .i64 0, .string ⟨#[]⟩, .slice none 0 0], .bool false]) (by simp [results, Tryz.results14, go_sem, c0, c1, c2, c3]) rfl ⟨by rw [HS.out]; rfl, HBF.out⟩
end Go.Proofs.YtmnghlkkfkpjhaaGreatDoor
/-
  The specification's ValText, by contract.
-/
namespace Go.Proofs.YtmnghlkkfkpjhaaGreatDoor
open Go.ChangeShapes Go.WideShapes Go.ChangeAt Go.RowKit
set_option linter.unusedVariables false

def TxC (d : Nat) : Prop :=
  ∀ (w : World) (cs : List Value) (x : Va), HVa w All d cs x → wtVa d x ≤ 1048576 → Calls Tryz.prog 24 #[.agg cs.toArray] w fun e w' => ∃ s : ByteArray, e = .returned (.string s) ∧ s.data.toList = vaTxt d x ∧ Below w.heap.size w w'
def TxsC (d : Nat) : Prop :=
  ∀ (w : World) (v : Value) (es : List Va) (sep : ByteArray), Rows w All 4 (HVa w All d) v es → wtS (wtVa d) es ≤ 1048576 → sep.size ≤ 3 →
    Calls Tryz.prog 54 #[v, .string sep] w fun e w' => ∃ s : ByteArray, e = .returned (.string s) ∧ s.data.toList = joinT sep.data.toList (es.map (vaTxt d)) ∧ Below w.heap.size w w'

theorem rows_ints {w : World} {S : Nat → Prop} {d : Nat} {v : Value} {es : List Va} (h : Rows w S 4 (HVa w S d) v es) : ∀ y ∈ es, vaI d y := by
  intro y hy
  obtain ⟨p, cap, _, _, _, hr⟩ := h
  obtain ⟨i, hi⟩ := List.mem_iff_getElem?.1 hy
  obtain ⟨g, off, _, _, _, hat⟩ := hr (by intro e; rw [e] at hi; simp at hi)
  obtain ⟨cs, _, _, hv⟩ := hat i y hi
  exact hv.ints
theorem bsize (s : ByteArray) : s.data.toList.length = s.size := by rw [Array.length_toList]; rfl
theorem wtS_take {α : Type} (f : α → Nat) (es : List α) (k : Nat) : wtS f (es.take k) ≤ wtS f es := by
  have h1 := sum_take_le f es k
  have h2 : (es.take k).length ≤ es.length := by rw [List.length_take]; omega
  unfold wtS; omega
theorem wtS_at {α : Type} (f : α → Nat) (es : List α) (k : Nat) (x : α) (h : es[k]? = some x) : f x ≤ wtS f es := by
  have h1 := sum_take_succ f es k x h
  have h2 := sum_take_le f es (k + 1)
  unfold wtS; omega
theorem join_size (d : Nat) (es : List Va) (hI : ∀ y ∈ es, vaI d y) (hwt : wtS (wtVa d) es ≤ 1048576) (sep : List UInt8) (hs : sep.length ≤ 3) (k : Nat) : (joinT sep ((es.take k).map (vaTxt d))).length ≤ 26214400 := by
  have h1 := joinT_bound d sep hs (es.take k) (fun y hy => vaTxt_len d y (hI y (List.mem_of_mem_take hy)))
  have h2 := wtS_take (wtVa d) es k
  omega
theorem join_succ (d : Nat) (es : List Va) (sep : List UInt8) (k : Nat) (x : Va) (h : es[k]? = some x) (hk : ¬ k = 0) : joinT sep ((es.take (k + 1)).map (vaTxt d)) = joinT sep ((es.take k).map (vaTxt d)) ++ (sep ++ vaTxt d x) := by
  have hl : k < es.length := (List.getElem?_eq_some_iff.1 h).1
  rw [List.take_add_one, h]
  simp only [Option.toList_some, List.map_append, List.map_cons, List.map_nil]
  refine joinT_snoc sep _ _ (fun e => ?_)
  have := congrArg List.length e
  simp at this
  rcases this with h | h
  · exact hk h
  · rw [h] at hl; simp at hl
theorem join_zero (d : Nat) (es : List Va) (sep : List UInt8) (x : Va) (h : es[0]? = some x) : joinT sep ((es.take (0 + 1)).map (vaTxt d)) = vaTxt d x := by
  rw [List.take_add_one, h]; simp [joinT]

set_option maxHeartbeats 4000000 in
set_option maxRecDepth 100000 in
theorem texts_of {d : Nat} (hE : TxC d) : TxsC d := by
  intro w v es sep h hwt hsep
  have hI := rows_ints h
  obtain ⟨p, cap, rfl, hcl, hcm, hx⟩ := h
  have hnb : es.length ≤ 9223372036854775807 := by unfold maxLen at hcm; omega
  have BD : Hid (∀ k (o : ByteArray), o.data.toList = joinT sep.data.toList ((es.take k).map (vaTxt d)) → o.size ≤ 26214400) := fun k o ho => by
    rw [← bsize, ho]; exact join_size d es hI hwt _ (by rw [bsize]; exact hsep) k
  have BX : Hid (∀ k x, es[k]? = some x → wtVa d x ≤ 1048576 ∧ (vaTxt d x).length ≤ 26214500) := fun k x hk => by
    have h1 := wtS_at (wtVa d) es k x hk
    have h2 := vaTxt_len d x (hI x (List.mem_of_getElem? hk))
    exact ⟨by omega, by omega⟩
  generalize hn : es.length = n at *
  have HN : Hid (es.length = n) := hn
  have HX : Hid (es ≠ [] → ∃ g off, p = some ⟨g, off, none⟩ ∧ All g ∧ g < w.heap.size ∧ ∀ i x, es[i]? = some x → ∃ cs, cs.length = 4 ∧ (∀ j, j < 4 → w.cell? ⟨g, off + i * 4 + j, none⟩ = cs[j]?) ∧ HVa w All d cs x) := hx
  clear hx hn hI hwt
  go_enter Tryz.func54, Tryz.ntmps54
  go_wp2
  go_loopw [5, 6] (fun ov iv wr => ∃ (k : Nat) (o : ByteArray), k ≤ n ∧ iv = .int .i64 k ∧ ov = .string o ∧ Hid (o.data.toList = joinT sep.data.toList ((es.take k).map (vaTxt d))) ∧ Below w.heap.size w wr) (fun _ iv _ => n - (intOf iv).toNat)
  case atStart => exact ⟨0, ⟨#[]⟩, Nat.zero_le _, rfl, rfl, by show _ = _; simp [joinT], Below.refl _ _⟩
  case round =>
    obtain ⟨k, o, hk, rfl, rfl, ho, hb⟩ := hrel
    have hos := BD.out k o ho.out
    have HB : Hid (Below w.heap.size w wr) := hb
    by_cases hlt : k < n
    · obtain ⟨x, hxk⟩ : ∃ x, es[k]? = some x := ⟨es[k]'(by rw [HN.out]; exact hlt), List.getElem?_eq_getElem _⟩
      obtain ⟨g, off, rfl, -, hgl, hat⟩ := HX.out (by intro h; rw [h] at hxk; simp at hxk)
      obtain ⟨cs, hcs4, hcs, r1⟩ := hat k x hxk
      obtain ⟨sk, sn, st, p1, n1, q1, rfl⟩ := r1.shape
      have E1 : ∀ w', Below w.heap.size w w' → HVa w' All d [.int .i64 sk, .int .i64 sn, .string st, .slice p1 n1 q1] x := fun w' hw => r1.mono (SameOn.of_below hw) (fun _ h => h)
      have a0 := hcs 0 (by omega)
      have a1 := hcs 1 (by omega)
      have a2 := hcs 2 (by omega)
      have a3 := hcs 3 (by omega)
      rw [← hb.cell (p := ⟨g, _, none⟩) hgl] at a0 a1 a2 a3
      simp at a0 a1 a2 a3
      have hki : (k : Int) < (n : Int) := by omega
      have hk0 : (0 : Int) ≤ (k : Int) := by omega
      obtain ⟨wx, lx⟩ := BX.out k x hxk
      clear hb hcs hat hcs4 r1
      by_cases hz : k = 0
      · have hz1 : ¬ (0 : Int) < (k : Int) := by omega
        have HJ : Hid (joinT sep.data.toList ((es.take (k + 1)).map (vaTxt d)) = vaTxt d x) := by subst hz; exact join_zero d es _ x hxk
        have HO : Hid (o = ⟨#[]⟩) := by
          have := ho.out
          rw [hz] at this
          simp [joinT] at this
          show _ = _
          exact ByteArray.ext (by simpa using this)
        clear hz
        go_wp2_with fail
        refine (hE _ _ x (E1 _ HB.out) wx).mono ?_
        rintro e w4 ⟨s, rfl, hs, hb4⟩
        have HS : Hid (s.data.toList = vaTxt d x) := hs
        have hss : s.size ≤ 26214500 := by rw [← bsize, hs]; exact lx
        have HB4 : Hid (Below w.heap.size w w4) := HB.out.trans (hb4.mono HB.out.size)
        clear hb4 hs
        go_wp2_with fail
        refine ⟨⟨k + 1, o ++ s, by omega, by go_num, rfl, ?_, HB4.out⟩, by simp [intOf]; omega⟩
        show _ = _
        rw [HJ.out, HO.out, ← HS.out]
        simp
      · have hz1 : (0 : Int) < (k : Int) := by omega
        have HJ : Hid (joinT sep.data.toList ((es.take (k + 1)).map (vaTxt d)) = joinT sep.data.toList ((es.take k).map (vaTxt d)) ++ (sep.data.toList ++ vaTxt d x)) := join_succ d es _ k x hxk hz
        go_wp2_with fail
        refine (hE _ _ x (E1 _ HB.out) wx).mono ?_
        rintro e w4 ⟨s, rfl, hs, hb4⟩
        have HS : Hid (s.data.toList = vaTxt d x) := hs
        have hss : s.size ≤ 26214500 := by rw [← bsize, hs]; exact lx
        have HB4 : Hid (Below w.heap.size w w4) := HB.out.trans (hb4.mono HB.out.size)
        clear hb4 hs
        go_wp2_with fail
        refine ⟨⟨k + 1, o ++ sep ++ s, by omega, by go_num, rfl, ?_, HB4.out⟩, by simp [intOf]; omega⟩
        show _ = _
        rw [HJ.out, ← HS.out, ← ho.out]
        simp [ByteArray.data_append]
    · have HS : Hid (o.data.toList = joinT sep.data.toList (es.map (vaTxt d))) := by
        have := ho.out
        rwa [List.take_of_length_le (by rw [HN.out]; omega)] at this
      clear hb
      go_wp2_with fail
      go_ret
      exact ⟨o, rfl, HS.out, HB.out⟩

set_option maxHeartbeats 4000000 in
set_option maxRecDepth 100000 in
theorem text_of {d : Nat} (h1 : TxsC d) : TxC (d + 1) := by
  intro w cs x h hwt
  obtain ⟨kv, rfl, -, hni, hts, f0⟩ := h
  obtain ⟨kx, nx, tx, es⟩ := x
  simp only [Va.kind, Va.n, Va.text, Va.kids] at *
  have hw : wtVa (d + 1) (.mk kx nx tx es) = tx.size + wtS (wtVa d) es := rfl
  have hwe : wtS (wtVa d) es ≤ 1048576 := by omega
  have hI := rows_ints f0
  have HL : Hid (∀ sep : List UInt8, sep.length ≤ 3 → (joinT sep (es.map (vaTxt d))).length ≤ 26214400) := fun sep hs => by
    have := join_size d es hI hwe sep hs es.length
    rwa [List.take_length] at this
  have f1 := f0
  obtain ⟨p, cap, hkv, -, -, -⟩ := f0
  subst hkv
  have BL : Hid (Below w.heap.size w (w.alloc (.cells #[.int .i64 kx, .int .i64 nx, .string tx, .slice p es.length cap] 26))) := (Below.refl _ _).alloc (Nat.le_refl _) _
  have F0 : Hid (Rows (w.alloc (.cells #[.int .i64 kx, .int .i64 nx, .string tx, .slice p es.length cap] 26)) All 4 (HVa (w.alloc (.cells #[.int .i64 kx, .int .i64 nx, .string tx, .slice p es.length cap] 26)) All d) (.slice p es.length cap) es) :=
    f1.mono (SameOn.of_below BL.out) (fun _ h => h) (fun _ _ _ h => h.mono (SameOn.of_below BL.out) (fun _ h => h))
  obtain ⟨i0, i1⟩ := okI_bd hni
  clear hw hwt hI hni f1
  generalize es.length = l at *
  by_cases k0 : kx = 0
  · subst k0
    go_enter Tryz.func24, Tryz.ntmps24
    go_wp2_with (go_at_call 53; go_must (refine (specDecText_any _ _ i0 i1).mono ?_; rintro e w' ⟨rfl, rfl⟩))
    go_ret
    exact ⟨_, rfl, by simp [vaTxt, Va.kind, Va.n], BL.out⟩
  by_cases k1 : kx = 1
  · subst k1
    go_enter Tryz.func24, Tryz.ntmps24
    go_wp2
    go_ret
    exact ⟨_, rfl, by simp [vaTxt, Va.kind, Va.text], BL.out⟩
  by_cases k2 : kx = 2
  · subst k2
    go_enter Tryz.func24, Tryz.ntmps24
    go_wp2_with fail
    refine (h1 _ _ es ⟨#[44, 32]⟩ F0.out hwe (by decide)).mono ?_
    rintro e w1 ⟨s, rfl, hs, hb⟩
    have HS : Hid (s.data.toList = joinT [44, 32] (es.map (vaTxt d))) := hs
    have hss : s.size ≤ 26214400 := by rw [← bsize, hs]; exact HL.out _ (by decide)
    have HB : Hid (Below w.heap.size w w1) := BL.out.trans (hb.mono BL.out.size)
    clear hb hs
    go_wp2_with fail
    go_ret
    exact ⟨_, rfl, by simp [vaTxt, Va.kind, Va.kids, ByteArray.data_append, HS.out], HB.out⟩
  by_cases k3 : kx = 3
  · subst k3
    go_enter Tryz.func24, Tryz.ntmps24
    go_wp2
    go_ret
    exact ⟨_, rfl, by simp [vaTxt, Va.kind], BL.out⟩
  by_cases k4 : kx = 4
  · subst k4
    go_enter Tryz.func24, Tryz.ntmps24
    go_wp2_with fail
    refine (h1 _ _ es ⟨#[32, 124, 32]⟩ F0.out hwe (by decide)).mono ?_
    rintro e w1 ⟨s, rfl, hs, hb⟩
    have HS : Hid (s.data.toList = joinT [32, 124, 32] (es.map (vaTxt d))) := hs
    have hss : s.size ≤ 26214400 := by rw [← bsize, hs]; exact HL.out _ (by decide)
    have HB : Hid (Below w.heap.size w w1) := BL.out.trans (hb.mono BL.out.size)
    clear hb hs
    go_wp2_with fail
    go_ret
    exact ⟨_, rfl, by simp [vaTxt, Va.kind, Va.kids, ByteArray.data_append, HS.out], HB.out⟩
  · go_enter Tryz.func24, Tryz.ntmps24
    go_wp2
    go_ret
    exact ⟨_, rfl, by simp [vaTxt, Va.kind, k0, k1, k2, k3, k4], BL.out⟩

theorem text_all : ∀ d, TxC d
  | 0 => fun w cs x h _ => h.elim
  | d + 1 => text_of (texts_of (text_all d))
end Go.Proofs.YtmnghlkkfkpjhaaGreatDoor
