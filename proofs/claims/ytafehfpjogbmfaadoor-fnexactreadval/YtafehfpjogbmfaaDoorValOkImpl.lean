/-
  The program's ValOk: what a value is by its kind.
-/
import Derived.Test.YtafehfpjogbmfaaDoorValOkSpec
import Derived.Test.YtafehfpjogbmfaaDoorValOf
namespace Go.Proofs.YtafehfpjogbmfaaDoor
open Go.ChangeShapes Go.WideShapes Go.ChangeAt Go.RowKit
set_option linter.unusedVariables false



theorem nat_beq (l m : Nat) : decide (l = m) = ((l : Int) == (m : Int)) := by
  rw [Bool.eq_iff_iff]; simp; omega

/-- What fieldsOk answers. -/
def fB (k n : Int) (t : ByteArray) (l : Nat) : Bool :=
  if k = 0 then decide (t.toList = []) && decide (l = 0) else if k = 1 then decide (n = 0) && (atomB t && decide (l = 0)) else if k = 2 then decide (n = 0) && (decide (t.toList = []) && decide (1 ≤ l ∧ l ≤ 20))
  else if k = 3 then decide (n = 0) && (decide (t.toList = []) && decide (l = 0)) else if k = 4 then decide (n = 0) && (decide (t.toList = []) && decide (l = 2)) else false

theorem within_any (a b c : Int) (w : World) : Calls Tryd.prog 52 #[.int .i64 a, .int .i64 b, .int .i64 c] w fun e w' => e = .returned (.bool (inB a b c)) ∧ w' = w := by
  by_cases h1 : b ≤ a <;> by_cases h2 : a ≤ c
  all_goals
    go_enter Tryd.func52, Tryd.ntmps52
    go_wp2
    go_ret
    exact ⟨by simp [inB, h1, h2], rfl⟩
theorem two_any (p : Option Addr) (l c : Nat) (w : World) (hlb : l ≤ 9223372036854775807) : Calls Tryd.prog 53 #[.agg #[.slice p l c]] w fun e w' => e = .returned (.bool ((l : Int) == 2)) ∧ Below w.heap.size w w' := by
  go_enter Tryd.func53, Tryd.ntmps53
  go_wp2
  go_ret
  exact ⟨rfl, (Below.refl _ _).alloc (Nat.le_refl _) _⟩

set_option maxHeartbeats 4000000 in
set_option maxRecDepth 100000 in
theorem fields0 (n : Int) (t : ByteArray) (p : Option Addr) (l c : Nat) (w : World) (hlb : l ≤ 9223372036854775807) (hts : t.size ≤ maxLen) (hk : KeysAt w) : Calls Tryd.prog 34 #[.agg #[.int .i64 0, .int .i64 n, .string t, .slice p l c]] w fun e w' => e = .returned (.bool (fB 0 n t l)) ∧ Below w.heap.size w w' := by
  have HK : Hid (KeysAt w) := hk
  clear hk
  by_cases ht : t.toList = []
  · have ht2 : (t.toList == []) = true := by simpa using ht
    have HS : Hid (fB 0 n t l = ((l : Int) == 0)) := by show _ = _; by_cases hl : l = 0 <;> simp [fB, ht, hl]
    clear ht
    have q_numberValue := as_numberValue_numberValue
    go_enter Tryd.func34, Tryd.ntmps34
    go_wp2_with fail
    refine (vof0 n t p l c _).mono ?_
    rintro e w1 ⟨rfl, hb⟩
    have hbk := Blk.next (Blk.new (w := w) (cs := #[.int .i64 0, .int .i64 n, .string t, .slice p l c]) (t := 24)) hb
    have BB : Hid (Below w.heap.size w w1) := ((Below.refl _ _).alloc (Nat.le_refl _) _).trans (hb.mono (by simp))
    have K1 : Hid (KeysAt w1) := ⟨cell_next hb (cell_next ((Below.refl _ _).alloc (Nat.le_refl _) _) HK.out.1), cell_next hb (cell_next ((Below.refl _ _).alloc (Nat.le_refl _) _) HK.out.2.1), cell_next hb (cell_next ((Below.refl _ _).alloc (Nat.le_refl _) _) HK.out.2.2)⟩
    have hlt := hbk.lt
    have a1 := hbk.cell 1 _ rfl
    have a2 := hbk.cell 2 _ rfl
    have a3 := hbk.cell 3 _ rfl
    have hb2 := hbk.alloc (o := .cells #[.int .i64 n] 62)
    have c1 := hb2.cell 1 _ rfl
    have c2 := hb2.cell 2 _ rfl
    have c3 := hb2.cell 3 _ rfl
    clear hb2
    clear hb hbk
    go_wp2
    go_ret
    exact ⟨by rw [HS.out]; rfl, by first | exact BB.out | exact BB.out.alloc BB.out.size _⟩
  · have ht2 : (t.toList == []) = false := by simpa using ht
    have HS : Hid (fB 0 n t l = false) := by show _ = _; simp [fB, ht]
    clear ht
    have q_numberValue := as_numberValue_numberValue
    go_enter Tryd.func34, Tryd.ntmps34
    go_wp2_with fail
    refine (vof0 n t p l c _).mono ?_
    rintro e w1 ⟨rfl, hb⟩
    have hbk := Blk.next (Blk.new (w := w) (cs := #[.int .i64 0, .int .i64 n, .string t, .slice p l c]) (t := 24)) hb
    have BB : Hid (Below w.heap.size w w1) := ((Below.refl _ _).alloc (Nat.le_refl _) _).trans (hb.mono (by simp))
    have K1 : Hid (KeysAt w1) := ⟨cell_next hb (cell_next ((Below.refl _ _).alloc (Nat.le_refl _) _) HK.out.1), cell_next hb (cell_next ((Below.refl _ _).alloc (Nat.le_refl _) _) HK.out.2.1), cell_next hb (cell_next ((Below.refl _ _).alloc (Nat.le_refl _) _) HK.out.2.2)⟩
    have hlt := hbk.lt
    have a1 := hbk.cell 1 _ rfl
    have a2 := hbk.cell 2 _ rfl
    have a3 := hbk.cell 3 _ rfl
    have hb2 := hbk.alloc (o := .cells #[.int .i64 n] 62)
    have c1 := hb2.cell 1 _ rfl
    have c2 := hb2.cell 2 _ rfl
    have c3 := hb2.cell 3 _ rfl
    clear hb2
    clear hb hbk
    go_wp2
    go_ret
    exact ⟨by rw [HS.out]; rfl, by first | exact BB.out | exact BB.out.alloc BB.out.size _⟩

set_option maxHeartbeats 4000000 in
set_option maxRecDepth 100000 in
theorem fields3 (n : Int) (t : ByteArray) (p : Option Addr) (l c : Nat) (w : World) (hlb : l ≤ 9223372036854775807) (hts : t.size ≤ maxLen) (hk : KeysAt w) : Calls Tryd.prog 34 #[.agg #[.int .i64 3, .int .i64 n, .string t, .slice p l c]] w fun e w' => e = .returned (.bool (fB 3 n t l)) ∧ Below w.heap.size w w' := by
  have HK : Hid (KeysAt w) := hk
  clear hk
  by_cases hn : n = 0
  · subst hn
    by_cases ht : t.toList = []
    · have ht2 : (t.toList == []) = true := by simpa using ht
      have HS : Hid (fB 3 0 t l = ((l : Int) == 0)) := by show _ = _; by_cases hl : l = 0 <;> simp [fB, ht, hl]
      clear ht
      have q_numberValue := as_nilValue_numberValue
      have q_atomValue := as_nilValue_atomValue
      have q_tupleValue := as_nilValue_tupleValue
      have q_nilValue := as_nilValue_nilValue
      go_enter Tryd.func34, Tryd.ntmps34
      go_wp2_with fail
      refine (vof3 0 t p l c _).mono ?_
      rintro e w1 ⟨rfl, hb⟩
      have hbk := Blk.next (Blk.new (w := w) (cs := #[.int .i64 3, .int .i64 0, .string t, .slice p l c]) (t := 24)) hb
      have BB : Hid (Below w.heap.size w w1) := ((Below.refl _ _).alloc (Nat.le_refl _) _).trans (hb.mono (by simp))
      have K1 : Hid (KeysAt w1) := ⟨cell_next hb (cell_next ((Below.refl _ _).alloc (Nat.le_refl _) _) HK.out.1), cell_next hb (cell_next ((Below.refl _ _).alloc (Nat.le_refl _) _) HK.out.2.1), cell_next hb (cell_next ((Below.refl _ _).alloc (Nat.le_refl _) _) HK.out.2.2)⟩
      have hlt := hbk.lt
      have a1 := hbk.cell 1 _ rfl
      have a2 := hbk.cell 2 _ rfl
      have a3 := hbk.cell 3 _ rfl
      clear hb hbk
      go_wp2
      go_ret
      exact ⟨by rw [HS.out]; rfl, by first | exact BB.out | exact BB.out.alloc BB.out.size _⟩
    · have ht2 : (t.toList == []) = false := by simpa using ht
      have HS : Hid (fB 3 0 t l = false) := by show _ = _; simp [fB, ht]
      clear ht
      have q_numberValue := as_nilValue_numberValue
      have q_atomValue := as_nilValue_atomValue
      have q_tupleValue := as_nilValue_tupleValue
      have q_nilValue := as_nilValue_nilValue
      go_enter Tryd.func34, Tryd.ntmps34
      go_wp2_with fail
      refine (vof3 0 t p l c _).mono ?_
      rintro e w1 ⟨rfl, hb⟩
      have hbk := Blk.next (Blk.new (w := w) (cs := #[.int .i64 3, .int .i64 0, .string t, .slice p l c]) (t := 24)) hb
      have BB : Hid (Below w.heap.size w w1) := ((Below.refl _ _).alloc (Nat.le_refl _) _).trans (hb.mono (by simp))
      have K1 : Hid (KeysAt w1) := ⟨cell_next hb (cell_next ((Below.refl _ _).alloc (Nat.le_refl _) _) HK.out.1), cell_next hb (cell_next ((Below.refl _ _).alloc (Nat.le_refl _) _) HK.out.2.1), cell_next hb (cell_next ((Below.refl _ _).alloc (Nat.le_refl _) _) HK.out.2.2)⟩
      have hlt := hbk.lt
      have a1 := hbk.cell 1 _ rfl
      have a2 := hbk.cell 2 _ rfl
      have a3 := hbk.cell 3 _ rfl
      clear hb hbk
      go_wp2
      go_ret
      exact ⟨by rw [HS.out]; rfl, by first | exact BB.out | exact BB.out.alloc BB.out.size _⟩
  · have HS : Hid (fB 3 n t l = false) := by show _ = _; simp [fB, hn]
    have hn2 : (n == 0) = false := by simpa using hn
    have q_numberValue := as_nilValue_numberValue
    have q_atomValue := as_nilValue_atomValue
    have q_tupleValue := as_nilValue_tupleValue
    have q_nilValue := as_nilValue_nilValue
    go_enter Tryd.func34, Tryd.ntmps34
    go_wp2_with fail
    refine (vof3 n t p l c _).mono ?_
    rintro e w1 ⟨rfl, hb⟩
    have hbk := Blk.next (Blk.new (w := w) (cs := #[.int .i64 3, .int .i64 n, .string t, .slice p l c]) (t := 24)) hb
    have BB : Hid (Below w.heap.size w w1) := ((Below.refl _ _).alloc (Nat.le_refl _) _).trans (hb.mono (by simp))
    have K1 : Hid (KeysAt w1) := ⟨cell_next hb (cell_next ((Below.refl _ _).alloc (Nat.le_refl _) _) HK.out.1), cell_next hb (cell_next ((Below.refl _ _).alloc (Nat.le_refl _) _) HK.out.2.1), cell_next hb (cell_next ((Below.refl _ _).alloc (Nat.le_refl _) _) HK.out.2.2)⟩
    have hlt := hbk.lt
    have a1 := hbk.cell 1 _ rfl
    have a2 := hbk.cell 2 _ rfl
    have a3 := hbk.cell 3 _ rfl
    clear hb hbk
    go_wp2
    go_ret
    exact ⟨by rw [HS.out]; rfl, by first | exact BB.out | exact BB.out.alloc BB.out.size _⟩

set_option maxHeartbeats 4000000 in
set_option maxRecDepth 100000 in
theorem fields2 (n : Int) (t : ByteArray) (p : Option Addr) (l c : Nat) (w : World) (hlb : l ≤ 9223372036854775807) (hts : t.size ≤ maxLen) (hk : KeysAt w) : Calls Tryd.prog 34 #[.agg #[.int .i64 2, .int .i64 n, .string t, .slice p l c]] w fun e w' => e = .returned (.bool (fB 2 n t l)) ∧ Below w.heap.size w w' := by
  have HK : Hid (KeysAt w) := hk
  clear hk
  by_cases hn : n = 0
  · subst hn
    by_cases ht : t.toList = []
    · have ht2 : (t.toList == []) = true := by simpa using ht
      have HS : Hid (fB 2 0 t l = inB l 1 20) := by show _ = _; unfold inB; by_cases h1 : 1 ≤ l <;> by_cases h2 : l ≤ 20 <;> simp [fB, ht, h1, h2] <;> omega
      clear ht
      have q_numberValue := as_tupleValue_numberValue
      have q_atomValue := as_tupleValue_atomValue
      have q_tupleValue := as_tupleValue_tupleValue
      go_enter Tryd.func34, Tryd.ntmps34
      go_wp2_with fail
      refine (vof2 0 t p l c _).mono ?_
      rintro e w1 ⟨rfl, hb⟩
      have hbk := Blk.next (Blk.new (w := w) (cs := #[.int .i64 2, .int .i64 0, .string t, .slice p l c]) (t := 24)) hb
      have BB : Hid (Below w.heap.size w w1) := ((Below.refl _ _).alloc (Nat.le_refl _) _).trans (hb.mono (by simp))
      have K1 : Hid (KeysAt w1) := ⟨cell_next hb (cell_next ((Below.refl _ _).alloc (Nat.le_refl _) _) HK.out.1), cell_next hb (cell_next ((Below.refl _ _).alloc (Nat.le_refl _) _) HK.out.2.1), cell_next hb (cell_next ((Below.refl _ _).alloc (Nat.le_refl _) _) HK.out.2.2)⟩
      have hlt := hbk.lt
      have a1 := hbk.cell 1 _ rfl
      have a2 := hbk.cell 2 _ rfl
      have a3 := hbk.cell 3 _ rfl
      have hb2 := hbk.alloc (o := .cells #[.slice p l c] 66)
      have c1 := hb2.cell 1 _ rfl
      have c2 := hb2.cell 2 _ rfl
      have c3 := hb2.cell 3 _ rfl
      clear hb2
      clear hb hbk
      go_wp2_with (first | (go_at_call 52; refine (within_any _ _ _ _).mono ?_; rintro e w9 ⟨rfl, rfl⟩))
      go_ret
      exact ⟨by rw [HS.out]; rfl, by first | exact BB.out | exact BB.out.alloc BB.out.size _⟩
    · have ht2 : (t.toList == []) = false := by simpa using ht
      have HS : Hid (fB 2 0 t l = false) := by show _ = _; simp [fB, ht]
      clear ht
      have q_numberValue := as_tupleValue_numberValue
      have q_atomValue := as_tupleValue_atomValue
      have q_tupleValue := as_tupleValue_tupleValue
      go_enter Tryd.func34, Tryd.ntmps34
      go_wp2_with fail
      refine (vof2 0 t p l c _).mono ?_
      rintro e w1 ⟨rfl, hb⟩
      have hbk := Blk.next (Blk.new (w := w) (cs := #[.int .i64 2, .int .i64 0, .string t, .slice p l c]) (t := 24)) hb
      have BB : Hid (Below w.heap.size w w1) := ((Below.refl _ _).alloc (Nat.le_refl _) _).trans (hb.mono (by simp))
      have K1 : Hid (KeysAt w1) := ⟨cell_next hb (cell_next ((Below.refl _ _).alloc (Nat.le_refl _) _) HK.out.1), cell_next hb (cell_next ((Below.refl _ _).alloc (Nat.le_refl _) _) HK.out.2.1), cell_next hb (cell_next ((Below.refl _ _).alloc (Nat.le_refl _) _) HK.out.2.2)⟩
      have hlt := hbk.lt
      have a1 := hbk.cell 1 _ rfl
      have a2 := hbk.cell 2 _ rfl
      have a3 := hbk.cell 3 _ rfl
      have hb2 := hbk.alloc (o := .cells #[.slice p l c] 66)
      have c1 := hb2.cell 1 _ rfl
      have c2 := hb2.cell 2 _ rfl
      have c3 := hb2.cell 3 _ rfl
      clear hb2
      clear hb hbk
      go_wp2
      go_ret
      exact ⟨by rw [HS.out]; rfl, by first | exact BB.out | exact BB.out.alloc BB.out.size _⟩
  · have HS : Hid (fB 2 n t l = false) := by show _ = _; simp [fB, hn]
    have hn2 : (n == 0) = false := by simpa using hn
    have q_numberValue := as_tupleValue_numberValue
    have q_atomValue := as_tupleValue_atomValue
    have q_tupleValue := as_tupleValue_tupleValue
    go_enter Tryd.func34, Tryd.ntmps34
    go_wp2_with fail
    refine (vof2 n t p l c _).mono ?_
    rintro e w1 ⟨rfl, hb⟩
    have hbk := Blk.next (Blk.new (w := w) (cs := #[.int .i64 2, .int .i64 n, .string t, .slice p l c]) (t := 24)) hb
    have BB : Hid (Below w.heap.size w w1) := ((Below.refl _ _).alloc (Nat.le_refl _) _).trans (hb.mono (by simp))
    have K1 : Hid (KeysAt w1) := ⟨cell_next hb (cell_next ((Below.refl _ _).alloc (Nat.le_refl _) _) HK.out.1), cell_next hb (cell_next ((Below.refl _ _).alloc (Nat.le_refl _) _) HK.out.2.1), cell_next hb (cell_next ((Below.refl _ _).alloc (Nat.le_refl _) _) HK.out.2.2)⟩
    have hlt := hbk.lt
    have a1 := hbk.cell 1 _ rfl
    have a2 := hbk.cell 2 _ rfl
    have a3 := hbk.cell 3 _ rfl
    have hb2 := hbk.alloc (o := .cells #[.slice p l c] 66)
    have c1 := hb2.cell 1 _ rfl
    have c2 := hb2.cell 2 _ rfl
    have c3 := hb2.cell 3 _ rfl
    clear hb2
    clear hb hbk
    go_wp2
    go_ret
    exact ⟨by rw [HS.out]; rfl, by first | exact BB.out | exact BB.out.alloc BB.out.size _⟩

set_option maxHeartbeats 4000000 in
set_option maxRecDepth 100000 in
theorem fields1 (n : Int) (t : ByteArray) (p : Option Addr) (l c : Nat) (w : World) (hlb : l ≤ 9223372036854775807) (hts : t.size ≤ maxLen) (hk : KeysAt w) : Calls Tryd.prog 34 #[.agg #[.int .i64 1, .int .i64 n, .string t, .slice p l c]] w fun e w' => e = .returned (.bool (fB 1 n t l)) ∧ Below w.heap.size w w' := by
  have HK : Hid (KeysAt w) := hk
  clear hk
  by_cases hn : n = 0
  · subst hn
    by_cases ha : atomB t = true
    · have HS : Hid (fB 1 0 t l = ((l : Int) == 0)) := by show _ = _; by_cases hl : l = 0 <;> simp [fB, ha, hl]
      have q_numberValue := as_atomValue_numberValue
      have q_atomValue := as_atomValue_atomValue
      go_enter Tryd.func34, Tryd.ntmps34
      go_wp2_with fail
      refine (vof1 0 t p l c _).mono ?_
      rintro e w1 ⟨rfl, hb⟩
      have hbk := Blk.next (Blk.new (w := w) (cs := #[.int .i64 1, .int .i64 0, .string t, .slice p l c]) (t := 24)) hb
      have BB : Hid (Below w.heap.size w w1) := ((Below.refl _ _).alloc (Nat.le_refl _) _).trans (hb.mono (by simp))
      have K1 : Hid (KeysAt w1) := ⟨cell_next hb (cell_next ((Below.refl _ _).alloc (Nat.le_refl _) _) HK.out.1), cell_next hb (cell_next ((Below.refl _ _).alloc (Nat.le_refl _) _) HK.out.2.1), cell_next hb (cell_next ((Below.refl _ _).alloc (Nat.le_refl _) _) HK.out.2.2)⟩
      have hlt := hbk.lt
      have a1 := hbk.cell 1 _ rfl
      have a2 := hbk.cell 2 _ rfl
      have a3 := hbk.cell 3 _ rfl
      have hb2 := hbk.alloc (o := .cells #[.string t] 64)
      have c1 := hb2.cell 1 _ rfl
      have c2 := hb2.cell 2 _ rfl
      have c3 := hb2.cell 3 _ rfl
      clear hb2
      clear hb hbk
      go_wp2_with (first | (go_at_call 32; refine (implAtomOk_any _ _ hts ?_).mono ?_; exact ⟨by first | exact K1.out.1 | exact cell_next ((Below.refl _ _).alloc (Nat.le_refl _) _) K1.out.1, by first | exact K1.out.2.1 | exact cell_next ((Below.refl _ _).alloc (Nat.le_refl _) _) K1.out.2.1, by first | exact K1.out.2.2 | exact cell_next ((Below.refl _ _).alloc (Nat.le_refl _) _) K1.out.2.2⟩; rintro e w9 ⟨rfl, rfl⟩; rw [ha]))
      go_ret
      exact ⟨by rw [HS.out]; rfl, by first | exact BB.out | exact BB.out.alloc BB.out.size _⟩
    · have ha2 : atomB t = false := by simpa using ha
      have HS : Hid (fB 1 0 t l = false) := by show _ = _; simp [fB, ha2]
      clear ha
      have q_numberValue := as_atomValue_numberValue
      have q_atomValue := as_atomValue_atomValue
      go_enter Tryd.func34, Tryd.ntmps34
      go_wp2_with fail
      refine (vof1 0 t p l c _).mono ?_
      rintro e w1 ⟨rfl, hb⟩
      have hbk := Blk.next (Blk.new (w := w) (cs := #[.int .i64 1, .int .i64 0, .string t, .slice p l c]) (t := 24)) hb
      have BB : Hid (Below w.heap.size w w1) := ((Below.refl _ _).alloc (Nat.le_refl _) _).trans (hb.mono (by simp))
      have K1 : Hid (KeysAt w1) := ⟨cell_next hb (cell_next ((Below.refl _ _).alloc (Nat.le_refl _) _) HK.out.1), cell_next hb (cell_next ((Below.refl _ _).alloc (Nat.le_refl _) _) HK.out.2.1), cell_next hb (cell_next ((Below.refl _ _).alloc (Nat.le_refl _) _) HK.out.2.2)⟩
      have hlt := hbk.lt
      have a1 := hbk.cell 1 _ rfl
      have a2 := hbk.cell 2 _ rfl
      have a3 := hbk.cell 3 _ rfl
      have hb2 := hbk.alloc (o := .cells #[.string t] 64)
      have c1 := hb2.cell 1 _ rfl
      have c2 := hb2.cell 2 _ rfl
      have c3 := hb2.cell 3 _ rfl
      clear hb2
      clear hb hbk
      go_wp2_with (first | (go_at_call 32; refine (implAtomOk_any _ _ hts ?_).mono ?_; exact ⟨by first | exact K1.out.1 | exact cell_next ((Below.refl _ _).alloc (Nat.le_refl _) _) K1.out.1, by first | exact K1.out.2.1 | exact cell_next ((Below.refl _ _).alloc (Nat.le_refl _) _) K1.out.2.1, by first | exact K1.out.2.2 | exact cell_next ((Below.refl _ _).alloc (Nat.le_refl _) _) K1.out.2.2⟩; rintro e w9 ⟨rfl, rfl⟩; rw [ha2]))
      go_ret
      exact ⟨by rw [HS.out]; rfl, by first | exact BB.out | exact BB.out.alloc BB.out.size _⟩
  · have HS : Hid (fB 1 n t l = false) := by show _ = _; simp [fB, hn]
    have hn2 : (n == 0) = false := by simpa using hn
    have q_numberValue := as_atomValue_numberValue
    have q_atomValue := as_atomValue_atomValue
    go_enter Tryd.func34, Tryd.ntmps34
    go_wp2_with fail
    refine (vof1 n t p l c _).mono ?_
    rintro e w1 ⟨rfl, hb⟩
    have hbk := Blk.next (Blk.new (w := w) (cs := #[.int .i64 1, .int .i64 n, .string t, .slice p l c]) (t := 24)) hb
    have BB : Hid (Below w.heap.size w w1) := ((Below.refl _ _).alloc (Nat.le_refl _) _).trans (hb.mono (by simp))
    have K1 : Hid (KeysAt w1) := ⟨cell_next hb (cell_next ((Below.refl _ _).alloc (Nat.le_refl _) _) HK.out.1), cell_next hb (cell_next ((Below.refl _ _).alloc (Nat.le_refl _) _) HK.out.2.1), cell_next hb (cell_next ((Below.refl _ _).alloc (Nat.le_refl _) _) HK.out.2.2)⟩
    have hlt := hbk.lt
    have a1 := hbk.cell 1 _ rfl
    have a2 := hbk.cell 2 _ rfl
    have a3 := hbk.cell 3 _ rfl
    have hb2 := hbk.alloc (o := .cells #[.string t] 64)
    have c1 := hb2.cell 1 _ rfl
    have c2 := hb2.cell 2 _ rfl
    have c3 := hb2.cell 3 _ rfl
    clear hb2
    clear hb hbk
    go_wp2
    go_ret
    exact ⟨by rw [HS.out]; rfl, by first | exact BB.out | exact BB.out.alloc BB.out.size _⟩

set_option maxHeartbeats 4000000 in
set_option maxRecDepth 100000 in
theorem fields4 (n : Int) (t : ByteArray) (p : Option Addr) (l c : Nat) (w : World) (hlb : l ≤ 9223372036854775807) (hts : t.size ≤ maxLen) (hk : KeysAt w) : Calls Tryd.prog 34 #[.agg #[.int .i64 4, .int .i64 n, .string t, .slice p l c]] w fun e w' => e = .returned (.bool (fB 4 n t l)) ∧ Below w.heap.size w w' := by
  have HK : Hid (KeysAt w) := hk
  clear hk
  by_cases hn : n = 0
  · subst hn
    by_cases ht : t.toList = []
    · have ht2 : (t.toList == []) = true := by simpa using ht
      have HS : Hid (fB 4 0 t l = ((l : Int) == 2)) := by show _ = _; rw [show ((l : Int) == 2) = decide (l = 2) from (nat_beq l 2).symm]; simp [fB, ht]
      clear ht
      have q_numberValue := as_consValue_numberValue
      have q_atomValue := as_consValue_atomValue
      have q_tupleValue := as_consValue_tupleValue
      have q_nilValue := as_consValue_nilValue
      have q_consValue := as_consValue_consValue
      go_enter Tryd.func34, Tryd.ntmps34
      go_wp2_with fail
      refine (vof4 0 t p l c _).mono ?_
      rintro e w1 ⟨rfl, hb⟩
      have hbk := Blk.next (Blk.new (w := w) (cs := #[.int .i64 4, .int .i64 0, .string t, .slice p l c]) (t := 24)) hb
      have BB : Hid (Below w.heap.size w w1) := ((Below.refl _ _).alloc (Nat.le_refl _) _).trans (hb.mono (by simp))
      have K1 : Hid (KeysAt w1) := ⟨cell_next hb (cell_next ((Below.refl _ _).alloc (Nat.le_refl _) _) HK.out.1), cell_next hb (cell_next ((Below.refl _ _).alloc (Nat.le_refl _) _) HK.out.2.1), cell_next hb (cell_next ((Below.refl _ _).alloc (Nat.le_refl _) _) HK.out.2.2)⟩
      have hlt := hbk.lt
      have a1 := hbk.cell 1 _ rfl
      have a2 := hbk.cell 2 _ rfl
      have a3 := hbk.cell 3 _ rfl
      have hb2 := hbk.alloc (o := .cells #[.slice p l c] 69)
      have c1 := hb2.cell 1 _ rfl
      have c2 := hb2.cell 2 _ rfl
      have c3 := hb2.cell 3 _ rfl
      clear hb2
      clear hb hbk
      go_wp2_with (first | (go_at_call 53; refine (two_any _ _ _ _ hlb).mono ?_; rintro e w9 ⟨rfl, hb9⟩; have B9 : Hid (Below w.heap.size w w9) := (BB.out.alloc BB.out.size _).trans (hb9.mono (BB.out.alloc BB.out.size _).size); clear hb9))
      go_ret
      exact ⟨by rw [HS.out]; rfl, by first | exact B9.out | exact BB.out | exact BB.out.alloc BB.out.size _⟩
    · have ht2 : (t.toList == []) = false := by simpa using ht
      have HS : Hid (fB 4 0 t l = false) := by show _ = _; simp [fB, ht]
      clear ht
      have q_numberValue := as_consValue_numberValue
      have q_atomValue := as_consValue_atomValue
      have q_tupleValue := as_consValue_tupleValue
      have q_nilValue := as_consValue_nilValue
      have q_consValue := as_consValue_consValue
      go_enter Tryd.func34, Tryd.ntmps34
      go_wp2_with fail
      refine (vof4 0 t p l c _).mono ?_
      rintro e w1 ⟨rfl, hb⟩
      have hbk := Blk.next (Blk.new (w := w) (cs := #[.int .i64 4, .int .i64 0, .string t, .slice p l c]) (t := 24)) hb
      have BB : Hid (Below w.heap.size w w1) := ((Below.refl _ _).alloc (Nat.le_refl _) _).trans (hb.mono (by simp))
      have K1 : Hid (KeysAt w1) := ⟨cell_next hb (cell_next ((Below.refl _ _).alloc (Nat.le_refl _) _) HK.out.1), cell_next hb (cell_next ((Below.refl _ _).alloc (Nat.le_refl _) _) HK.out.2.1), cell_next hb (cell_next ((Below.refl _ _).alloc (Nat.le_refl _) _) HK.out.2.2)⟩
      have hlt := hbk.lt
      have a1 := hbk.cell 1 _ rfl
      have a2 := hbk.cell 2 _ rfl
      have a3 := hbk.cell 3 _ rfl
      have hb2 := hbk.alloc (o := .cells #[.slice p l c] 69)
      have c1 := hb2.cell 1 _ rfl
      have c2 := hb2.cell 2 _ rfl
      have c3 := hb2.cell 3 _ rfl
      clear hb2
      clear hb hbk
      go_wp2
      go_ret
      exact ⟨by rw [HS.out]; rfl, by first | exact BB.out | exact BB.out.alloc BB.out.size _⟩
  · have HS : Hid (fB 4 n t l = false) := by show _ = _; simp [fB, hn]
    have hn2 : (n == 0) = false := by simpa using hn
    have q_numberValue := as_consValue_numberValue
    have q_atomValue := as_consValue_atomValue
    have q_tupleValue := as_consValue_tupleValue
    have q_nilValue := as_consValue_nilValue
    have q_consValue := as_consValue_consValue
    go_enter Tryd.func34, Tryd.ntmps34
    go_wp2_with fail
    refine (vof4 n t p l c _).mono ?_
    rintro e w1 ⟨rfl, hb⟩
    have hbk := Blk.next (Blk.new (w := w) (cs := #[.int .i64 4, .int .i64 n, .string t, .slice p l c]) (t := 24)) hb
    have BB : Hid (Below w.heap.size w w1) := ((Below.refl _ _).alloc (Nat.le_refl _) _).trans (hb.mono (by simp))
    have K1 : Hid (KeysAt w1) := ⟨cell_next hb (cell_next ((Below.refl _ _).alloc (Nat.le_refl _) _) HK.out.1), cell_next hb (cell_next ((Below.refl _ _).alloc (Nat.le_refl _) _) HK.out.2.1), cell_next hb (cell_next ((Below.refl _ _).alloc (Nat.le_refl _) _) HK.out.2.2)⟩
    have hlt := hbk.lt
    have a1 := hbk.cell 1 _ rfl
    have a2 := hbk.cell 2 _ rfl
    have a3 := hbk.cell 3 _ rfl
    have hb2 := hbk.alloc (o := .cells #[.slice p l c] 69)
    have c1 := hb2.cell 1 _ rfl
    have c2 := hb2.cell 2 _ rfl
    have c3 := hb2.cell 3 _ rfl
    clear hb2
    clear hb hbk
    go_wp2
    go_ret
    exact ⟨by rw [HS.out]; rfl, by first | exact BB.out | exact BB.out.alloc BB.out.size _⟩

set_option maxHeartbeats 4000000 in
set_option maxRecDepth 100000 in
theorem fieldsS (k n : Int) (t : ByteArray) (p : Option Addr) (l c : Nat) (w : World) (hlb : l ≤ 9223372036854775807) (hts : t.size ≤ maxLen) (hk : KeysAt w) (h0 : ¬ k = 0) (h1 : ¬ k = 1) (h2 : ¬ k = 2) (h3 : ¬ k = 3) (h4 : ¬ k = 4) : Calls Tryd.prog 34 #[.agg #[.int .i64 k, .int .i64 n, .string t, .slice p l c]] w fun e w' => e = .returned (.bool (fB k n t l)) ∧ Below w.heap.size w w' := by
  have HK : Hid (KeysAt w) := hk
  clear hk
  have HS : Hid (fB k n t l = false) := by
    show _ = _
    simp [fB, h0, h1, h2, h3, h4]
  have q_numberValue := as_strangeValue_numberValue
  have q_atomValue := as_strangeValue_atomValue
  have q_tupleValue := as_strangeValue_tupleValue
  have q_nilValue := as_strangeValue_nilValue
  have q_consValue := as_strangeValue_consValue
  go_enter Tryd.func34, Tryd.ntmps34
  go_wp2_with fail
  refine (vofS k n t p l c _ h0 h1 h2 h3 h4).mono ?_
  rintro e w1 ⟨rfl, hb⟩
  have hbk := Blk.next (Blk.new (w := w) (cs := #[.int .i64 k, .int .i64 n, .string t, .slice p l c]) (t := 24)) hb
  have BB : Hid (Below w.heap.size w w1) := ((Below.refl _ _).alloc (Nat.le_refl _) _).trans (hb.mono (by simp))
  have K1 : Hid (KeysAt w1) := ⟨cell_next hb (cell_next ((Below.refl _ _).alloc (Nat.le_refl _) _) HK.out.1), cell_next hb (cell_next ((Below.refl _ _).alloc (Nat.le_refl _) _) HK.out.2.1), cell_next hb (cell_next ((Below.refl _ _).alloc (Nat.le_refl _) _) HK.out.2.2)⟩
  have hlt := hbk.lt
  have a1 := hbk.cell 1 _ rfl
  have a2 := hbk.cell 2 _ rfl
  have a3 := hbk.cell 3 _ rfl
  clear hb hbk
  go_wp2
  go_ret
  exact ⟨by rw [HS.out]; rfl, by first | exact BB.out | exact BB.out.alloc BB.out.size _⟩
end Go.Proofs.YtafehfpjogbmfaaDoor
