/-
  Places: a module's name, a function's with its number of parameters, and a clause's number; the laws' readers of them, by contract.
-/
import Derived.Test.YtcfglkmcjmhoiaaDoorGen
namespace Go.Proofs.YtcfglkmcjmhoiaaDoor
open Go.ChangeShapes Go.WideShapes Go.ChangeAt Go.RowKit
set_option linter.unusedVariables false

structure Pl where
  mod : ByteArray
  name : ByteArray
  arity : Int
  clause : Int
def wtPl (q : Pl) : Nat := q.mod.size + q.name.size

theorem szPlace_any (w : World) (q : Pl) (r : Nat) (hr : r ≤ 1048576) (h0 : okS q.mod) (h1 : okS q.name) :
    Calls Tryd.prog 8 #[.agg #[.string q.mod, .string q.name, .int .i64 q.arity, .int .i64 q.clause], .int .i64 r] w fun e w' => e = .returned (.int .i64 (leftOf r (wtPl q))) ∧ Below w.heap.size w w' := by
  obtain ⟨m, s, n, c⟩ := q
  simp only [okS, maxLen] at h0 h1
  have HW : Hid (wtPl ⟨m, s, n, c⟩ = m.size + s.size) := rfl
  generalize wtPl ⟨m, s, n, c⟩ = W at *
  have BL : Hid (∀ (cs : Array Value) (t : TypeId), Below w.heap.size w (w.alloc (.cells cs t))) := fun cs t => (Below.refl _ _).alloc (Nat.le_refl _) _
  by_cases t0 : r < m.size
  · have HR : Hid (leftOf r W = -1) := leftOf_lt (by rw [HW.out]; omega)
    go_enter Tryd.func8, Tryd.ntmps8
    go_wp2_with fail
    go_ret
    exact ⟨by rw [HR.out]; rfl, BL.out _ _⟩
  · by_cases t1 : r < m.size + s.size
    · have HR : Hid (leftOf r W = -1) := leftOf_lt (by rw [HW.out]; omega)
      go_enter Tryd.func8, Tryd.ntmps8
      go_wp2_with fail
      go_ret
      exact ⟨by rw [HR.out]; rfl, BL.out _ _⟩
    · have HR : Hid (leftOf r W = r - m.size - s.size) := by
        show leftOf r W = _
        rw [leftOf_ge (by rw [HW.out]; omega), HW.out]; omega
      go_enter Tryd.func8, Tryd.ntmps8
      go_wp2_with fail
      go_ret
      exact ⟨by rw [HR.out]; rfl, BL.out _ _⟩

theorem toPlace_any (w : World) (q : Pl) :
    Calls Tryd.prog 10 #[.agg #[.string q.mod, .string q.name, .int .i64 q.arity, .int .i64 q.clause]] w fun e w' => e = .returned (.agg #[.string q.mod, .string q.name, .int .i64 q.arity, .int .i64 q.clause]) ∧ Below w.heap.size w w' := by
  obtain ⟨m, s, n, c⟩ := q
  have BL : Hid (∀ (cs cs' : Array Value) (t t' : TypeId), Below w.heap.size w ((w.alloc (.cells cs t)).alloc (.cells cs' t'))) := fun cs cs' t t' => ((Below.refl _ _).alloc (Nat.le_refl _) _).alloc (by simp) _
  have RB : Hid (∀ (cs cs' : Array Value) (t t' : TypeId), Blk (((w.alloc (.cells cs t)).alloc (.cells #[.string m, .string s, .int .i64 n, .int .i64 c] 28)).alloc (.cells cs' t')) (w.heap.size + 1) #[.string m, .string s, .int .i64 n, .int .i64 c] 28) := fun cs cs' t t' => by
    have := Blk.new (w := w.alloc (.cells cs t)) (cs := #[.string m, .string s, .int .i64 n, .int .i64 c]) (t := 28)
    rw [alloc_hs] at this
    exact this.alloc
  have BL3 : Hid (∀ (cs cs' cs'' : Array Value) (t t' t'' : TypeId), Below w.heap.size w (((w.alloc (.cells cs t)).alloc (.cells cs' t')).alloc (.cells cs'' t''))) := fun cs cs' cs'' t t' t'' => (((Below.refl _ _).alloc (Nat.le_refl _) _).alloc (by simp only [alloc_hs]; omega) _).alloc (by simp only [alloc_hs]; omega) _
  go_enter Tryd.func10, Tryd.ntmps10
  go_wp2_with fail
  have q := RB.out #[.string m, .string s, .int .i64 n, .int .i64 c] #[.string m, .string s, .int .i64 n, .int .i64 c] 23 28
  have q0 := q.cell 0 _ rfl
  have q1 := q.cell 1 _ rfl
  have q2 := q.cell 2 _ rfl
  have q3 := q.cell 3 _ rfl
  exact bodyPost_ret (v := .agg #[.string m, .string s, .int .i64 n, .int .i64 c]) (by simp [results, Tryd.results10, go_sem, q0, q1, q2, q3]) rfl ⟨rfl, BL3.out _ _ _ _ _ _⟩
end Go.Proofs.YtcfglkmcjmhoiaaDoor
