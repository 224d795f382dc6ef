/-
  The program's valueOf, by contract, and the kinds of what it answers.
-/
import Derived.Test.YthcdppdmiicelaaDoorValTree
namespace Go.Proofs.YthcdppdmiicelaaDoor
open Go.ChangeShapes Go.WideShapes Go.ChangeAt Go.RowKit
set_option linter.unusedVariables false
theorem as_numberValue_numberValue (v : Value) (w : World) : (Instr.typeAssert (.iface 58 v) 54 58 true).run Tryd.prog w = .ok (.tuple #[v, .bool true]) w := by kernel_rfl
theorem as_numberValue_atomValue (v : Value) (w : World) : (Instr.typeAssert (.iface 58 v) 54 60 true).run Tryd.prog w = .ok (.tuple #[.agg #[.string ⟨#[]⟩], .bool false]) w := by kernel_rfl
theorem as_numberValue_tupleValue (v : Value) (w : World) : (Instr.typeAssert (.iface 58 v) 54 62 true).run Tryd.prog w = .ok (.tuple #[.agg #[.slice none 0 0], .bool false]) w := by kernel_rfl
theorem as_numberValue_nilValue (v : Value) (w : World) : (Instr.typeAssert (.iface 58 v) 54 65 true).run Tryd.prog w = .ok (.tuple #[.agg #[], .bool false]) w := by kernel_rfl
theorem as_numberValue_consValue (v : Value) (w : World) : (Instr.typeAssert (.iface 58 v) 54 66 true).run Tryd.prog w = .ok (.tuple #[.agg #[.slice none 0 0], .bool false]) w := by kernel_rfl
theorem as_atomValue_numberValue (v : Value) (w : World) : (Instr.typeAssert (.iface 60 v) 54 58 true).run Tryd.prog w = .ok (.tuple #[.agg #[.int .i64 0], .bool false]) w := by kernel_rfl
theorem as_atomValue_atomValue (v : Value) (w : World) : (Instr.typeAssert (.iface 60 v) 54 60 true).run Tryd.prog w = .ok (.tuple #[v, .bool true]) w := by kernel_rfl
theorem as_atomValue_tupleValue (v : Value) (w : World) : (Instr.typeAssert (.iface 60 v) 54 62 true).run Tryd.prog w = .ok (.tuple #[.agg #[.slice none 0 0], .bool false]) w := by kernel_rfl
theorem as_atomValue_nilValue (v : Value) (w : World) : (Instr.typeAssert (.iface 60 v) 54 65 true).run Tryd.prog w = .ok (.tuple #[.agg #[], .bool false]) w := by kernel_rfl
theorem as_atomValue_consValue (v : Value) (w : World) : (Instr.typeAssert (.iface 60 v) 54 66 true).run Tryd.prog w = .ok (.tuple #[.agg #[.slice none 0 0], .bool false]) w := by kernel_rfl
theorem as_tupleValue_numberValue (v : Value) (w : World) : (Instr.typeAssert (.iface 62 v) 54 58 true).run Tryd.prog w = .ok (.tuple #[.agg #[.int .i64 0], .bool false]) w := by kernel_rfl
theorem as_tupleValue_atomValue (v : Value) (w : World) : (Instr.typeAssert (.iface 62 v) 54 60 true).run Tryd.prog w = .ok (.tuple #[.agg #[.string ⟨#[]⟩], .bool false]) w := by kernel_rfl
theorem as_tupleValue_tupleValue (v : Value) (w : World) : (Instr.typeAssert (.iface 62 v) 54 62 true).run Tryd.prog w = .ok (.tuple #[v, .bool true]) w := by kernel_rfl
theorem as_tupleValue_nilValue (v : Value) (w : World) : (Instr.typeAssert (.iface 62 v) 54 65 true).run Tryd.prog w = .ok (.tuple #[.agg #[], .bool false]) w := by kernel_rfl
theorem as_tupleValue_consValue (v : Value) (w : World) : (Instr.typeAssert (.iface 62 v) 54 66 true).run Tryd.prog w = .ok (.tuple #[.agg #[.slice none 0 0], .bool false]) w := by kernel_rfl
theorem as_nilValue_numberValue (v : Value) (w : World) : (Instr.typeAssert (.iface 65 v) 54 58 true).run Tryd.prog w = .ok (.tuple #[.agg #[.int .i64 0], .bool false]) w := by kernel_rfl
theorem as_nilValue_atomValue (v : Value) (w : World) : (Instr.typeAssert (.iface 65 v) 54 60 true).run Tryd.prog w = .ok (.tuple #[.agg #[.string ⟨#[]⟩], .bool false]) w := by kernel_rfl
theorem as_nilValue_tupleValue (v : Value) (w : World) : (Instr.typeAssert (.iface 65 v) 54 62 true).run Tryd.prog w = .ok (.tuple #[.agg #[.slice none 0 0], .bool false]) w := by kernel_rfl
theorem as_nilValue_nilValue (v : Value) (w : World) : (Instr.typeAssert (.iface 65 v) 54 65 true).run Tryd.prog w = .ok (.tuple #[v, .bool true]) w := by kernel_rfl
theorem as_nilValue_consValue (v : Value) (w : World) : (Instr.typeAssert (.iface 65 v) 54 66 true).run Tryd.prog w = .ok (.tuple #[.agg #[.slice none 0 0], .bool false]) w := by kernel_rfl
theorem as_consValue_numberValue (v : Value) (w : World) : (Instr.typeAssert (.iface 66 v) 54 58 true).run Tryd.prog w = .ok (.tuple #[.agg #[.int .i64 0], .bool false]) w := by kernel_rfl
theorem as_consValue_atomValue (v : Value) (w : World) : (Instr.typeAssert (.iface 66 v) 54 60 true).run Tryd.prog w = .ok (.tuple #[.agg #[.string ⟨#[]⟩], .bool false]) w := by kernel_rfl
theorem as_consValue_tupleValue (v : Value) (w : World) : (Instr.typeAssert (.iface 66 v) 54 62 true).run Tryd.prog w = .ok (.tuple #[.agg #[.slice none 0 0], .bool false]) w := by kernel_rfl
theorem as_consValue_nilValue (v : Value) (w : World) : (Instr.typeAssert (.iface 66 v) 54 65 true).run Tryd.prog w = .ok (.tuple #[.agg #[], .bool false]) w := by kernel_rfl
theorem as_consValue_consValue (v : Value) (w : World) : (Instr.typeAssert (.iface 66 v) 54 66 true).run Tryd.prog w = .ok (.tuple #[v, .bool true]) w := by kernel_rfl
theorem as_strangeValue_numberValue (v : Value) (w : World) : (Instr.typeAssert (.iface 69 v) 54 58 true).run Tryd.prog w = .ok (.tuple #[.agg #[.int .i64 0], .bool false]) w := by kernel_rfl
theorem as_strangeValue_atomValue (v : Value) (w : World) : (Instr.typeAssert (.iface 69 v) 54 60 true).run Tryd.prog w = .ok (.tuple #[.agg #[.string ⟨#[]⟩], .bool false]) w := by kernel_rfl
theorem as_strangeValue_tupleValue (v : Value) (w : World) : (Instr.typeAssert (.iface 69 v) 54 62 true).run Tryd.prog w = .ok (.tuple #[.agg #[.slice none 0 0], .bool false]) w := by kernel_rfl
theorem as_strangeValue_nilValue (v : Value) (w : World) : (Instr.typeAssert (.iface 69 v) 54 65 true).run Tryd.prog w = .ok (.tuple #[.agg #[], .bool false]) w := by kernel_rfl
theorem as_strangeValue_consValue (v : Value) (w : World) : (Instr.typeAssert (.iface 69 v) 54 66 true).run Tryd.prog w = .ok (.tuple #[.agg #[.slice none 0 0], .bool false]) w := by kernel_rfl
theorem me_numberValue (v : Value) (w : World) : (method 206 58 v "loop.example/g00377/impl.parts").run Tryd.prog w = .ok (77, v) w := by kernel_rfl
theorem me_atomValue (v : Value) (w : World) : (method 206 60 v "loop.example/g00377/impl.parts").run Tryd.prog w = .ok (78, v) w := by kernel_rfl
theorem me_tupleValue (v : Value) (w : World) : (method 206 62 v "loop.example/g00377/impl.parts").run Tryd.prog w = .ok (79, v) w := by kernel_rfl
theorem me_nilValue (v : Value) (w : World) : (method 206 65 v "loop.example/g00377/impl.parts").run Tryd.prog w = .ok (80, v) w := by kernel_rfl
theorem me_consValue (v : Value) (w : World) : (method 206 66 v "loop.example/g00377/impl.parts").run Tryd.prog w = .ok (81, v) w := by kernel_rfl
theorem me_strangeValue (v : Value) (w : World) : (method 206 69 v "loop.example/g00377/impl.parts").run Tryd.prog w = .ok (82, v) w := by kernel_rfl

theorem vof0 (n : Int) (t : ByteArray) (p : Option Addr) (l c : Nat) (w : World) : Calls Tryd.prog 29 #[.agg #[.int .i64 0, .int .i64 n, .string t, .slice p l c]] w fun e w' => e = .returned (.iface 58 (.agg #[.int .i64 n])) ∧ Below w.heap.size w w' := by
  go_enter Tryd.func29, Tryd.ntmps29
  go_wp2
  go_ret
  exact ⟨rfl, (Below.refl _ _).alloc (Nat.le_refl _) _⟩

theorem vof1 (n : Int) (t : ByteArray) (p : Option Addr) (l c : Nat) (w : World) : Calls Tryd.prog 29 #[.agg #[.int .i64 1, .int .i64 n, .string t, .slice p l c]] w fun e w' => e = .returned (.iface 60 (.agg #[.string t])) ∧ Below w.heap.size w w' := by
  go_enter Tryd.func29, Tryd.ntmps29
  go_wp2
  go_ret
  exact ⟨rfl, (Below.refl _ _).alloc (Nat.le_refl _) _⟩

theorem vof2 (n : Int) (t : ByteArray) (p : Option Addr) (l c : Nat) (w : World) : Calls Tryd.prog 29 #[.agg #[.int .i64 2, .int .i64 n, .string t, .slice p l c]] w fun e w' => e = .returned (.iface 62 (.agg #[.slice p l c])) ∧ Below w.heap.size w w' := by
  go_enter Tryd.func29, Tryd.ntmps29
  go_wp2
  go_ret
  exact ⟨rfl, (Below.refl _ _).alloc (Nat.le_refl _) _⟩

theorem vof3 (n : Int) (t : ByteArray) (p : Option Addr) (l c : Nat) (w : World) : Calls Tryd.prog 29 #[.agg #[.int .i64 3, .int .i64 n, .string t, .slice p l c]] w fun e w' => e = .returned (.iface 65 (.agg #[])) ∧ Below w.heap.size w w' := by
  go_enter Tryd.func29, Tryd.ntmps29
  go_wp2
  go_ret
  exact ⟨rfl, (Below.refl _ _).alloc (Nat.le_refl _) _⟩

theorem vof4 (n : Int) (t : ByteArray) (p : Option Addr) (l c : Nat) (w : World) : Calls Tryd.prog 29 #[.agg #[.int .i64 4, .int .i64 n, .string t, .slice p l c]] w fun e w' => e = .returned (.iface 66 (.agg #[.slice p l c])) ∧ Below w.heap.size w w' := by
  go_enter Tryd.func29, Tryd.ntmps29
  go_wp2
  go_ret
  exact ⟨rfl, (Below.refl _ _).alloc (Nat.le_refl _) _⟩

theorem vofS (k n : Int) (t : ByteArray) (p : Option Addr) (l c : Nat) (w : World) (h0 : ¬ k = 0) (h1 : ¬ k = 1) (h2 : ¬ k = 2) (h3 : ¬ k = 3) (h4 : ¬ k = 4) : Calls Tryd.prog 29 #[.agg #[.int .i64 k, .int .i64 n, .string t, .slice p l c]] w fun e w' => e = .returned (.iface 69 (.agg #[])) ∧ Below w.heap.size w w' := by
  go_enter Tryd.func29, Tryd.ntmps29
  go_wp2
  go_ret
  exact ⟨rfl, (Below.refl _ _).alloc (Nat.le_refl _) _⟩
end Go.Proofs.YthcdppdmiicelaaDoor
