/-
  The program's valueOf, by contract, and the kinds of what it answers.
-/
import Derived.Test.YtafehfpjogbmfaaDoorValTree
namespace Go.Proofs.YtafehfpjogbmfaaDoor
open Go.ChangeShapes Go.WideShapes Go.ChangeAt Go.RowKit
set_option linter.unusedVariables false
theorem as_numberValue_numberValue (v : Value) (w : World) : (Instr.typeAssert (.iface 62 v) 49 62 true).run Tryd.prog w = .ok (.tuple #[v, .bool true]) w := by kernel_rfl
theorem as_numberValue_atomValue (v : Value) (w : World) : (Instr.typeAssert (.iface 62 v) 49 64 true).run Tryd.prog w = .ok (.tuple #[.agg #[.string ⟨#[]⟩], .bool false]) w := by kernel_rfl
theorem as_numberValue_tupleValue (v : Value) (w : World) : (Instr.typeAssert (.iface 62 v) 49 66 true).run Tryd.prog w = .ok (.tuple #[.agg #[.slice none 0 0], .bool false]) w := by kernel_rfl
theorem as_numberValue_nilValue (v : Value) (w : World) : (Instr.typeAssert (.iface 62 v) 49 68 true).run Tryd.prog w = .ok (.tuple #[.agg #[], .bool false]) w := by kernel_rfl
theorem as_numberValue_consValue (v : Value) (w : World) : (Instr.typeAssert (.iface 62 v) 49 69 true).run Tryd.prog w = .ok (.tuple #[.agg #[.slice none 0 0], .bool false]) w := by kernel_rfl
theorem as_atomValue_numberValue (v : Value) (w : World) : (Instr.typeAssert (.iface 64 v) 49 62 true).run Tryd.prog w = .ok (.tuple #[.agg #[.int .i64 0], .bool false]) w := by kernel_rfl
theorem as_atomValue_atomValue (v : Value) (w : World) : (Instr.typeAssert (.iface 64 v) 49 64 true).run Tryd.prog w = .ok (.tuple #[v, .bool true]) w := by kernel_rfl
theorem as_atomValue_tupleValue (v : Value) (w : World) : (Instr.typeAssert (.iface 64 v) 49 66 true).run Tryd.prog w = .ok (.tuple #[.agg #[.slice none 0 0], .bool false]) w := by kernel_rfl
theorem as_atomValue_nilValue (v : Value) (w : World) : (Instr.typeAssert (.iface 64 v) 49 68 true).run Tryd.prog w = .ok (.tuple #[.agg #[], .bool false]) w := by kernel_rfl
theorem as_atomValue_consValue (v : Value) (w : World) : (Instr.typeAssert (.iface 64 v) 49 69 true).run Tryd.prog w = .ok (.tuple #[.agg #[.slice none 0 0], .bool false]) w := by kernel_rfl
theorem as_tupleValue_numberValue (v : Value) (w : World) : (Instr.typeAssert (.iface 66 v) 49 62 true).run Tryd.prog w = .ok (.tuple #[.agg #[.int .i64 0], .bool false]) w := by kernel_rfl
theorem as_tupleValue_atomValue (v : Value) (w : World) : (Instr.typeAssert (.iface 66 v) 49 64 true).run Tryd.prog w = .ok (.tuple #[.agg #[.string ⟨#[]⟩], .bool false]) w := by kernel_rfl
theorem as_tupleValue_tupleValue (v : Value) (w : World) : (Instr.typeAssert (.iface 66 v) 49 66 true).run Tryd.prog w = .ok (.tuple #[v, .bool true]) w := by kernel_rfl
theorem as_tupleValue_nilValue (v : Value) (w : World) : (Instr.typeAssert (.iface 66 v) 49 68 true).run Tryd.prog w = .ok (.tuple #[.agg #[], .bool false]) w := by kernel_rfl
theorem as_tupleValue_consValue (v : Value) (w : World) : (Instr.typeAssert (.iface 66 v) 49 69 true).run Tryd.prog w = .ok (.tuple #[.agg #[.slice none 0 0], .bool false]) w := by kernel_rfl
theorem as_nilValue_numberValue (v : Value) (w : World) : (Instr.typeAssert (.iface 68 v) 49 62 true).run Tryd.prog w = .ok (.tuple #[.agg #[.int .i64 0], .bool false]) w := by kernel_rfl
theorem as_nilValue_atomValue (v : Value) (w : World) : (Instr.typeAssert (.iface 68 v) 49 64 true).run Tryd.prog w = .ok (.tuple #[.agg #[.string ⟨#[]⟩], .bool false]) w := by kernel_rfl
theorem as_nilValue_tupleValue (v : Value) (w : World) : (Instr.typeAssert (.iface 68 v) 49 66 true).run Tryd.prog w = .ok (.tuple #[.agg #[.slice none 0 0], .bool false]) w := by kernel_rfl
theorem as_nilValue_nilValue (v : Value) (w : World) : (Instr.typeAssert (.iface 68 v) 49 68 true).run Tryd.prog w = .ok (.tuple #[v, .bool true]) w := by kernel_rfl
theorem as_nilValue_consValue (v : Value) (w : World) : (Instr.typeAssert (.iface 68 v) 49 69 true).run Tryd.prog w = .ok (.tuple #[.agg #[.slice none 0 0], .bool false]) w := by kernel_rfl
theorem as_consValue_numberValue (v : Value) (w : World) : (Instr.typeAssert (.iface 69 v) 49 62 true).run Tryd.prog w = .ok (.tuple #[.agg #[.int .i64 0], .bool false]) w := by kernel_rfl
theorem as_consValue_atomValue (v : Value) (w : World) : (Instr.typeAssert (.iface 69 v) 49 64 true).run Tryd.prog w = .ok (.tuple #[.agg #[.string ⟨#[]⟩], .bool false]) w := by kernel_rfl
theorem as_consValue_tupleValue (v : Value) (w : World) : (Instr.typeAssert (.iface 69 v) 49 66 true).run Tryd.prog w = .ok (.tuple #[.agg #[.slice none 0 0], .bool false]) w := by kernel_rfl
theorem as_consValue_nilValue (v : Value) (w : World) : (Instr.typeAssert (.iface 69 v) 49 68 true).run Tryd.prog w = .ok (.tuple #[.agg #[], .bool false]) w := by kernel_rfl
theorem as_consValue_consValue (v : Value) (w : World) : (Instr.typeAssert (.iface 69 v) 49 69 true).run Tryd.prog w = .ok (.tuple #[v, .bool true]) w := by kernel_rfl
theorem as_strangeValue_numberValue (v : Value) (w : World) : (Instr.typeAssert (.iface 71 v) 49 62 true).run Tryd.prog w = .ok (.tuple #[.agg #[.int .i64 0], .bool false]) w := by kernel_rfl
theorem as_strangeValue_atomValue (v : Value) (w : World) : (Instr.typeAssert (.iface 71 v) 49 64 true).run Tryd.prog w = .ok (.tuple #[.agg #[.string ⟨#[]⟩], .bool false]) w := by kernel_rfl
theorem as_strangeValue_tupleValue (v : Value) (w : World) : (Instr.typeAssert (.iface 71 v) 49 66 true).run Tryd.prog w = .ok (.tuple #[.agg #[.slice none 0 0], .bool false]) w := by kernel_rfl
theorem as_strangeValue_nilValue (v : Value) (w : World) : (Instr.typeAssert (.iface 71 v) 49 68 true).run Tryd.prog w = .ok (.tuple #[.agg #[], .bool false]) w := by kernel_rfl
theorem as_strangeValue_consValue (v : Value) (w : World) : (Instr.typeAssert (.iface 71 v) 49 69 true).run Tryd.prog w = .ok (.tuple #[.agg #[.slice none 0 0], .bool false]) w := by kernel_rfl
theorem me_numberValue (v : Value) (w : World) : (method 210 62 v "loop.example/g00377/impl.parts").run Tryd.prog w = .ok (92, v) w := by kernel_rfl
theorem me_atomValue (v : Value) (w : World) : (method 210 64 v "loop.example/g00377/impl.parts").run Tryd.prog w = .ok (93, v) w := by kernel_rfl
theorem me_tupleValue (v : Value) (w : World) : (method 210 66 v "loop.example/g00377/impl.parts").run Tryd.prog w = .ok (94, v) w := by kernel_rfl
theorem me_nilValue (v : Value) (w : World) : (method 210 68 v "loop.example/g00377/impl.parts").run Tryd.prog w = .ok (95, v) w := by kernel_rfl
theorem me_consValue (v : Value) (w : World) : (method 210 69 v "loop.example/g00377/impl.parts").run Tryd.prog w = .ok (96, v) w := by kernel_rfl
theorem me_strangeValue (v : Value) (w : World) : (method 210 71 v "loop.example/g00377/impl.parts").run Tryd.prog w = .ok (97, v) w := by kernel_rfl

theorem vof0 (n : Int) (t : ByteArray) (p : Option Addr) (l c : Nat) (w : World) : Calls Tryd.prog 35 #[.agg #[.int .i64 0, .int .i64 n, .string t, .slice p l c]] w fun e w' => e = .returned (.iface 62 (.agg #[.int .i64 n])) ∧ Below w.heap.size w w' := by
  go_enter Tryd.func35, Tryd.ntmps35
  go_wp2
  go_ret
  exact ⟨rfl, (Below.refl _ _).alloc (Nat.le_refl _) _⟩

theorem vof1 (n : Int) (t : ByteArray) (p : Option Addr) (l c : Nat) (w : World) : Calls Tryd.prog 35 #[.agg #[.int .i64 1, .int .i64 n, .string t, .slice p l c]] w fun e w' => e = .returned (.iface 64 (.agg #[.string t])) ∧ Below w.heap.size w w' := by
  go_enter Tryd.func35, Tryd.ntmps35
  go_wp2
  go_ret
  exact ⟨rfl, (Below.refl _ _).alloc (Nat.le_refl _) _⟩

theorem vof2 (n : Int) (t : ByteArray) (p : Option Addr) (l c : Nat) (w : World) : Calls Tryd.prog 35 #[.agg #[.int .i64 2, .int .i64 n, .string t, .slice p l c]] w fun e w' => e = .returned (.iface 66 (.agg #[.slice p l c])) ∧ Below w.heap.size w w' := by
  go_enter Tryd.func35, Tryd.ntmps35
  go_wp2
  go_ret
  exact ⟨rfl, (Below.refl _ _).alloc (Nat.le_refl _) _⟩

theorem vof3 (n : Int) (t : ByteArray) (p : Option Addr) (l c : Nat) (w : World) : Calls Tryd.prog 35 #[.agg #[.int .i64 3, .int .i64 n, .string t, .slice p l c]] w fun e w' => e = .returned (.iface 68 (.agg #[])) ∧ Below w.heap.size w w' := by
  go_enter Tryd.func35, Tryd.ntmps35
  go_wp2
  go_ret
  exact ⟨rfl, (Below.refl _ _).alloc (Nat.le_refl _) _⟩

theorem vof4 (n : Int) (t : ByteArray) (p : Option Addr) (l c : Nat) (w : World) : Calls Tryd.prog 35 #[.agg #[.int .i64 4, .int .i64 n, .string t, .slice p l c]] w fun e w' => e = .returned (.iface 69 (.agg #[.slice p l c])) ∧ Below w.heap.size w w' := by
  go_enter Tryd.func35, Tryd.ntmps35
  go_wp2
  go_ret
  exact ⟨rfl, (Below.refl _ _).alloc (Nat.le_refl _) _⟩

theorem vofS (k n : Int) (t : ByteArray) (p : Option Addr) (l c : Nat) (w : World) (h0 : ¬ k = 0) (h1 : ¬ k = 1) (h2 : ¬ k = 2) (h3 : ¬ k = 3) (h4 : ¬ k = 4) : Calls Tryd.prog 35 #[.agg #[.int .i64 k, .int .i64 n, .string t, .slice p l c]] w fun e w' => e = .returned (.iface 71 (.agg #[])) ∧ Below w.heap.size w w' := by
  go_enter Tryd.func35, Tryd.ntmps35
  go_wp2
  go_ret
  exact ⟨rfl, (Below.refl _ _).alloc (Nat.le_refl _) _⟩
end Go.Proofs.YtafehfpjogbmfaaDoor
