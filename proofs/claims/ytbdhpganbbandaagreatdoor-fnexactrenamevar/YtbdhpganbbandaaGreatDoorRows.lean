/-
  NARROWER THAN 'FOR EVERY INPUT', by the rows' own cells (each row's printed sentence says how): FnExactRenameVar: loops, ifaces, laid.
  DERIVED. THE GIVEN ROWS OF THIS SEAT. 1 by the template 'for every input the law returns true; each argument reads behind the call as it read before'; 0 by the template 'total and deterministic' (their statements: YtbdhpganbbandaaGreatDoorTotals.lean).
  GIVEN WITH THE SEED: the statements are not yours to turn. If you find one false, say at which input.
  Laid BY PROGRAM, IN A SANDBOX (cutbox-rows.mjs): the forced cells as the released guide's own fill.sh prints them over the translation ac459afc58be038c… (all of the seat's roots in one cut). By AI agents, Wed Nov 11 2026. No macro, syntax, notation, axiom, sorry.
-/
import Derived.Test.YtbdhpganbbandaaGreatDoorChecked
import GoSem.Claim
import GoSem.ClaimJoined
import GoSem.ClaimMapViews
import Derived.JoinedTies
import Derived.KernelRfl
namespace Go.Proofs.YtbdhpganbbandaaGreatDoor
/- THE CELL 'sum', in the pinned program and in every row, IS THE sha256 OF THE DUMP (.gsa) THAT YtbdhpganbbandaaGreatDoorProg.lean LOADS. Nothing in Lean hashes anything: it is a label: what it is worth is what the hold of that sum in a sandbox is worth. -/
noncomputable def Tryz.pinned : Pinned := { name := "ytbdhpganbbandaagreatdoor", sum := "ac459afc58be038c326e8792cc7d57fd2c7dd1298a3e44572390cbe041860ff6", checked := Tryz.checked }
namespace Rows
def none {H : Type} : Left H := { results := [], args := [] }

/- WHAT THE LISTED PACKAGE-LEVEL VARIABLES READ AS WHEN THE CALL BEGINS. Each datum BY PROGRAM (the guide's laid-datum.mjs) off the statement by which the dump's own 'gosem.cut.vars' lays the variable. In a bare row this is a premise. The card (YtbdhpganbbandaaGreatDoorCards.lean) ties it to the program's text. -/
def laid_loop_example_g00377_impl_keywords {H : Type} : DataW H := .agg [.lit (.string [99, 97, 115, 101]), .lit (.string [111, 102]), .lit (.string [101, 110, 100])]
def laid_loop_example_g00377_impl_shapes {H : Type} : DataW H := .agg [.agg [.lit (.int .i64 0), .lit (.int .i64 0), .lit (.int .i64 0), .lit (.int .i64 0), .lit (.int .i64 0)], .agg [.lit (.int .i64 1), .lit (.int .i64 0), .lit (.int .i64 0), .lit (.int .i64 0), .lit (.int .i64 0)], .agg [.lit (.int .i64 2), .lit (.int .i64 0), .lit (.int .i64 0), .lit (.int .i64 0), .lit (.int .i64 0)], .agg [.lit (.int .i64 0), .lit (.int .i64 0), .lit (.int .i64 0), .lit (.int .i64 0), .lit (.int .i64 0)], .agg [.lit (.int .i64 0), .lit (.int .i64 1), .lit (.int .i64 20), .lit (.int .i64 0), .lit (.int .i64 0)], .agg [.lit (.int .i64 0), .lit (.int .i64 0), .lit (.int .i64 0), .lit (.int .i64 0), .lit (.int .i64 0)], .agg [.lit (.int .i64 0), .lit (.int .i64 2), .lit (.int .i64 2), .lit (.int .i64 0), .lit (.int .i64 0)], .agg [.lit (.int .i64 3), .lit (.int .i64 2), .lit (.int .i64 2), .lit (.int .i64 0), .lit (.int .i64 0)], .agg [.lit (.int .i64 1), .lit (.int .i64 0), .lit (.int .i64 6), .lit (.int .i64 0), .lit (.int .i64 0)], .agg [.lit (.int .i64 0), .lit (.int .i64 2), .lit (.int .i64 2), .lit (.int .i64 0), .lit (.int .i64 0)], .agg [.lit (.int .i64 0), .lit (.int .i64 1), .lit (.int .i64 1), .lit (.int .i64 1), .lit (.int .i64 20)]]
def laid_loop_example_g00377_impl_errBad {H : Type} : DataW H := .iface "*errors.errorString" (.ptr (.agg [.lit (.string [116, 104, 101, 32, 112, 114, 111, 103, 114, 97, 109, 32, 105, 115, 32, 110, 111, 116, 32, 103, 111, 111, 100])]))
def laid_loop_example_g00377_impl_errNone {H : Type} : DataW H := .iface "*errors.errorString" (.ptr (.agg [.lit (.string [105, 116, 32, 105, 115, 32, 110, 111, 116, 32, 116, 104, 101, 114, 101])]))
def laid_loop_example_g00377_impl_errName {H : Type} : DataW H := .iface "*errors.errorString" (.ptr (.agg [.lit (.string [116, 104, 97, 116, 32, 105, 115, 32, 110, 111, 32, 110, 97, 109, 101])]))
def laid_loop_example_g00377_impl_errTaken {H : Type} : DataW H := .iface "*errors.errorString" (.ptr (.agg [.lit (.string [116, 104, 101, 32, 110, 97, 109, 101, 32, 105, 115, 32, 116, 97, 107, 101, 110])]))
def laid_loop_example_g00377_impl_errShape {H : Type} : DataW H := .iface "*errors.errorString" (.ptr (.agg [.lit (.string [105, 116, 32, 104, 97, 115, 32, 110, 111, 116, 32, 116, 104, 101, 32, 115, 104, 97, 112, 101])]))
def laid_loop_example_g00377_impl_errFull {H : Type} : DataW H := .iface "*errors.errorString" (.ptr (.agg [.lit (.string [116, 104, 101, 114, 101, 32, 105, 115, 32, 110, 111, 32, 114, 111, 111, 109])]))

/-- 'laws.FnExactRenameVar': WHATEVER THE INPUT: true; the input reads as it did. -/
def fnExactRenameVarSpec : ChangeSpec := { name := "fnExactRenameVar", vars := ["loop.example/g00377/impl.keywords", "loop.example/g00377/impl.shapes", "loop.example/g00377/impl.errFull", "loop.example/g00377/impl.errBad", "loop.example/g00377/impl.errNone", "loop.example/g00377/impl.errName", "loop.example/g00377/impl.errTaken", "loop.example/g00377/impl.errShape"], fn := fun _ => fun
  | [d1, d2, d3, d4, g1, g2, g3, g4, g5, g6, g7, g8] => { results := [.lit (.bool true)], args := [d1, d2, d3, d4], vars := [g1, g2, g3, g4, g5, g6, g7, g8] }
  | _ => none }
def fnExactRenameVarRow : OpenClaim := { program := "ytbdhpganbbandaagreatdoor", sum := "ac459afc58be038c326e8792cc7d57fd2c7dd1298a3e44572390cbe041860ff6", func := "loop.example/g00377/laws.FnExactRenameVar", spec := "fnExactRenameVar", inPlace := ["internal/bytealg.abigen_runtime_cmpstring", "internal/reflectlite.TypeOf"], unfollowed := true, recurses := true, named := ["loop.example/g00377/impl.keywords", "loop.example/g00377/impl.shapes", "loop.example/g00377/impl.errFull", "loop.example/g00377/impl.errBad", "loop.example/g00377/impl.errNone", "loop.example/g00377/impl.errName", "loop.example/g00377/impl.errTaken", "loop.example/g00377/impl.errShape"], ifaces := true, loops := true, plainKeys := false, apart := false, laid := [("loop.example/g00377/impl.keywords", laid_loop_example_g00377_impl_keywords), ("loop.example/g00377/impl.shapes", laid_loop_example_g00377_impl_shapes), ("loop.example/g00377/impl.errBad", laid_loop_example_g00377_impl_errBad), ("loop.example/g00377/impl.errNone", laid_loop_example_g00377_impl_errNone), ("loop.example/g00377/impl.errName", laid_loop_example_g00377_impl_errName), ("loop.example/g00377/impl.errTaken", laid_loop_example_g00377_impl_errTaken), ("loop.example/g00377/impl.errShape", laid_loop_example_g00377_impl_errShape), ("loop.example/g00377/impl.errFull", laid_loop_example_g00377_impl_errFull)] }
def FnExactRenameVarSaid : Prop := fnExactRenameVarRow.holds Tryz.pinned (OpenSpec.ofChange fnExactRenameVarSpec)

/-- ITS FALSE NEIGHBOUR: 'it returns false'. Refute it at one input. -/
def fnExactRenameVarWrong : ChangeSpec := { name := "fnExactRenameVar", vars := ["loop.example/g00377/impl.keywords", "loop.example/g00377/impl.shapes", "loop.example/g00377/impl.errFull", "loop.example/g00377/impl.errBad", "loop.example/g00377/impl.errNone", "loop.example/g00377/impl.errName", "loop.example/g00377/impl.errTaken", "loop.example/g00377/impl.errShape"], fn := fun _ => fun
  | [d1, d2, d3, d4, g1, g2, g3, g4, g5, g6, g7, g8] => { results := [.lit (.bool false)], args := [d1, d2, d3, d4], vars := [g1, g2, g3, g4, g5, g6, g7, g8] }
  | _ => none }
def FnExactRenameVarWrongFalsely : Prop := fnExactRenameVarRow.holds Tryz.pinned (OpenSpec.ofChange fnExactRenameVarWrong)

/- THE SECOND FORM. 'bulk': how many values and letters a reading holds, each counted each time it is reached (what is shared counts as often as it is met; a slice's spare places count too). A statement '..UptoSaid' is the law's where the arguments, and the package variables that the reading takes, are together of bulk at most 1048576: NARROWER than '..Said'. Prove '..Said' where nothing that the law and all that it calls make is longer than what came in: it says more and counts as full. Else prove '..UptoSaid'. A law counts once. -/
mutual
def uptoBulk {H : Type} : DataW H → Nat
  | .lit (.string bytes) => bytes.length + 1
  | .lit _ => 1
  | .nil => 1
  | .ptr d => uptoBulk d + 1
  | .slice elems spare => uptoBulkAll elems + uptoBulkAll spare + 1
  | .agg parts => uptoBulkAll parts + 1
  | .iface _ d => uptoBulk d + 1
  | .map entries => uptoBulkEntries entries + 1
  | .held _ => 1
def uptoBulkAll {H : Type} : List (DataW H) → Nat
  | [] => 0
  | d :: r => uptoBulk d + uptoBulkAll r
def uptoBulkEntries {H : Type} : List (Lit × DataW H) → Nat
  | [] => 0
  | x :: r => uptoBulkEntry x + uptoBulkEntries r
def uptoBulkEntry {H : Type} : Lit × DataW H → Nat
  | (.string bytes, d) => bytes.length + uptoBulk d + 1
  | (_, d) => uptoBulk d + 1
 end
def uptoSmall : (H : Type) → List (DataW H) → Bool := fun _ ds => decide (uptoBulkAll ds ≤ 1048576)
def OpenSpec.upto (s : _root_.Go.ChangeSpec) : _root_.Go.OpenSpec := { _root_.Go.OpenSpec.ofChange s with cond := some uptoSmall }

/-- 'laws.FnExactRenameVar', WHERE WHAT IT READS IS OF BULK AT MOST 1048576: true; the input reads as it did. -/
def fnExactRenameVarUptoRow : OpenClaim := { program := "ytbdhpganbbandaagreatdoor", sum := "ac459afc58be038c326e8792cc7d57fd2c7dd1298a3e44572390cbe041860ff6", func := "loop.example/g00377/laws.FnExactRenameVar", spec := "fnExactRenameVar", inPlace := ["internal/bytealg.abigen_runtime_cmpstring", "internal/reflectlite.TypeOf"], unfollowed := true, recurses := true, named := ["loop.example/g00377/impl.keywords", "loop.example/g00377/impl.shapes", "loop.example/g00377/impl.errFull", "loop.example/g00377/impl.errBad", "loop.example/g00377/impl.errNone", "loop.example/g00377/impl.errName", "loop.example/g00377/impl.errTaken", "loop.example/g00377/impl.errShape"], ifaces := true, loops := true, plainKeys := false, apart := false, laid := [("loop.example/g00377/impl.keywords", laid_loop_example_g00377_impl_keywords), ("loop.example/g00377/impl.shapes", laid_loop_example_g00377_impl_shapes), ("loop.example/g00377/impl.errBad", laid_loop_example_g00377_impl_errBad), ("loop.example/g00377/impl.errNone", laid_loop_example_g00377_impl_errNone), ("loop.example/g00377/impl.errName", laid_loop_example_g00377_impl_errName), ("loop.example/g00377/impl.errTaken", laid_loop_example_g00377_impl_errTaken), ("loop.example/g00377/impl.errShape", laid_loop_example_g00377_impl_errShape), ("loop.example/g00377/impl.errFull", laid_loop_example_g00377_impl_errFull)], narrowed := true }
def FnExactRenameVarUptoSaid : Prop := fnExactRenameVarUptoRow.holds Tryz.pinned (OpenSpec.upto fnExactRenameVarSpec)

end Rows
end Go.Proofs.YtbdhpganbbandaaGreatDoor
