/-
  TokBase
-/
import Derived.Test.YtacioihbhkcdcaaGreatDoorRows
import Derived.WalkKit
import Derived.ProofKit
set_option maxHeartbeats 16000000
set_option linter.unusedVariables false
set_option maxRecDepth 100000
namespace Go.Proofs.YtacioihbhkcdcaaGreatDoor
open Go.ChangeShapes Go.WideShapes Go.ChangeAt Go.RowKit
structure Tok where
 kind:Int
 text:List UInt8
 n:Int
 line:Int
def Tok.cells (t:Tok):List Value:=[.int .i64 t.kind,.string ⟨t.text.toArray⟩,.int .i64 t.n,.int .i64 t.line]
def Tok.agg (t:Tok):Value:=.agg #[.int .i64 t.kind,.string ⟨t.text.toArray⟩,.int .i64 t.n,.int .i64 t.line]
def Za6 (ts:List Tok):List Value:=ts.flatMap Tok.cells
theorem ZhJ (ts:List Tok) (i:Nat) (h:i<ts.length) (j:Nat) (hj:j<4):(Za6 ts)[i * 4+j]?=(ts[i]).cells[j]?:=by
 induction ts generalizing i with
 | nil=>simp at h
 | cons t ts ih =>
  cases i with
  | zero =>
   simp only [Za6,List.flatMap_cons];rw [List.getElem?_append_left (by simp [Tok.cells];omega)];simp
  | succ i =>
   simp only [Za6,List.flatMap_cons];rw [List.getElem?_append_right (by simp [Tok.cells];omega)];have:=ih i (by simpa using h);simp only [Za6] at this;rw [show (i+1) * 4+j - t.cells.length=i * 4+j by simp [Tok.cells];omega,this];simp
end Go.Proofs.YtacioihbhkcdcaaGreatDoor
