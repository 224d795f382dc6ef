/-
  JoinMath StrOf
-/
import Derived.Test.YtknjlffbdadohaaGreatDoorP06
set_option maxHeartbeats 16000000
set_option linter.unusedVariables false
set_option maxRecDepth 100000
namespace Go.Proofs.YtknjlffbdadohaaGreatDoor
open Go.ChangeShapes Go.WideShapes Go.ChangeAt Go.RowKit
theorem itoa_len (n:Int) (h0:-9223372036854775808≤n) (h1:n≤9223372036854775807):(Lib.itoa n).length≤21:=by
  have:=digits_le n h0 h1
  by_cases h:n<0
  · rw [itoa_neg n h];simp;omega
  · rw [itoa_pos n (by omega)];omega
theorem okI_bd {n:Int} (h:okI n):-9223372036854775808≤n∧n≤9223372036854775807:=by
  unfold okI at h
  simp only [Lit.wf,IntKind.min,IntKind.max,IntKind.signed,IntKind.bits,Bool.and_eq_true,decide_eq_true_eq,if_true] at h
  exact ⟨by omega,by omega⟩
theorem bsize (s:ByteArray):s.data.toList.length=s.size:=by rw [Array.length_toList];rfl
def strOf (l:List UInt8):ByteArray:=⟨l.toArray⟩
theorem strOf_size (l:List UInt8):(strOf l).size=l.length:=by simp [strOf,ByteArray.size]
theorem strOf_data (l:List UInt8):(strOf l).data.toList=l:=by simp [strOf]
theorem strOf_self (a:ByteArray):strOf a.data.toList=a:=by simp [strOf]
theorem ret_strOf {a:ByteArray} {l:List UInt8} (h:a.data.toList=l):Ending.returned (.string a)=.returned (.string (strOf l)):=by rw [← h,strOf_self]
def refT (r:Rf):List UInt8:=r.name.data.toList ++ [47] ++ Lib.itoa r.arity
end Go.Proofs.YtknjlffbdadohaaGreatDoor
