/-
  ParTop
-/
import Derived.Test.YtacioihbhkcdcaaGreatDoorP22
import Derived.Test.YtacioihbhkcdcaaGreatDoorP26
import Derived.Test.YtacioihbhkcdcaaGreatDoorP09
set_option maxHeartbeats 16000000
set_option linter.unusedVariables false
set_option maxRecDepth 100000
namespace Go.Proofs.YtacioihbhkcdcaaGreatDoor
open Go.ChangeShapes Go.WideShapes Go.ChangeAt Go.RowKit
def md0:Md:=⟨⟨#[]⟩,[],[]⟩
noncomputable def prsW (ts:List Tok):Md × Int :=
 if (pMod ts (pE ts (ts.length+1))).2.2=true then (md0,misL ts (pMod ts (pE ts (ts.length+1))).2.1)
 else if mdOk (SizeOf.sizeOf (mdF (pMod ts (pE ts (ts.length+1))).1)) (mdF (pMod ts (pE ts (ts.length+1))).1)=true then (mdF (pMod ts (pE ts (ts.length+1))).1,0) else (md0,1)
noncomputable def prsM (l:List UInt8):Md × Int:=if (lexM l).2=0 then prsW (lexM l).1 else (md0,(lexM l).2)
def PrsO (r:Md × Int) (w:World) (e:Ending) (w':World):Prop:=∃ v,e=.returned (.tuple #[v,.int .i64 r.2])/\OwnM w r.1 v w'/\Bz w w'
theorem Zfs {l:List UInt8} (h:(lexM l).2≠0):prsM l=(md0,(lexM l).2):=by unfold prsM;rw [if_neg h]
theorem Zet {l:List UInt8} (h:(lexM l).2=0):prsM l=prsW (lexM l).1:=by unfold prsM;rw [if_pos h]
theorem ZgK {ts:List Tok} {m:Mr} {j:Nat} (h:pMod ts (pE ts (ts.length+1))=(m,(j,true))):prsW ts=(md0,misL ts j):=by unfold prsW;rw [h];rfl
theorem ZgL {ts:List Tok} {m:Mr} {j:Nat} (h:pMod ts (pE ts (ts.length+1))=(m,(j,false))) (hm:mdOk (SizeOf.sizeOf (mdF m)) (mdF m)=true):prsW ts=(mdF m,0):=by
 unfold prsW;rw [h,if_neg (by simp)];simp only;rw [if_pos hm]
theorem Zh5 {ts:List Tok} {m:Mr} {j:Nat} (h:pMod ts (pE ts (ts.length+1))=(m,(j,false))) (hm:mdOk (SizeOf.sizeOf (mdF m)) (mdF m)=false):prsW ts=(md0,1):=by
 unfold prsW;rw [h,if_neg (by simp)];simp only;rw [if_neg (by rw [hm];simp)]
end Go.Proofs.YtacioihbhkcdcaaGreatDoor
