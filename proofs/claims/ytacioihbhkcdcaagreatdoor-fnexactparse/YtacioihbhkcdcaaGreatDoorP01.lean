/-
  Chars
-/
import Derived.Test.YtacioihbhkcdcaaGreatDoorRows
import Derived.ProofKit
import Derived.OpenShut
import Derived.WalkSpells
set_option maxHeartbeats 16000000
set_option linter.unusedVariables false
set_option maxRecDepth 100000
namespace Go.Proofs.YtacioihbhkcdcaaGreatDoor
open Go.ChangeShapes Go.WideShapes Go.ChangeAt Go.RowKit
section
open Go.Proofs.Tryz
def inB (x a b:Int):Bool:=decide (a<=x/\x<=b)
def signB (n:Int):Bool:=inB n 97 122 || inB n 65 90 || inB n 48 57 || n == 95
theorem ZO {a b:Bool} (h:a=b):Ending.returned (.bool a)=.returned (.bool b):=by rw [h]
theorem ZP (x a b:Int) (w:World) :
 Calls prog 34 #[.int .i64 x,.int .i64 a,.int .i64 b] w λe w'=>e=.returned (.bool (inB x a b))/\w'=w:=by
 by_cases h1:a<=x <;> by_cases h2:x<=b
 all_goals
  go_enter func34,ntmps34;go_wp2;go_ret;exact ⟨ZO (by simp [inB,h1,h2]),rfl⟩
theorem ZbZ (n:Int) (w:World) (h0:0<=n) (h1:n<256) :
 Calls prog 60 #[.int .u8 n] w λe w'=>e=.returned (.bool (inB n 97 122))/\w'=w:=by
 go_enter func60,ntmps60;go_wp2_with (go_at_call 34;go_must (refine (ZP _ _ _ _).mono ?_;rintro e w' ⟨rfl,rfl⟩));go_ret;exact ⟨rfl,rfl⟩
theorem Zdd (n:Int) (w:World) (h0:0<=n) (h1:n<256) :
 Calls prog 90 #[.int .u8 n] w λe w'=>e=.returned (.bool (inB n 65 90))/\w'=w:=by
 go_enter func90,ntmps90;go_wp2_with (go_at_call 34;go_must (refine (ZP _ _ _ _).mono ?_;rintro e w' ⟨rfl,rfl⟩));go_ret;exact ⟨rfl,rfl⟩
theorem ZY (n:Int) (w:World) (h0:0<=n) (h1:n<256) :
 Calls prog 53 #[.int .u8 n] w λe w'=>e=.returned (.bool (inB n 48 57))/\w'=w:=by
 go_enter func53,ntmps53;go_wp2_with (go_at_call 34;go_must (refine (ZP _ _ _ _).mono ?_;rintro e w' ⟨rfl,rfl⟩));go_ret;exact ⟨rfl,rfl⟩
theorem Zcp (n:Int) (w:World) (h0:0<=n) (h1:n<256) :
 Calls prog 79 #[.int .u8 n] w λe w'=>e=.returned (.bool (inB n 97 122))/\w'=w:=by
 by_cases h1:97<=n <;> by_cases h2:n<=122
 all_goals
  go_enter func79,ntmps79;go_wp2;go_ret;exact ⟨ZO (by simp [inB,h1,h2]),rfl⟩
theorem ZdJ (n:Int) (w:World) (h0:0<=n) (h1:n<256) :
 Calls prog 96 #[.int .u8 n] w λe w'=>e=.returned (.bool (inB n 65 90))/\w'=w:=by
 by_cases h1:65<=n <;> by_cases h2:n<=90
 all_goals
  go_enter func96,ntmps96;go_wp2;go_ret;exact ⟨ZO (by simp [inB,h1,h2]),rfl⟩
theorem ZaZ (n:Int) (w:World) (h0:0<=n) (h1:n<256) :
 Calls prog 65 #[.int .u8 n] w λe w'=>e=.returned (.bool (inB n 48 57))/\w'=w:=by
 by_cases h1:48<=n <;> by_cases h2:n<=57
 all_goals
  go_enter func65,ntmps65;go_wp2;go_ret;exact ⟨ZO (by simp [inB,h1,h2]),rfl⟩
theorem Zaj (n:Int) (w:World) (h0:0<=n) (h1:n<256) :
 Calls prog 54 #[.int .u8 n] w λe w'=>e=.returned (.bool (signB n))/\w'=w:=by
 have hb1:inB n 97 122=true\/inB n 97 122=false:=by cases inB n 97 122 <;> simp
 have hb2:inB n 65 90=true\/inB n 65 90=false:=by cases inB n 65 90 <;> simp
 have hb3:inB n 48 57=true\/inB n 48 57=false:=by cases inB n 48 57 <;> simp
 rcases hb1 with hb1 | hb1 <;> rcases hb2 with hb2 | hb2 <;> rcases hb3 with hb3 | hb3
 all_goals
  go_enter func54,ntmps54
  go_wp2_with (first
   | (go_at_call 60;go_must (refine (ZbZ _ _ h0 h1).mono ?_;rintro e w' ⟨rfl,rfl⟩))
   | (go_at_call 90;go_must (refine (Zdd _ _ h0 h1).mono ?_;rintro e w' ⟨rfl,rfl⟩))
   | (go_at_call 53;go_must (refine (ZY _ _ h0 h1).mono ?_;rintro e w' ⟨rfl,rfl⟩)))
  go_ret;exact ⟨ZO (by simp [signB,hb1,hb2,hb3]),rfl⟩
theorem Zay (n:Int) (w:World) (h0:0<=n) (h1:n<256) :
 Calls prog 67 #[.int .u8 n] w λe w'=>e=.returned (.bool (signB n))/\w'=w:=by
 have hb1:inB n 97 122=true\/inB n 97 122=false:=by cases inB n 97 122 <;> simp
 have hb2:inB n 65 90=true\/inB n 65 90=false:=by cases inB n 65 90 <;> simp
 have hb3:inB n 48 57=true\/inB n 48 57=false:=by cases inB n 48 57 <;> simp
 rcases hb1 with hb1 | hb1 <;> rcases hb2 with hb2 | hb2 <;> rcases hb3 with hb3 | hb3
 all_goals
  go_enter func67,ntmps67
  go_wp2_with (first
   | (go_at_call 79;go_must (refine (Zcp _ _ h0 h1).mono ?_;rintro e w' ⟨rfl,rfl⟩))
   | (go_at_call 96;go_must (refine (ZdJ _ _ h0 h1).mono ?_;rintro e w' ⟨rfl,rfl⟩))
   | (go_at_call 65;go_must (refine (ZaZ _ _ h0 h1).mono ?_;rintro e w' ⟨rfl,rfl⟩)))
  go_ret;exact ⟨ZO (by simp [signB,hb1,hb2,hb3]),rfl⟩
end
end Go.Proofs.YtacioihbhkcdcaaGreatDoor
