/-
  Chars
-/
import Derived.Test.YtdhlonogmnkemaaGreatDoorRows
import Derived.ProofKit
import Derived.OpenShut
import Derived.WalkSpells
set_option maxHeartbeats 16000000
set_option linter.unusedVariables false
set_option maxRecDepth 100000
namespace Go.Proofs.YtdhlonogmnkemaaGreatDoor
open Go.ChangeShapes Go.WideShapes Go.ChangeAt Go.RowKit
section
open Go.Proofs.Tryz
def inB (x a b:Int):Bool:=decide (a<=x/\x<=b)
def signB (n:Int):Bool:=inB n 97 122 || inB n 65 90 || inB n 48 57 || n == 95
theorem ZG {a b:Bool} (h:a=b):Ending.returned (.bool a)=.returned (.bool b):=by rw [h]
theorem ZK (x a b:Int) (w:World) :
 Calls prog 55 #[.int .i64 x,.int .i64 a,.int .i64 b] w λe w'=>e=.returned (.bool (inB x a b))/\w'=w:=by
 by_cases h1:a<=x <;> by_cases h2:x<=b
 all_goals
  go_enter func55,ntmps55;go_wp2;go_ret;exact ⟨ZG (by simp [inB,h1,h2]),rfl⟩
theorem Zco (n:Int) (w:World) (h0:0<=n) (h1:n<256) :
 Calls prog 81 #[.int .u8 n] w λe w'=>e=.returned (.bool (inB n 97 122))/\w'=w:=by
 go_enter func81,ntmps81;go_wp2_with (go_at_call 55;go_must (refine (ZK _ _ _ _).mono ?_;rintro e w' ⟨rfl,rfl⟩));go_ret;exact ⟨rfl,rfl⟩
theorem ZdZ (n:Int) (w:World) (h0:0<=n) (h1:n<256) :
 Calls prog 62 #[.int .u8 n] w λe w'=>e=.returned (.bool (inB n 65 90))/\w'=w:=by
 go_enter func62,ntmps62;go_wp2_with (go_at_call 55;go_must (refine (ZK _ _ _ _).mono ?_;rintro e w' ⟨rfl,rfl⟩));go_ret;exact ⟨rfl,rfl⟩
theorem Zgo (n:Int) (w:World) (h0:0<=n) (h1:n<256) :
 Calls prog 148 #[.int .u8 n] w λe w'=>e=.returned (.bool (inB n 48 57))/\w'=w:=by
 go_enter func148,ntmps148;go_wp2_with (go_at_call 55;go_must (refine (ZK _ _ _ _).mono ?_;rintro e w' ⟨rfl,rfl⟩));go_ret;exact ⟨rfl,rfl⟩
theorem ZcV (n:Int) (w:World) (h0:0<=n) (h1:n<256) :
 Calls prog 127 #[.int .u8 n] w λe w'=>e=.returned (.bool (inB n 97 122))/\w'=w:=by
 by_cases h1:97<=n <;> by_cases h2:n<=122
 all_goals
  go_enter func127,ntmps127;go_wp2;go_ret;exact ⟨ZG (by simp [inB,h1,h2]),rfl⟩
theorem Zeq (n:Int) (w:World) (h0:0<=n) (h1:n<256) :
 Calls prog 116 #[.int .u8 n] w λe w'=>e=.returned (.bool (inB n 65 90))/\w'=w:=by
 by_cases h1:65<=n <;> by_cases h2:n<=90
 all_goals
  go_enter func116,ntmps116;go_wp2;go_ret;exact ⟨ZG (by simp [inB,h1,h2]),rfl⟩
theorem Zhh (n:Int) (w:World) (h0:0<=n) (h1:n<256) :
 Calls prog 194 #[.int .u8 n] w λe w'=>e=.returned (.bool (inB n 48 57))/\w'=w:=by
 by_cases h1:48<=n <;> by_cases h2:n<=57
 all_goals
  go_enter func194,ntmps194;go_wp2;go_ret;exact ⟨ZG (by simp [inB,h1,h2]),rfl⟩
theorem Zer (n:Int) (w:World) (h0:0<=n) (h1:n<256) :
 Calls prog 104 #[.int .u8 n] w λe w'=>e=.returned (.bool (signB n))/\w'=w:=by
 have hb1:inB n 97 122=true\/inB n 97 122=false:=by cases inB n 97 122 <;> simp
 have hb2:inB n 65 90=true\/inB n 65 90=false:=by cases inB n 65 90 <;> simp
 have hb3:inB n 48 57=true\/inB n 48 57=false:=by cases inB n 48 57 <;> simp
 rcases hb1 with hb1 | hb1 <;> rcases hb2 with hb2 | hb2 <;> rcases hb3 with hb3 | hb3
 all_goals
  go_enter func104,ntmps104
  go_wp2_with (first
   | (go_at_call 81;go_must (refine (Zco _ _ h0 h1).mono ?_;rintro e w' ⟨rfl,rfl⟩))
   | (go_at_call 62;go_must (refine (ZdZ _ _ h0 h1).mono ?_;rintro e w' ⟨rfl,rfl⟩))
   | (go_at_call 148;go_must (refine (Zgo _ _ h0 h1).mono ?_;rintro e w' ⟨rfl,rfl⟩)))
  go_ret;exact ⟨ZG (by simp [signB,hb1,hb2,hb3]),rfl⟩
theorem ZcQ (n:Int) (w:World) (h0:0<=n) (h1:n<256) :
 Calls prog 160 #[.int .u8 n] w λe w'=>e=.returned (.bool (signB n))/\w'=w:=by
 have hb1:inB n 97 122=true\/inB n 97 122=false:=by cases inB n 97 122 <;> simp
 have hb2:inB n 65 90=true\/inB n 65 90=false:=by cases inB n 65 90 <;> simp
 have hb3:inB n 48 57=true\/inB n 48 57=false:=by cases inB n 48 57 <;> simp
 rcases hb1 with hb1 | hb1 <;> rcases hb2 with hb2 | hb2 <;> rcases hb3 with hb3 | hb3
 all_goals
  go_enter func160,ntmps160
  go_wp2_with (first
   | (go_at_call 127;go_must (refine (ZcV _ _ h0 h1).mono ?_;rintro e w' ⟨rfl,rfl⟩))
   | (go_at_call 116;go_must (refine (Zeq _ _ h0 h1).mono ?_;rintro e w' ⟨rfl,rfl⟩))
   | (go_at_call 194;go_must (refine (Zhh _ _ h0 h1).mono ?_;rintro e w' ⟨rfl,rfl⟩)))
  go_ret;exact ⟨ZG (by simp [signB,hb1,hb2,hb3]),rfl⟩
end
end Go.Proofs.YtdhlonogmnkemaaGreatDoor
