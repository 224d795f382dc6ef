/-
  Chars
-/
import Derived.Test.YtbdhpganbbandaaGreatDoorRows
import Derived.ProofKit
import Derived.OpenShut
import Derived.WalkSpells
set_option maxHeartbeats 16000000
set_option linter.unusedVariables false
set_option maxRecDepth 100000
namespace Go.Proofs.YtbdhpganbbandaaGreatDoor
open Go.ChangeShapes Go.WideShapes Go.ChangeAt Go.RowKit
section
open Go.Proofs.Tryz
def inB (x a b:Int):Bool:=decide (a<=x/\x<=b)
def signB (n:Int):Bool:=inB n 97 122 || inB n 65 90 || inB n 48 57 || n == 95
theorem ret_bool {a b:Bool} (h:a=b):Ending.returned (.bool a)=.returned (.bool b):=by rw [h]
theorem l01In_any (x a b:Int) (w:World) :
 Calls prog 40 #[.int .i64 x,.int .i64 a,.int .i64 b] w λe w'=>e=.returned (.bool (inB x a b))/\w'=w:=by
 by_cases h1:a<=x <;> by_cases h2:x<=b
 all_goals
  go_enter func40,ntmps40;go_wp2;go_ret;exact ⟨ret_bool (by simp [inB,h1,h2]),rfl⟩
theorem l01Small_any (n:Int) (w:World) (h0:0<=n) (h1:n<256) :
 Calls prog 108 #[.int .u8 n] w λe w'=>e=.returned (.bool (inB n 97 122))/\w'=w:=by
 go_enter func108,ntmps108;go_wp2_with (go_at_call 40;go_must (refine (l01In_any _ _ _ _).mono ?_;rintro e w' ⟨rfl,rfl⟩));go_ret;exact ⟨rfl,rfl⟩
theorem l01Great_any (n:Int) (w:World) (h0:0<=n) (h1:n<256) :
 Calls prog 47 #[.int .u8 n] w λe w'=>e=.returned (.bool (inB n 65 90))/\w'=w:=by
 go_enter func47,ntmps47;go_wp2_with (go_at_call 40;go_must (refine (l01In_any _ _ _ _).mono ?_;rintro e w' ⟨rfl,rfl⟩));go_ret;exact ⟨rfl,rfl⟩
theorem l01Digit_any (n:Int) (w:World) (h0:0<=n) (h1:n<256) :
 Calls prog 109 #[.int .u8 n] w λe w'=>e=.returned (.bool (inB n 48 57))/\w'=w:=by
 go_enter func109,ntmps109;go_wp2_with (go_at_call 40;go_must (refine (l01In_any _ _ _ _).mono ?_;rintro e w' ⟨rfl,rfl⟩));go_ret;exact ⟨rfl,rfl⟩
theorem isSmall_any (n:Int) (w:World) (h0:0<=n) (h1:n<256) :
 Calls prog 152 #[.int .u8 n] w λe w'=>e=.returned (.bool (inB n 97 122))/\w'=w:=by
 by_cases h1:97<=n <;> by_cases h2:n<=122
 all_goals
  go_enter func152,ntmps152;go_wp2;go_ret;exact ⟨ret_bool (by simp [inB,h1,h2]),rfl⟩
theorem isGreat_any (n:Int) (w:World) (h0:0<=n) (h1:n<256) :
 Calls prog 84 #[.int .u8 n] w λe w'=>e=.returned (.bool (inB n 65 90))/\w'=w:=by
 by_cases h1:65<=n <;> by_cases h2:n<=90
 all_goals
  go_enter func84,ntmps84;go_wp2;go_ret;exact ⟨ret_bool (by simp [inB,h1,h2]),rfl⟩
theorem isDigit_any (n:Int) (w:World) (h0:0<=n) (h1:n<256) :
 Calls prog 153 #[.int .u8 n] w λe w'=>e=.returned (.bool (inB n 48 57))/\w'=w:=by
 by_cases h1:48<=n <;> by_cases h2:n<=57
 all_goals
  go_enter func153,ntmps153;go_wp2;go_ret;exact ⟨ret_bool (by simp [inB,h1,h2]),rfl⟩
theorem l01Sign_any (n:Int) (w:World) (h0:0<=n) (h1:n<256) :
 Calls prog 75 #[.int .u8 n] w λe w'=>e=.returned (.bool (signB n))/\w'=w:=by
 have hb1:inB n 97 122=true\/inB n 97 122=false:=by cases inB n 97 122 <;> simp
 have hb2:inB n 65 90=true\/inB n 65 90=false:=by cases inB n 65 90 <;> simp
 have hb3:inB n 48 57=true\/inB n 48 57=false:=by cases inB n 48 57 <;> simp
 rcases hb1 with hb1 | hb1 <;> rcases hb2 with hb2 | hb2 <;> rcases hb3 with hb3 | hb3
 all_goals
  go_enter func75,ntmps75
  go_wp2_with (first
   | (go_at_call 108;go_must (refine (l01Small_any _ _ h0 h1).mono ?_;rintro e w' ⟨rfl,rfl⟩))
   | (go_at_call 47;go_must (refine (l01Great_any _ _ h0 h1).mono ?_;rintro e w' ⟨rfl,rfl⟩))
   | (go_at_call 109;go_must (refine (l01Digit_any _ _ h0 h1).mono ?_;rintro e w' ⟨rfl,rfl⟩)))
  go_ret;exact ⟨ret_bool (by simp [signB,hb1,hb2,hb3]),rfl⟩
theorem isNamePart_any (n:Int) (w:World) (h0:0<=n) (h1:n<256) :
 Calls prog 121 #[.int .u8 n] w λe w'=>e=.returned (.bool (signB n))/\w'=w:=by
 have hb1:inB n 97 122=true\/inB n 97 122=false:=by cases inB n 97 122 <;> simp
 have hb2:inB n 65 90=true\/inB n 65 90=false:=by cases inB n 65 90 <;> simp
 have hb3:inB n 48 57=true\/inB n 48 57=false:=by cases inB n 48 57 <;> simp
 rcases hb1 with hb1 | hb1 <;> rcases hb2 with hb2 | hb2 <;> rcases hb3 with hb3 | hb3
 all_goals
  go_enter func121,ntmps121
  go_wp2_with (first
   | (go_at_call 152;go_must (refine (isSmall_any _ _ h0 h1).mono ?_;rintro e w' ⟨rfl,rfl⟩))
   | (go_at_call 84;go_must (refine (isGreat_any _ _ h0 h1).mono ?_;rintro e w' ⟨rfl,rfl⟩))
   | (go_at_call 153;go_must (refine (isDigit_any _ _ h0 h1).mono ?_;rintro e w' ⟨rfl,rfl⟩)))
  go_ret;exact ⟨ret_bool (by simp [signB,hb1,hb2,hb3]),rfl⟩
end
end Go.Proofs.YtbdhpganbbandaaGreatDoor
