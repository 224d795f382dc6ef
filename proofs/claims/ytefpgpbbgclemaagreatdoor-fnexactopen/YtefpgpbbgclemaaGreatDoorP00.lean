/-
  Chars Names FirstN VarOk AtomOk
-/
import Derived.Test.YtefpgpbbgclemaaGreatDoorRows
import Derived.ProofKit
import Derived.OpenShut
import Derived.WalkSpells
set_option maxHeartbeats 16000000
set_option linter.unusedVariables false
set_option maxRecDepth 100000
namespace Go.Proofs.YtefpgpbbgclemaaGreatDoor
open Go.ChangeShapes Go.WideShapes Go.ChangeAt Go.RowKit
def inB (x a b:Int):Bool:=decide (a≤x∧x≤b)
def signB (n:Int):Bool:=inB n 97 122 || inB n 65 90 || inB n 48 57 || n == 95
theorem ret_bool {a b:Bool} (h:a=b):Ending.returned (.bool a)=.returned (.bool b):=by rw [h]
theorem l01In_any (x a b:Int) (w:World) :
    Calls Tryz.prog 77 #[.int .i64 x,.int .i64 a,.int .i64 b] w fun e w'=>e=.returned (.bool (inB x a b))∧w'=w:=by
  by_cases h1:a≤x <;> by_cases h2:x≤b
  all_goals
    go_enter Tryz.func77,Tryz.ntmps77
    go_wp2
    go_ret
    exact ⟨ret_bool (by simp [inB,h1,h2]),rfl⟩
theorem l01Small_any (n:Int) (w:World) (h0:0≤n) (h1:n<256) :
    Calls Tryz.prog 106 #[.int .u8 n] w fun e w'=>e=.returned (.bool (inB n 97 122))∧w'=w:=by
  go_enter Tryz.func106,Tryz.ntmps106
  go_wp2_with (go_at_call 77;go_must (refine (l01In_any _ _ _ _).mono ?_;rintro e w' ⟨rfl,rfl⟩))
  go_ret
  exact ⟨rfl,rfl⟩
theorem l01Great_any (n:Int) (w:World) (h0:0≤n) (h1:n<256) :
    Calls Tryz.prog 160 #[.int .u8 n] w fun e w'=>e=.returned (.bool (inB n 65 90))∧w'=w:=by
  go_enter Tryz.func160,Tryz.ntmps160
  go_wp2_with (go_at_call 77;go_must (refine (l01In_any _ _ _ _).mono ?_;rintro e w' ⟨rfl,rfl⟩))
  go_ret
  exact ⟨rfl,rfl⟩
theorem l01Digit_any (n:Int) (w:World) (h0:0≤n) (h1:n<256) :
    Calls Tryz.prog 161 #[.int .u8 n] w fun e w'=>e=.returned (.bool (inB n 48 57))∧w'=w:=by
  go_enter Tryz.func161,Tryz.ntmps161
  go_wp2_with (go_at_call 77;go_must (refine (l01In_any _ _ _ _).mono ?_;rintro e w' ⟨rfl,rfl⟩))
  go_ret
  exact ⟨rfl,rfl⟩
theorem isSmall_any (n:Int) (w:World) (h0:0≤n) (h1:n<256) :
    Calls Tryz.prog 118 #[.int .u8 n] w fun e w'=>e=.returned (.bool (inB n 97 122))∧w'=w:=by
  by_cases h1:97≤n <;> by_cases h2:n≤122
  all_goals
    go_enter Tryz.func118,Tryz.ntmps118
    go_wp2
    go_ret
    exact ⟨ret_bool (by simp [inB,h1,h2]),rfl⟩
theorem isGreat_any (n:Int) (w:World) (h0:0≤n) (h1:n<256) :
    Calls Tryz.prog 164 #[.int .u8 n] w fun e w'=>e=.returned (.bool (inB n 65 90))∧w'=w:=by
  by_cases h1:65≤n <;> by_cases h2:n≤90
  all_goals
    go_enter Tryz.func164,Tryz.ntmps164
    go_wp2
    go_ret
    exact ⟨ret_bool (by simp [inB,h1,h2]),rfl⟩
theorem isDigit_any (n:Int) (w:World) (h0:0≤n) (h1:n<256) :
    Calls Tryz.prog 165 #[.int .u8 n] w fun e w'=>e=.returned (.bool (inB n 48 57))∧w'=w:=by
  by_cases h1:48≤n <;> by_cases h2:n≤57
  all_goals
    go_enter Tryz.func165,Tryz.ntmps165
    go_wp2
    go_ret
    exact ⟨ret_bool (by simp [inB,h1,h2]),rfl⟩
theorem l01Sign_any (n:Int) (w:World) (h0:0≤n) (h1:n<256) :
    Calls Tryz.prog 137 #[.int .u8 n] w fun e w'=>e=.returned (.bool (signB n))∧w'=w:=by
  have hb1:inB n 97 122=true∨inB n 97 122=false:=by cases inB n 97 122 <;> simp
  have hb2:inB n 65 90=true∨inB n 65 90=false:=by cases inB n 65 90 <;> simp
  have hb3:inB n 48 57=true∨inB n 48 57=false:=by cases inB n 48 57 <;> simp
  rcases hb1 with hb1 | hb1 <;> rcases hb2 with hb2 | hb2 <;> rcases hb3 with hb3 | hb3
  all_goals
    go_enter Tryz.func137,Tryz.ntmps137
    go_wp2_with (first
      | (go_at_call 106;go_must (refine (l01Small_any _ _ h0 h1).mono ?_;rintro e w' ⟨rfl,rfl⟩))
      | (go_at_call 160;go_must (refine (l01Great_any _ _ h0 h1).mono ?_;rintro e w' ⟨rfl,rfl⟩))
      | (go_at_call 161;go_must (refine (l01Digit_any _ _ h0 h1).mono ?_;rintro e w' ⟨rfl,rfl⟩)))
    go_ret
    exact ⟨ret_bool (by simp [signB,hb1,hb2,hb3]),rfl⟩
theorem isNamePart_any (n:Int) (w:World) (h0:0≤n) (h1:n<256) :
    Calls Tryz.prog 145 #[.int .u8 n] w fun e w'=>e=.returned (.bool (signB n))∧w'=w:=by
  have hb1:inB n 97 122=true∨inB n 97 122=false:=by cases inB n 97 122 <;> simp
  have hb2:inB n 65 90=true∨inB n 65 90=false:=by cases inB n 65 90 <;> simp
  have hb3:inB n 48 57=true∨inB n 48 57=false:=by cases inB n 48 57 <;> simp
  rcases hb1 with hb1 | hb1 <;> rcases hb2 with hb2 | hb2 <;> rcases hb3 with hb3 | hb3
  all_goals
    go_enter Tryz.func145,Tryz.ntmps145
    go_wp2_with (first
      | (go_at_call 118;go_must (refine (isSmall_any _ _ h0 h1).mono ?_;rintro e w' ⟨rfl,rfl⟩))
      | (go_at_call 164;go_must (refine (isGreat_any _ _ h0 h1).mono ?_;rintro e w' ⟨rfl,rfl⟩))
      | (go_at_call 165;go_must (refine (isDigit_any _ _ h0 h1).mono ?_;rintro e w' ⟨rfl,rfl⟩)))
    go_ret
    exact ⟨ret_bool (by simp [signB,hb1,hb2,hb3]),rfl⟩
def allB (l:List UInt8):Bool:=l.all fun c=>signB (c.toNat:Int)
def nameB (s:ByteArray):Bool:=allB s.data.toList && decide (1≤s.size∧s.size≤10)
theorem take_snoc (s:ByteArray) (k:Nat) (h:k<s.size):s.data.toList.take (k+1)=s.data.toList.take k ++ [s[k]]:=by
  rw [List.take_succ_eq_append_getElem (by simpa using h)];rfl
theorem allB_snoc (s:ByteArray) (k:Nat) (h:k<s.size) (ha:allB (s.data.toList.take k)=true) (hs:signB (s[k].toNat:Int)=true) :
    allB (s.data.toList.take (k+1))=true:=by
  rw [take_snoc s k h];unfold allB at *;rw [List.all_append,ha];simp [hs]
theorem allB_no (s:ByteArray) (k:Nat) (h:k<s.size) (hs:signB (s[k].toNat:Int)=false) :
    allB s.data.toList=false:=by
  unfold allB
  rw [List.all_eq_false]
  refine ⟨s[k],?_,by simp [hs]⟩
  exact List.getElem_mem (by simpa using h)
theorem allB_all (s:ByteArray) (k:Nat) (h:s.size≤k) (ha:allB (s.data.toList.take k)=true):allB s.data.toList=true:=by
  rwa [List.take_of_length_le (by simpa using h)] at ha
theorem byte_lt (s:ByteArray) (k:Nat) (h:k<s.size):0≤((s[k].toNat:Nat):Int)∧((s[k].toNat:Nat):Int)<256:=by
  have:=s[k].toNat_lt;omega
theorem inB_size (n:Nat):inB (n:Int) 1 10=decide (1≤n∧n≤10):=by
  unfold inB;rw [decide_eq_decide];omega
theorem nameB_none (s:ByteArray) (h:¬ 1≤s.size∨¬ s.size≤10):nameB s=false:=by
  unfold nameB;rw [decide_eq_false (by omega),Bool.and_false]
theorem nameB_some (s:ByteArray) (h1:1≤s.size) (h2:s.size≤10):nameB s=allB s.data.toList:=by
  unfold nameB;rw [decide_eq_true ⟨h1,h2⟩,Bool.and_true]
theorem l01Name_any (s:ByteArray) (w:World) (hs:s.size≤maxLen) :
    Calls Tryz.prog 105 #[.string s] w fun e w'=>e=.returned (.bool (nameB s))∧w'=w:=by
  unfold maxLen at hs
  go_enter Tryz.func105,Tryz.ntmps105
  go_wp2
  go_loop [3] (fun i=>∃ k:Nat,k≤s.size∧i=.int .i64 k∧allB (s.data.toList.take k)=true) (fun i=>s.size - (intOf i).toNat)
  case atStart=>exact ⟨0,Nat.zero_le _,rfl,rfl⟩
  case round =>
    obtain ⟨k,hk,rfl,ha⟩:=hrel
    by_cases hlt:k<s.size
    · have hb:=byte_lt s k hlt
      have HA:Hid (allB (s.data.toList.take k)=true):=ha
      clear ha
      have hc:signB (s[k].toNat:Int)=true∨signB (s[k].toNat:Int)=false:=by cases signB (s[k].toNat:Int) <;> simp
      rcases hc with hc | hc
      · go_wp2_with (go_at_call 137;go_must (refine (l01Sign_any _ _ hb.1 hb.2).mono ?_;rintro e w' ⟨rfl,rfl⟩))
        go_round
        case rel=>exact ⟨k+1,by omega,by go_num,allB_snoc s k hlt HA.out hc⟩
        case measure=>simp [intOf];omega
      · go_wp2_with (go_at_call 137;go_must (refine (l01Sign_any _ _ hb.1 hb.2).mono ?_;rintro e w' ⟨rfl,rfl⟩))
        go_ret
        exact ⟨ret_bool (by simp [nameB,allB_no s k hlt hc]),rfl⟩
    · have hall:=allB_all s k (by omega) ha
      have HA:Hid (allB s.data.toList=true):=hall
      clear ha hall
      go_wp2_with (go_at_call 77;go_must (refine (l01In_any _ _ _ _).mono ?_;rintro e w' ⟨rfl,rfl⟩))
      go_ret
      exact ⟨ret_bool (by rw [nameB,HA.out,Bool.true_and,inB_size]),rfl⟩
theorem madeOf_name (s:ByteArray) (w:World) (hs:s.size≤maxLen) :
    Calls Tryz.prog 144 #[.string s,.func (.func 145) #[] #[]] w fun e w'=>e=.returned (.bool (allB s.data.toList))∧w'=w:=by
  unfold maxLen at hs
  go_enter Tryz.func144,Tryz.ntmps144
  go_wp2
  go_loop [8] (fun i=>∃ k:Nat,k≤s.size∧i=.int .i64 k∧allB (s.data.toList.take k)=true) (fun i=>s.size - (intOf i).toNat)
  case atStart=>exact ⟨0,Nat.zero_le _,rfl,rfl⟩
  case round =>
    obtain ⟨k,hk,rfl,ha⟩:=hrel
    by_cases hlt:k<s.size
    · have hb:=byte_lt s k hlt
      have HA:Hid (allB (s.data.toList.take k)=true):=ha
      clear ha
      have hc:signB (s[k].toNat:Int)=true∨signB (s[k].toNat:Int)=false:=by cases signB (s[k].toNat:Int) <;> simp
      rcases hc with hc | hc
      · go_wp2_with (go_at_call 145;go_must (refine (isNamePart_any _ _ hb.1 hb.2).mono ?_;rintro e w' ⟨rfl,rfl⟩))
        go_round
        case rel=>exact ⟨k+1,by omega,by go_num,allB_snoc s k hlt HA.out hc⟩
        case measure=>simp [intOf];omega
      · go_wp2_with (go_at_call 145;go_must (refine (isNamePart_any _ _ hb.1 hb.2).mono ?_;rintro e w' ⟨rfl,rfl⟩))
        go_ret
        exact ⟨ret_bool (by rw [allB_no s k hlt hc]),rfl⟩
    · have hall:=allB_all s k (by omega) ha
      have HA:Hid (allB s.data.toList=true):=hall
      clear ha hall
      go_wp2
      go_ret
      exact ⟨ret_bool (by rw [HA.out]),rfl⟩
theorem nameOk_any (s:ByteArray) (w:World) (hs:s.size≤maxLen) :
    Calls Tryz.prog 117 #[.string s] w fun e w'=>e=.returned (.bool (nameB s))∧w'=w:=by
  have hs':=hs
  unfold maxLen at hs
  by_cases h1:1≤s.size
  · by_cases h2:s.size≤10
    · go_enter Tryz.func117,Tryz.ntmps117
      go_wp2_with (go_at_call 144;go_must (refine (madeOf_name _ _ hs').mono ?_;rintro e w' ⟨rfl,rfl⟩))
      go_ret
      exact ⟨ret_bool (nameB_some s h1 h2).symm,rfl⟩
    · go_enter Tryz.func117,Tryz.ntmps117
      go_wp2
      go_ret
      exact ⟨ret_bool (nameB_none s (.inr h2)).symm,rfl⟩
  · go_enter Tryz.func117,Tryz.ntmps117
    go_wp2
    go_ret
    exact ⟨ret_bool (nameB_none s (.inl h1)).symm,rfl⟩
def firstN (s:ByteArray):Int:=((s.data.toList.headD 0).toNat:Int)
def varB (s:ByteArray):Bool:=nameB s && inB (firstN s) 65 90
theorem nameB_size (s:ByteArray) (h:nameB s=true):0<s.size:=by
  unfold nameB at h
  rw [Bool.and_eq_true] at h
  have:=of_decide_eq_true h.2
  omega
theorem first_eq (s:ByteArray) (h:0<s.size):(s[0].toNat:Int)=firstN s:=by
  have e:s.data.toList.headD 0=s[0]:=by
    have h':0<s.data.toList.length:=by simpa using h
    rw [List.headD_eq_head?_getD,List.head?_eq_getElem?,List.getElem?_eq_getElem h']
    rfl
  rw [firstN,e]
theorem specVarOk_any (s:ByteArray) (w:World) (hs:s.size≤maxLen) :
    Calls Tryz.prog 162 #[.string s] w fun e w'=>e=.returned (.bool (varB s))∧w'=w:=by
  have hs':=hs
  unfold maxLen at hs
  have hn:nameB s=true∨nameB s=false:=by cases nameB s <;> simp
  rcases hn with hn | hn
  · have hz:=nameB_size s hn
    have hb:=byte_lt s 0 hz
    have hf:=first_eq s hz
    have HF:Hid ((s[0].toNat:Int)=firstN s):=hf
    clear hf
    go_enter Tryz.func162,Tryz.ntmps162
    go_wp2_with (first
      | (go_at_call 105;go_must (refine (l01Name_any _ _ hs').mono ?_;rintro e w' ⟨rfl,rfl⟩))
      | (go_at_call 160;go_must (refine (l01Great_any _ _ hb.1 hb.2).mono ?_;rintro e w' ⟨rfl,rfl⟩)))
    go_ret
    exact ⟨ret_bool (by rw [varB,hn,HF.out,Bool.true_and]),rfl⟩
  · go_enter Tryz.func162,Tryz.ntmps162
    go_wp2_with (go_at_call 105;go_must (refine (l01Name_any _ _ hs').mono ?_;rintro e w' ⟨rfl,rfl⟩))
    go_ret
    exact ⟨ret_bool (by rw [varB,hn,Bool.false_and]),rfl⟩
theorem implVarOk_any (s:ByteArray) (w:World) (hs:s.size≤maxLen) :
    Calls Tryz.prog 189 #[.string s] w fun e w'=>e=.returned (.bool (varB s))∧w'=w:=by
  have hs':=hs
  unfold maxLen at hs
  have hn:nameB s=true∨nameB s=false:=by cases nameB s <;> simp
  rcases hn with hn | hn
  · have hz:=nameB_size s hn
    have hb:=byte_lt s 0 hz
    have hf:=first_eq s hz
    have HF:Hid ((s[0].toNat:Int)=firstN s):=hf
    clear hf
    go_enter Tryz.func189,Tryz.ntmps189
    go_wp2_with (first
      | (go_at_call 117;go_must (refine (nameOk_any _ _ hs').mono ?_;rintro e w' ⟨rfl,rfl⟩))
      | (go_at_call 164;go_must (refine (isGreat_any _ _ hb.1 hb.2).mono ?_;rintro e w' ⟨rfl,rfl⟩)))
    go_ret
    exact ⟨ret_bool (by rw [varB,hn,HF.out,Bool.true_and]),rfl⟩
  · go_enter Tryz.func189,Tryz.ntmps189
    go_wp2_with (go_at_call 117;go_must (refine (nameOk_any _ _ hs').mono ?_;rintro e w' ⟨rfl,rfl⟩))
    go_ret
    exact ⟨ret_bool (by rw [varB,hn,Bool.false_and]),rfl⟩
def keyB (s:ByteArray):Bool:=s.toList == [99,97,115,101] || s.toList == [111,102] || s.toList == [101,110,100]
def KeysAt (w:World):Prop :=
  w.cell? ⟨0,0,none⟩=some (.string ⟨#[99,97,115,101]⟩)∧w.cell? ⟨0,1,none⟩=some (.string ⟨#[111,102]⟩)∧w.cell? ⟨0,2,none⟩=some (.string ⟨#[101,110,100]⟩)
def atomB (s:ByteArray):Bool:=nameB s && inB (firstN s) 97 122 && !keyB s
theorem keyB_not {s:ByteArray} (h0:(s.toList == [99,97,115,101])=false) (h1:(s.toList == [111,102])=false) (h2:(s.toList == [101,110,100])=false):keyB s=false:=by
  rw [keyB,h0,h1,h2];rfl
theorem key0_yes {s:ByteArray} (h:([99,97,115,101] == s.toList)=true):keyB s=true:=by
  have e:=(beq_iff_eq.1 h).symm
  simp [keyB,e]
theorem key0_no {s:ByteArray} (h:([99,97,115,101] == s.toList)=false):(s.toList == [99,97,115,101])=false:=by
  rw [beq_eq_false_iff_ne] at h ⊢
  exact fun e=>h e.symm
theorem key1_yes {s:ByteArray} (h:([111,102] == s.toList)=true):keyB s=true:=by
  have e:=(beq_iff_eq.1 h).symm
  simp [keyB,e]
theorem key1_no {s:ByteArray} (h:([111,102] == s.toList)=false):(s.toList == [111,102])=false:=by
  rw [beq_eq_false_iff_ne] at h ⊢
  exact fun e=>h e.symm
theorem key2_yes {s:ByteArray} (h:([101,110,100] == s.toList)=true):keyB s=true:=by
  have e:=(beq_iff_eq.1 h).symm
  simp [keyB,e]
theorem key2_no {s:ByteArray} (h:([101,110,100] == s.toList)=false):(s.toList == [101,110,100])=false:=by
  rw [beq_eq_false_iff_ne] at h ⊢
  exact fun e=>h e.symm
theorem l01Key_any (s:ByteArray) (w:World) :
    Calls Tryz.prog 107 #[.string s] w fun e w'=>e=.returned (.bool (keyB s))∧w'=w:=by
  go_enter Tryz.func107,Tryz.ntmps107
  go_wp2
  all_goals go_ret
  · exact ⟨ret_bool (by simp [keyB, *]),rfl⟩
  · exact ⟨ret_bool (by simp [keyB, *]),rfl⟩
  · exact ⟨ret_bool (by simp [keyB]),rfl⟩
theorem keys_at0 (w:World):Sem.run Tryz.prog (Instr.index 190 (.agg #[.string ⟨#[99,97,115,101]⟩,.string ⟨#[111,102]⟩,.string ⟨#[101,110,100]⟩]) (.int .i64 0)) w=.ok (.string ⟨#[99,97,115,101]⟩) w:=by kernel_rfl
theorem keys_at1 (w:World):Sem.run Tryz.prog (Instr.index 190 (.agg #[.string ⟨#[99,97,115,101]⟩,.string ⟨#[111,102]⟩,.string ⟨#[101,110,100]⟩]) (.int .i64 1)) w=.ok (.string ⟨#[111,102]⟩) w:=by kernel_rfl
theorem keys_at2 (w:World):Sem.run Tryz.prog (Instr.index 190 (.agg #[.string ⟨#[99,97,115,101]⟩,.string ⟨#[111,102]⟩,.string ⟨#[101,110,100]⟩]) (.int .i64 2)) w=.ok (.string ⟨#[101,110,100]⟩) w:=by kernel_rfl
theorem isKeyword_any (s:ByteArray) (w:World) (hk:KeysAt w) :
    Calls Tryz.prog 119 #[.string s] w fun e w'=>e=.returned (.bool (keyB s))∧w'=w:=by
  obtain ⟨h0,h1,h2⟩:=hk
  go_enter Tryz.func119,Tryz.ntmps119
  go_wp2
  go_loop [6] (fun i=>∃ k:Nat,k≤3∧i=.int .i64 k∧(1≤k→(s.toList == [99,97,115,101])=false)∧(2≤k→(s.toList == [111,102])=false)∧(3≤k→(s.toList == [101,110,100])=false)) (fun i=>3 - (intOf i).toNat)
  case atStart=>exact ⟨0,by omega,rfl,by omega,by omega,by omega⟩
  case round =>
    obtain ⟨k,hk,rfl,n0,n1,n2⟩:=hrel
    have H0:Hid (1≤k→(s.toList == [99,97,115,101])=false):=n0
    have H1:Hid (2≤k→(s.toList == [111,102])=false):=n1
    have H2:Hid (3≤k→(s.toList == [101,110,100])=false):=n2
    clear n0 n1 n2 h0 h1 h2
    rcases (by omega:k=0∨k=1∨k=2∨k=3) with rfl | rfl | rfl | rfl
    · have r0:=keys_at0
      go_wp2
      · go_ret
        exact ⟨ret_bool (key0_yes ‹_›).symm,rfl⟩
      · go_round
        case rel=>exact ⟨1,by omega,rfl,fun _=>key0_no ‹_›,by omega,by omega⟩
        case measure=>simp [intOf]
    · have r1:=keys_at1
      go_wp2
      · go_ret
        exact ⟨ret_bool (key1_yes ‹_›).symm,rfl⟩
      · go_round
        case rel=>exact ⟨2,by omega,rfl,fun _=>H0.out (by omega),fun _=>key1_no ‹_›,by omega⟩
        case measure=>simp [intOf]
    · have r2:=keys_at2
      go_wp2
      · go_ret
        exact ⟨ret_bool (key2_yes ‹_›).symm,rfl⟩
      · go_round
        case rel=>exact ⟨3,by omega,rfl,fun _=>H0.out (by omega),fun _=>H1.out (by omega),fun _=>key2_no ‹_›⟩
        case measure=>simp [intOf]
    · go_wp2
      go_ret
      exact ⟨ret_bool (keyB_not (H0.out (by omega)) (H1.out (by omega)) (H2.out (by omega))).symm,rfl⟩
theorem specAtomOk_any (s:ByteArray) (w:World) (hs:s.size≤maxLen) :
    Calls Tryz.prog 76 #[.string s] w fun e w'=>e=.returned (.bool (atomB s))∧w'=w:=by
  have hs':=hs
  unfold maxLen at hs
  have hn:nameB s=true∨nameB s=false:=by cases nameB s <;> simp
  rcases hn with hn | hn
  · have hz:=nameB_size s hn
    have hb:=byte_lt s 0 hz
    have hf:=first_eq s hz
    have HF:Hid ((s[0].toNat:Int)=firstN s):=hf
    clear hf
    have hi:inB (s[0].toNat:Int) 97 122=true∨inB (s[0].toNat:Int) 97 122=false:=by cases inB (s[0].toNat:Int) 97 122 <;> simp
    rcases hi with hi | hi
    · go_enter Tryz.func76,Tryz.ntmps76
      go_wp2_with (first
        | (go_at_call 105;go_must (refine (l01Name_any _ _ hs').mono ?_;rintro e w' ⟨rfl,rfl⟩))
        | (go_at_call 106;go_must (refine (l01Small_any _ _ hb.1 hb.2).mono ?_;rintro e w' ⟨rfl,rfl⟩))
        | (go_at_call 107;go_must (refine (l01Key_any _ _).mono ?_;rintro e w' ⟨rfl,rfl⟩)))
      go_ret
      exact ⟨ret_bool (by rw [HF.out] at hi;simp [atomB,hn,hi]),rfl⟩
    · go_enter Tryz.func76,Tryz.ntmps76
      go_wp2_with (first
        | (go_at_call 105;go_must (refine (l01Name_any _ _ hs').mono ?_;rintro e w' ⟨rfl,rfl⟩))
        | (go_at_call 106;go_must (refine (l01Small_any _ _ hb.1 hb.2).mono ?_;rintro e w' ⟨rfl,rfl⟩)))
      go_ret
      exact ⟨ret_bool (by rw [HF.out] at hi;simp [atomB,hi]),rfl⟩
  · go_enter Tryz.func76,Tryz.ntmps76
    go_wp2_with (go_at_call 105;go_must (refine (l01Name_any _ _ hs').mono ?_;rintro e w' ⟨rfl,rfl⟩))
    go_ret
    exact ⟨ret_bool (by simp [atomB,hn]),rfl⟩
theorem implAtomOk_any (s:ByteArray) (w:World) (hs:s.size≤maxLen) (hk:KeysAt w) :
    Calls Tryz.prog 85 #[.string s] w fun e w'=>e=.returned (.bool (atomB s))∧w'=w:=by
  have hs':=hs
  unfold maxLen at hs
  have hn:nameB s=true∨nameB s=false:=by cases nameB s <;> simp
  rcases hn with hn | hn
  · have hz:=nameB_size s hn
    have hb:=byte_lt s 0 hz
    have hf:=first_eq s hz
    have HF:Hid ((s[0].toNat:Int)=firstN s):=hf
    clear hf
    have hi:inB (s[0].toNat:Int) 97 122=true∨inB (s[0].toNat:Int) 97 122=false:=by cases inB (s[0].toNat:Int) 97 122 <;> simp
    rcases hi with hi | hi
    · go_enter Tryz.func85,Tryz.ntmps85
      go_wp2_with (first
        | (go_at_call 117;go_must (refine (nameOk_any _ _ hs').mono ?_;rintro e w' ⟨rfl,rfl⟩))
        | (go_at_call 118;go_must (refine (isSmall_any _ _ hb.1 hb.2).mono ?_;rintro e w' ⟨rfl,rfl⟩))
        | (go_at_call 119;go_must (refine (isKeyword_any _ _ hk).mono ?_;rintro e w' ⟨rfl,rfl⟩)))
      go_ret
      exact ⟨ret_bool (by rw [HF.out] at hi;simp [atomB,hn,hi]),rfl⟩
    · go_enter Tryz.func85,Tryz.ntmps85
      go_wp2_with (first
        | (go_at_call 117;go_must (refine (nameOk_any _ _ hs').mono ?_;rintro e w' ⟨rfl,rfl⟩))
        | (go_at_call 118;go_must (refine (isSmall_any _ _ hb.1 hb.2).mono ?_;rintro e w' ⟨rfl,rfl⟩)))
      go_ret
      exact ⟨ret_bool (by rw [HF.out] at hi;simp [atomB,hi]),rfl⟩
  · go_enter Tryz.func85,Tryz.ntmps85
    go_wp2_with (go_at_call 117;go_must (refine (nameOk_any _ _ hs').mono ?_;rintro e w' ⟨rfl,rfl⟩))
    go_ret
    exact ⟨ret_bool (by simp [atomB,hn]),rfl⟩
end Go.Proofs.YtefpgpbbgclemaaGreatDoor
