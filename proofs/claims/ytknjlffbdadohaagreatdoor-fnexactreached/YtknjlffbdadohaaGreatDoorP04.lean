/-
  Names FirstN AtomOk VarOk
-/
import Derived.Test.YtknjlffbdadohaaGreatDoorP00
import Derived.Test.YtknjlffbdadohaaGreatDoorP03
set_option maxHeartbeats 16000000
set_option linter.unusedVariables false
set_option maxRecDepth 100000
namespace Go.Proofs.YtknjlffbdadohaaGreatDoor
open Go.ChangeShapes Go.WideShapes Go.ChangeAt Go.RowKit
section
open Go.Proofs.Tryz
def allB (l:List UInt8):Bool:=l.all λc=>signB (c.toNat:Int)
def nameB (s:ByteArray):Bool:=allB s.data.toList && decide (1<=s.size/\s.size<=10)
theorem take_snoc (s:ByteArray) (k:Nat) (h:k<s.size):s.data.toList.take (k+1)=s.data.toList.take k ++ [s[k]]:=by
 rw [List.take_succ_eq_append_getElem (by simpa using h)];rfl
theorem allB_snoc (s:ByteArray) (k:Nat) (h:k<s.size) (ha:allB (s.data.toList.take k)=true) (hs:signB (s[k].toNat:Int)=true) :
 allB (s.data.toList.take (k+1))=true:=by
 rw [take_snoc s k h];unfold allB at *;rw [List.all_append,ha];simp [hs]
theorem allB_no (s:ByteArray) (k:Nat) (h:k<s.size) (hs:signB (s[k].toNat:Int)=false) :
 allB s.data.toList=false:=by
 unfold allB;rw [List.all_eq_false];refine ⟨s[k],?_,by simp [hs]⟩;exact List.getElem_mem (by simpa using h)
theorem allB_all (s:ByteArray) (k:Nat) (h:s.size<=k) (ha:allB (s.data.toList.take k)=true):allB s.data.toList=true:=by
 rwa [List.take_of_length_le (by simpa using h)] at ha
theorem byte_lt (s:ByteArray) (k:Nat) (h:k<s.size):0<=((s[k].toNat:Nat):Int)/\((s[k].toNat:Nat):Int)<256:=by
 have:=s[k].toNat_lt;omega
theorem inB_size (n:Nat):inB (n:Int) 1 10=decide (1<=n/\n<=10):=by
 unfold inB;rw [decide_eq_decide];omega
theorem nameB_none (s:ByteArray) (h:¬ 1<=s.size\/¬ s.size<=10):nameB s=false:=by
 unfold nameB;rw [decide_eq_false (by omega),Bool.and_false]
theorem nameB_some (s:ByteArray) (h1:1<=s.size) (h2:s.size<=10):nameB s=allB s.data.toList:=by
 unfold nameB;rw [decide_eq_true ⟨h1,h2⟩,Bool.and_true]
theorem l01Name_any (s:ByteArray) (w:World) (hs:s.size<=maxLen) :
 Calls prog 106 #[.string s] w λe w'=>e=.returned (.bool (nameB s))/\w'=w:=by
 unfold maxLen at hs;go_enter func106,ntmps106;go_wp2
 go_loop [3] (λi=>∃ k:Nat,k<=s.size/\i=.int .i64 k/\allB (s.data.toList.take k)=true) (λi=>s.size - (intOf i).toNat)
 case atStart=>exact ⟨0,Nat.zero_le _,rfl,rfl⟩
 case round =>
  obtain ⟨k,hk,rfl,ha⟩:=hrel;by_cases hlt:k<s.size
  . have hb:=byte_lt s k hlt
    have HA:=hid ha;clear ha
    have hc:signB (s[k].toNat:Int)=true\/signB (s[k].toNat:Int)=false:=by cases signB (s[k].toNat:Int) <;> simp
    rcases hc with hc | hc
    . go_wp2_with (go_at_call 146;go_must (refine (l01Sign_any _ _ hb.1 hb.2).mono ?_;rintro e w' ⟨rfl,rfl⟩))
      go_round
      case rel=>exact ⟨k+1,by omega,by go_num,allB_snoc s k hlt HA.out hc⟩
      case measure=>simp [intOf];omega
    . go_wp2_with (go_at_call 146;go_must (refine (l01Sign_any _ _ hb.1 hb.2).mono ?_;rintro e w' ⟨rfl,rfl⟩))
      go_ret;exact ⟨ret_bool (by simp [nameB,allB_no s k hlt hc]),rfl⟩
  . have hall:=allB_all s k (by omega) ha
    have HA:=hid hall;clear ha hall;go_wp2_with (go_at_call 74;go_must (refine (l01In_any _ _ _ _).mono ?_;rintro e w' ⟨rfl,rfl⟩));go_ret;exact ⟨ret_bool (by rw [nameB,HA.out,Bool.true_and,inB_size]),rfl⟩
theorem madeOf_name (s:ByteArray) (w:World) (hs:s.size<=maxLen) :
 Calls prog 153 #[.string s,.func (.func 154) #[] #[]] w λe w'=>e=.returned (.bool (allB s.data.toList))/\w'=w:=by
 unfold maxLen at hs;go_enter func153,ntmps153;go_wp2
 go_loop [8] (λi=>∃ k:Nat,k<=s.size/\i=.int .i64 k/\allB (s.data.toList.take k)=true) (λi=>s.size - (intOf i).toNat)
 case atStart=>exact ⟨0,Nat.zero_le _,rfl,rfl⟩
 case round =>
  obtain ⟨k,hk,rfl,ha⟩:=hrel;by_cases hlt:k<s.size
  . have hb:=byte_lt s k hlt
    have HA:=hid ha;clear ha
    have hc:signB (s[k].toNat:Int)=true\/signB (s[k].toNat:Int)=false:=by cases signB (s[k].toNat:Int) <;> simp
    rcases hc with hc | hc
    . go_wp2_with (go_at_call 154;go_must (refine (isNamePart_any _ _ hb.1 hb.2).mono ?_;rintro e w' ⟨rfl,rfl⟩))
      go_round
      case rel=>exact ⟨k+1,by omega,by go_num,allB_snoc s k hlt HA.out hc⟩
      case measure=>simp [intOf];omega
    . go_wp2_with (go_at_call 154;go_must (refine (isNamePart_any _ _ hb.1 hb.2).mono ?_;rintro e w' ⟨rfl,rfl⟩))
      go_ret;exact ⟨ret_bool (by rw [allB_no s k hlt hc]),rfl⟩
  . have hall:=allB_all s k (by omega) ha
    have HA:=hid hall;clear ha hall;go_wp2;go_ret;exact ⟨ret_bool (by rw [HA.out]),rfl⟩
theorem nameOk_any (s:ByteArray) (w:World) (hs:s.size<=maxLen) :
 Calls prog 114 #[.string s] w λe w'=>e=.returned (.bool (nameB s))/\w'=w:=by
 have hs':=hs;unfold maxLen at hs;by_cases h1:1<=s.size
 . by_cases h2:s.size<=10
   . go_enter func114,ntmps114
     go_wp2_with (go_at_call 153;go_must (refine (madeOf_name _ _ hs').mono ?_;rintro e w' ⟨rfl,rfl⟩));go_ret;exact ⟨ret_bool (nameB_some s h1 h2).symm,rfl⟩
   . go_enter func114,ntmps114
     go_wp2;go_ret;exact ⟨ret_bool (nameB_none s (.inr h2)).symm,rfl⟩
 . go_enter func114,ntmps114
   go_wp2;go_ret;exact ⟨ret_bool (nameB_none s (.inl h1)).symm,rfl⟩
end
def firstN (s:ByteArray):Int:=((s.data.toList.headD 0).toNat:Int)
def varB (s:ByteArray):Bool:=nameB s && inB (firstN s) 65 90
theorem nameB_size (s:ByteArray) (h:nameB s=true):0<s.size:=by
 unfold nameB at h;rw [Bool.and_eq_true] at h;have:=of_decide_eq_true h.2;omega
theorem first_eq (s:ByteArray) (h:0<s.size):(s[0].toNat:Int)=firstN s:=by
 have e:s.data.toList.headD 0=s[0]:=by
  have h':0<s.data.toList.length:=(by simpa using h);rw [List.headD_eq_head?_getD,List.head?_eq_getElem?,List.getElem?_eq_getElem h']
  rfl
 rw [firstN,e]
section
open Go.Proofs.Tryz
def keyB (s:ByteArray):Bool:=s.toList == [99,97,115,101] || s.toList == [111,102] || s.toList == [101,110,100]
def KeysAt (w:World):Prop :=
 w.cell? ⟨0,0,none⟩=some (.string ⟨#[99,97,115,101]⟩)/\w.cell? ⟨0,1,none⟩=some (.string ⟨#[111,102]⟩)/\w.cell? ⟨0,2,none⟩=some (.string ⟨#[101,110,100]⟩)
def atomB (s:ByteArray):Bool:=nameB s && inB (firstN s) 97 122 && !keyB s
theorem keyB_not {s:ByteArray} (h0:(s.toList == [99,97,115,101])=false) (h1:(s.toList == [111,102])=false) (h2:(s.toList == [101,110,100])=false):keyB s=false:=by
 rw [keyB,h0,h1,h2];rfl
theorem key0_yes {s:ByteArray} (h:([99,97,115,101] == s.toList)=true):keyB s=true:=by
 have e:=(beq_iff_eq.1 h).symm;simp [keyB,e]
theorem key0_no {s:ByteArray} (h:([99,97,115,101] == s.toList)=false):(s.toList == [99,97,115,101])=false:=by
 rw [beq_eq_false_iff_ne] at h ⊢;exact λe=>h e.symm
theorem key1_yes {s:ByteArray} (h:([111,102] == s.toList)=true):keyB s=true:=by
 have e:=(beq_iff_eq.1 h).symm;simp [keyB,e]
theorem key1_no {s:ByteArray} (h:([111,102] == s.toList)=false):(s.toList == [111,102])=false:=by
 rw [beq_eq_false_iff_ne] at h ⊢;exact λe=>h e.symm
theorem key2_yes {s:ByteArray} (h:([101,110,100] == s.toList)=true):keyB s=true:=by
 have e:=(beq_iff_eq.1 h).symm;simp [keyB,e]
theorem key2_no {s:ByteArray} (h:([101,110,100] == s.toList)=false):(s.toList == [101,110,100])=false:=by
 rw [beq_eq_false_iff_ne] at h ⊢;exact λe=>h e.symm
theorem l01Key_any (s:ByteArray) (w:World) :
 Calls prog 108 #[.string s] w λe w'=>e=.returned (.bool (keyB s))/\w'=w:=by
 go_enter func108,ntmps108;go_wp2
 all_goals go_ret
 . exact ⟨ret_bool (by simp [keyB, *]),rfl⟩
 . exact ⟨ret_bool (by simp [keyB, *]),rfl⟩
 . exact ⟨ret_bool (by simp [keyB]),rfl⟩
theorem keys_at0 (w:World):Sem.run prog (Instr.index 205 (.agg #[.string ⟨#[99,97,115,101]⟩,.string ⟨#[111,102]⟩,.string ⟨#[101,110,100]⟩]) (.int .i64 0)) w=.ok (.string ⟨#[99,97,115,101]⟩) w:=by kernel_rfl
theorem keys_at1 (w:World):Sem.run prog (Instr.index 205 (.agg #[.string ⟨#[99,97,115,101]⟩,.string ⟨#[111,102]⟩,.string ⟨#[101,110,100]⟩]) (.int .i64 1)) w=.ok (.string ⟨#[111,102]⟩) w:=by kernel_rfl
theorem keys_at2 (w:World):Sem.run prog (Instr.index 205 (.agg #[.string ⟨#[99,97,115,101]⟩,.string ⟨#[111,102]⟩,.string ⟨#[101,110,100]⟩]) (.int .i64 2)) w=.ok (.string ⟨#[101,110,100]⟩) w:=by kernel_rfl
theorem isKeyword_any (s:ByteArray) (w:World) (hk:KeysAt w) :
 Calls prog 116 #[.string s] w λe w'=>e=.returned (.bool (keyB s))/\w'=w:=by
 obtain ⟨h0,h1,h2⟩:=hk;go_enter func116,ntmps116;go_wp2
 go_loop [6] (λi=>∃ k:Nat,k<=3/\i=.int .i64 k/\(1<=k->(s.toList == [99,97,115,101])=false)/\(2<=k->(s.toList == [111,102])=false)/\(3<=k->(s.toList == [101,110,100])=false)) (λi=>3 - (intOf i).toNat)
 case atStart=>exact ⟨0,by omega,rfl,by omega,by omega,by omega⟩
 case round =>
  obtain ⟨k,hk,rfl,n0,n1,n2⟩:=hrel;have H0:=hid n0;have H1:=hid n1;have H2:=hid n2;clear n0 n1 n2 h0 h1 h2
  rcases (by omega:k=0\/k=1\/k=2\/k=3) with rfl | rfl | rfl | rfl
  . have r0:=keys_at0
    go_wp2
    . go_ret
      exact ⟨ret_bool (key0_yes ‹_›).symm,rfl⟩
    . go_round
      case rel=>exact ⟨1,by omega,rfl,λ_=>key0_no ‹_›,by omega,by omega⟩
      case measure=>simp [intOf]
  . have r1:=keys_at1
    go_wp2
    . go_ret
      exact ⟨ret_bool (key1_yes ‹_›).symm,rfl⟩
    . go_round
      case rel=>exact ⟨2,by omega,rfl,λ_=>H0.out (by omega),λ_=>key1_no ‹_›,by omega⟩
      case measure=>simp [intOf]
  . have r2:=keys_at2
    go_wp2
    . go_ret
      exact ⟨ret_bool (key2_yes ‹_›).symm,rfl⟩
    . go_round
      case rel=>exact ⟨3,by omega,rfl,λ_=>H0.out (by omega),λ_=>H1.out (by omega),λ_=>key2_no ‹_›⟩
      case measure=>simp [intOf]
  . go_wp2
    go_ret;exact ⟨ret_bool (keyB_not (H0.out (by omega)) (H1.out (by omega)) (H2.out (by omega))).symm,rfl⟩
theorem specAtomOk_any (s:ByteArray) (w:World) (hs:s.size<=maxLen) :
 Calls prog 73 #[.string s] w λe w'=>e=.returned (.bool (atomB s))/\w'=w:=by
 have hs':=hs;unfold maxLen at hs
 have hn:nameB s=true\/nameB s=false:=by cases nameB s <;> simp
 rcases hn with hn | hn
 . have hz:=nameB_size s hn
   have hb:=byte_lt s 0 hz;have hf:=first_eq s hz;have HF:=hid hf;clear hf
   have hi:inB (s[0].toNat:Int) 97 122=true\/inB (s[0].toNat:Int) 97 122=false:=by cases inB (s[0].toNat:Int) 97 122 <;> simp
   rcases hi with hi | hi
   . go_enter func73,ntmps73
     go_wp2_with (first
      | (go_at_call 106;go_must (refine (l01Name_any _ _ hs').mono ?_;rintro e w' ⟨rfl,rfl⟩))
      | (go_at_call 107;go_must (refine (l01Small_any _ _ hb.1 hb.2).mono ?_;rintro e w' ⟨rfl,rfl⟩))
      | (go_at_call 108;go_must (refine (l01Key_any _ _).mono ?_;rintro e w' ⟨rfl,rfl⟩)))
     go_ret;exact ⟨ret_bool (by rw [HF.out] at hi;simp [atomB,hn,hi]),rfl⟩
   . go_enter func73,ntmps73
     go_wp2_with (first
      | (go_at_call 106;go_must (refine (l01Name_any _ _ hs').mono ?_;rintro e w' ⟨rfl,rfl⟩))
      | (go_at_call 107;go_must (refine (l01Small_any _ _ hb.1 hb.2).mono ?_;rintro e w' ⟨rfl,rfl⟩)))
     go_ret;exact ⟨ret_bool (by rw [HF.out] at hi;simp [atomB,hi]),rfl⟩
 . go_enter func73,ntmps73
   go_wp2_with (go_at_call 106;go_must (refine (l01Name_any _ _ hs').mono ?_;rintro e w' ⟨rfl,rfl⟩));go_ret;exact ⟨ret_bool (by simp [atomB,hn]),rfl⟩
theorem implAtomOk_any (s:ByteArray) (w:World) (hs:s.size<=maxLen) (hk:KeysAt w) :
 Calls prog 81 #[.string s] w λe w'=>e=.returned (.bool (atomB s))/\w'=w:=by
 have hs':=hs;unfold maxLen at hs
 have hn:nameB s=true\/nameB s=false:=by cases nameB s <;> simp
 rcases hn with hn | hn
 . have hz:=nameB_size s hn
   have hb:=byte_lt s 0 hz;have hf:=first_eq s hz;have HF:=hid hf;clear hf
   have hi:inB (s[0].toNat:Int) 97 122=true\/inB (s[0].toNat:Int) 97 122=false:=by cases inB (s[0].toNat:Int) 97 122 <;> simp
   rcases hi with hi | hi
   . go_enter func81,ntmps81
     go_wp2_with (first
      | (go_at_call 114;go_must (refine (nameOk_any _ _ hs').mono ?_;rintro e w' ⟨rfl,rfl⟩))
      | (go_at_call 115;go_must (refine (isSmall_any _ _ hb.1 hb.2).mono ?_;rintro e w' ⟨rfl,rfl⟩))
      | (go_at_call 116;go_must (refine (isKeyword_any _ _ hk).mono ?_;rintro e w' ⟨rfl,rfl⟩)))
     go_ret;exact ⟨ret_bool (by rw [HF.out] at hi;simp [atomB,hn,hi]),rfl⟩
   . go_enter func81,ntmps81
     go_wp2_with (first
      | (go_at_call 114;go_must (refine (nameOk_any _ _ hs').mono ?_;rintro e w' ⟨rfl,rfl⟩))
      | (go_at_call 115;go_must (refine (isSmall_any _ _ hb.1 hb.2).mono ?_;rintro e w' ⟨rfl,rfl⟩)))
     go_ret;exact ⟨ret_bool (by rw [HF.out] at hi;simp [atomB,hi]),rfl⟩
 . go_enter func81,ntmps81
   go_wp2_with (go_at_call 114;go_must (refine (nameOk_any _ _ hs').mono ?_;rintro e w' ⟨rfl,rfl⟩));go_ret;exact ⟨ret_bool (by simp [atomB,hn]),rfl⟩
theorem specVarOk_any (s:ByteArray) (w:World) (hs:s.size<=maxLen) :
 Calls prog 181 #[.string s] w λe w'=>e=.returned (.bool (varB s))/\w'=w:=by
 have hs':=hs;unfold maxLen at hs
 have hn:nameB s=true\/nameB s=false:=by cases nameB s <;> simp
 rcases hn with hn | hn
 . have hz:=nameB_size s hn
   have hb:=byte_lt s 0 hz;have hf:=first_eq s hz;have HF:=hid hf;clear hf;go_enter func181,ntmps181
   go_wp2_with (first
    | (go_at_call 106;go_must (refine (l01Name_any _ _ hs').mono ?_;rintro e w' ⟨rfl,rfl⟩))
    | (go_at_call 179;go_must (refine (l01Great_any _ _ hb.1 hb.2).mono ?_;rintro e w' ⟨rfl,rfl⟩)))
   go_ret;exact ⟨ret_bool (by rw [varB,hn,HF.out,Bool.true_and]),rfl⟩
 . go_enter func181,ntmps181
   go_wp2_with (go_at_call 106;go_must (refine (l01Name_any _ _ hs').mono ?_;rintro e w' ⟨rfl,rfl⟩));go_ret;exact ⟨ret_bool (by rw [varB,hn,Bool.false_and]),rfl⟩
theorem implVarOk_any (s:ByteArray) (w:World) (hs:s.size<=maxLen) :
 Calls prog 223 #[.string s] w λe w'=>e=.returned (.bool (varB s))/\w'=w:=by
 have hs':=hs;unfold maxLen at hs
 have hn:nameB s=true\/nameB s=false:=by cases nameB s <;> simp
 rcases hn with hn | hn
 . have hz:=nameB_size s hn
   have hb:=byte_lt s 0 hz;have hf:=first_eq s hz;have HF:=hid hf;clear hf;go_enter func223,ntmps223
   go_wp2_with (first
    | (go_at_call 114;go_must (refine (nameOk_any _ _ hs').mono ?_;rintro e w' ⟨rfl,rfl⟩))
    | (go_at_call 183;go_must (refine (isGreat_any _ _ hb.1 hb.2).mono ?_;rintro e w' ⟨rfl,rfl⟩)))
   go_ret;exact ⟨ret_bool (by rw [varB,hn,HF.out,Bool.true_and]),rfl⟩
 . go_enter func223,ntmps223
   go_wp2_with (go_at_call 114;go_must (refine (nameOk_any _ _ hs').mono ?_;rintro e w' ⟨rfl,rfl⟩));go_ret;exact ⟨ret_bool (by rw [varB,hn,Bool.false_and]),rfl⟩
end
end Go.Proofs.YtknjlffbdadohaaGreatDoor
