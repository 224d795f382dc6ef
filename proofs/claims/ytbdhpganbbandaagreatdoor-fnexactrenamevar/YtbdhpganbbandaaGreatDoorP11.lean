/-
  Names FirstN VarOk AtomOk ModOkMath ModOkSpecA ModOkSpecB Mo
-/
import Derived.Test.YtbdhpganbbandaaGreatDoorP03
import Derived.Test.YtbdhpganbbandaaGreatDoorP00
set_option maxHeartbeats 16000000
set_option linter.unusedVariables false
set_option maxRecDepth 100000
namespace Go.Proofs.YtbdhpganbbandaaGreatDoor
open Go.ChangeShapes Go.WideShapes Go.ChangeAt Go.RowKit
section
open Go.Proofs.Tryz
def allB (l:List UInt8):Bool:=l.all λc=>signB (c.toNat:Int)
def nameB (s:ByteArray):Bool:=allB s.data.toList && decide (1<=s.size/\s.size<=10)
theorem take_snoc (s:ByteArray) (k:Nat) (h:k<s.size):s.data.toList.take (k+1)=s.data.toList.take k ++ [s[k]]:=by
 rw [List.take_succ_eq_append_getElem (by simpa using h)];rfl
theorem allB_snoc (s:ByteArray) (k:Nat) (h:k<s.size) (ha:allB (s.data.toList.take k)=true) (hs:signB (s[k].toNat:Int)=true) :
 allB (s.data.toList.take (k+1))=true:=by
 rw [take_snoc s k h];unfold allB at *;rw [List.all_append,ha];simp [hs]
theorem allB_no (s:ByteArray) (k:Nat) (h:k<s.size) (hs:signB (s[k].toNat:Int)=false) :
 allB s.data.toList=false:=by
 unfold allB;rw [List.all_eq_false];refine ⟨s[k],?_,by simp [hs]⟩;exact List.getElem_mem (by simpa using h)
theorem allB_all (s:ByteArray) (k:Nat) (h:s.size<=k) (ha:allB (s.data.toList.take k)=true):allB s.data.toList=true:=by
 rwa [List.take_of_length_le (by simpa using h)] at ha
theorem byte_lt (s:ByteArray) (k:Nat) (h:k<s.size):0<=((s[k].toNat:Nat):Int)/\((s[k].toNat:Nat):Int)<256:=by
 have:=s[k].toNat_lt;omega
theorem inB_size (n:Nat):inB (n:Int) 1 10=decide (1<=n/\n<=10):=by
 unfold inB;rw [decide_eq_decide];omega
theorem nameB_none (s:ByteArray) (h:¬ 1<=s.size\/¬ s.size<=10):nameB s=false:=by
 unfold nameB;rw [decide_eq_false (by omega),Bool.and_false]
theorem nameB_some (s:ByteArray) (h1:1<=s.size) (h2:s.size<=10):nameB s=allB s.data.toList:=by
 unfold nameB;rw [decide_eq_true ⟨h1,h2⟩,Bool.and_true]
theorem l01Name_any (s:ByteArray) (w:World) (hs:s.size<=maxLen) :
 Calls prog 46 #[.string s] w λe w'=>e=.returned (.bool (nameB s))/\w'=w:=by
 unfold maxLen at hs;go_enter func46,ntmps46;go_wp2
 go_loop [3] (λi=>∃ k:Nat,k<=s.size/\i=.int .i64 k/\allB (s.data.toList.take k)=true) (λi=>s.size - (intOf i).toNat)
 case atStart=>exact ⟨0,Nat.zero_le _,rfl,rfl⟩
 case round =>
  obtain ⟨k,hk,rfl,ha⟩:=hrel;by_cases hlt:k<s.size
  . have hb:=byte_lt s k hlt
    have HA:=hid ha;clear ha
    have hc:signB (s[k].toNat:Int)=true\/signB (s[k].toNat:Int)=false:=by cases signB (s[k].toNat:Int) <;> simp
    rcases hc with hc | hc
    . go_wp2_with (go_at_call 75;go_must (refine (l01Sign_any _ _ hb.1 hb.2).mono ?_;rintro e w' ⟨rfl,rfl⟩))
      go_round
      case rel=>exact ⟨k+1,by omega,by go_num,allB_snoc s k hlt HA.out hc⟩
      case measure=>simp [intOf];omega
    . go_wp2_with (go_at_call 75;go_must (refine (l01Sign_any _ _ hb.1 hb.2).mono ?_;rintro e w' ⟨rfl,rfl⟩))
      go_ret;exact ⟨ret_bool (by simp [nameB,allB_no s k hlt hc]),rfl⟩
  . have hall:=allB_all s k (by omega) ha
    have HA:=hid hall;clear ha hall;go_wp2_with (go_at_call 40;go_must (refine (l01In_any _ _ _ _).mono ?_;rintro e w' ⟨rfl,rfl⟩));go_ret;exact ⟨ret_bool (by rw [nameB,HA.out,Bool.true_and,inB_size]),rfl⟩
theorem madeOf_name (s:ByteArray) (w:World) (hs:s.size<=maxLen) :
 Calls prog 120 #[.string s,.func (.func 121) #[] #[]] w λe w'=>e=.returned (.bool (allB s.data.toList))/\w'=w:=by
 unfold maxLen at hs;go_enter func120,ntmps120;go_wp2
 go_loop [8] (λi=>∃ k:Nat,k<=s.size/\i=.int .i64 k/\allB (s.data.toList.take k)=true) (λi=>s.size - (intOf i).toNat)
 case atStart=>exact ⟨0,Nat.zero_le _,rfl,rfl⟩
 case round =>
  obtain ⟨k,hk,rfl,ha⟩:=hrel;by_cases hlt:k<s.size
  . have hb:=byte_lt s k hlt
    have HA:=hid ha;clear ha
    have hc:signB (s[k].toNat:Int)=true\/signB (s[k].toNat:Int)=false:=by cases signB (s[k].toNat:Int) <;> simp
    rcases hc with hc | hc
    . go_wp2_with (go_at_call 121;go_must (refine (isNamePart_any _ _ hb.1 hb.2).mono ?_;rintro e w' ⟨rfl,rfl⟩))
      go_round
      case rel=>exact ⟨k+1,by omega,by go_num,allB_snoc s k hlt HA.out hc⟩
      case measure=>simp [intOf];omega
    . go_wp2_with (go_at_call 121;go_must (refine (isNamePart_any _ _ hb.1 hb.2).mono ?_;rintro e w' ⟨rfl,rfl⟩))
      go_ret;exact ⟨ret_bool (by rw [allB_no s k hlt hc]),rfl⟩
  . have hall:=allB_all s k (by omega) ha
    have HA:=hid hall;clear ha hall;go_wp2;go_ret;exact ⟨ret_bool (by rw [HA.out]),rfl⟩
theorem nameOk_any (s:ByteArray) (w:World) (hs:s.size<=maxLen) :
 Calls prog 83 #[.string s] w λe w'=>e=.returned (.bool (nameB s))/\w'=w:=by
 have hs':=hs;unfold maxLen at hs;by_cases h1:1<=s.size
 . by_cases h2:s.size<=10
   . go_enter func83,ntmps83
     go_wp2_with (go_at_call 120;go_must (refine (madeOf_name _ _ hs').mono ?_;rintro e w' ⟨rfl,rfl⟩));go_ret;exact ⟨ret_bool (nameB_some s h1 h2).symm,rfl⟩
   . go_enter func83,ntmps83
     go_wp2;go_ret;exact ⟨ret_bool (nameB_none s (.inr h2)).symm,rfl⟩
 . go_enter func83,ntmps83
   go_wp2;go_ret;exact ⟨ret_bool (nameB_none s (.inl h1)).symm,rfl⟩
end
def firstN (s:ByteArray):Int:=((s.data.toList.headD 0).toNat:Int)
def varB (s:ByteArray):Bool:=nameB s && inB (firstN s) 65 90
theorem nameB_size (s:ByteArray) (h:nameB s=true):0<s.size:=by
 unfold nameB at h;rw [Bool.and_eq_true] at h;have:=of_decide_eq_true h.2;omega
theorem first_eq (s:ByteArray) (h:0<s.size):(s[0].toNat:Int)=firstN s:=by
 have e:s.data.toList.headD 0=s[0]:=by
  have h':0<s.data.toList.length:=(by simpa using h);rw [List.headD_eq_head?_getD,List.head?_eq_getElem?,List.getElem?_eq_getElem h']
  rfl
 rw [firstN,e]
section
open Go.Proofs.Tryz
theorem specVarOk_any (s:ByteArray) (w:World) (hs:s.size<=maxLen) :
 Calls prog 19 #[.string s] w λe w'=>e=.returned (.bool (varB s))/\w'=w:=by
 have hs':=hs;unfold maxLen at hs
 have hn:nameB s=true\/nameB s=false:=by cases nameB s <;> simp
 rcases hn with hn | hn
 . have hz:=nameB_size s hn
   have hb:=byte_lt s 0 hz;have hf:=first_eq s hz;have HF:=hid hf;clear hf;go_enter func19,ntmps19
   go_wp2_with (first
    | (go_at_call 46;go_must (refine (l01Name_any _ _ hs').mono ?_;rintro e w' ⟨rfl,rfl⟩))
    | (go_at_call 47;go_must (refine (l01Great_any _ _ hb.1 hb.2).mono ?_;rintro e w' ⟨rfl,rfl⟩)))
   go_ret;exact ⟨ret_bool (by rw [varB,hn,HF.out,Bool.true_and]),rfl⟩
 . go_enter func19,ntmps19
   go_wp2_with (go_at_call 46;go_must (refine (l01Name_any _ _ hs').mono ?_;rintro e w' ⟨rfl,rfl⟩));go_ret;exact ⟨ret_bool (by rw [varB,hn,Bool.false_and]),rfl⟩
theorem implVarOk_any (s:ByteArray) (w:World) (hs:s.size<=maxLen) :
 Calls prog 56 #[.string s] w λe w'=>e=.returned (.bool (varB s))/\w'=w:=by
 have hs':=hs;unfold maxLen at hs
 have hn:nameB s=true\/nameB s=false:=by cases nameB s <;> simp
 rcases hn with hn | hn
 . have hz:=nameB_size s hn
   have hb:=byte_lt s 0 hz;have hf:=first_eq s hz;have HF:=hid hf;clear hf;go_enter func56,ntmps56
   go_wp2_with (first
    | (go_at_call 83;go_must (refine (nameOk_any _ _ hs').mono ?_;rintro e w' ⟨rfl,rfl⟩))
    | (go_at_call 84;go_must (refine (isGreat_any _ _ hb.1 hb.2).mono ?_;rintro e w' ⟨rfl,rfl⟩)))
   go_ret;exact ⟨ret_bool (by rw [varB,hn,HF.out,Bool.true_and]),rfl⟩
 . go_enter func56,ntmps56
   go_wp2_with (go_at_call 83;go_must (refine (nameOk_any _ _ hs').mono ?_;rintro e w' ⟨rfl,rfl⟩));go_ret;exact ⟨ret_bool (by rw [varB,hn,Bool.false_and]),rfl⟩
def keyB (s:ByteArray):Bool:=s.toList == [99,97,115,101] || s.toList == [111,102] || s.toList == [101,110,100]
def KeysAt (w:World):Prop :=
 w.cell? ⟨6,0,none⟩=some (.string ⟨#[99,97,115,101]⟩)/\w.cell? ⟨6,1,none⟩=some (.string ⟨#[111,102]⟩)/\w.cell? ⟨6,2,none⟩=some (.string ⟨#[101,110,100]⟩)
def atomB (s:ByteArray):Bool:=nameB s && inB (firstN s) 97 122 && !keyB s
theorem keyB_not {s:ByteArray} (h0:(s.toList == [99,97,115,101])=false) (h1:(s.toList == [111,102])=false) (h2:(s.toList == [101,110,100])=false):keyB s=false:=by
 rw [keyB,h0,h1,h2];rfl
theorem key0_yes {s:ByteArray} (h:([99,97,115,101] == s.toList)=true):keyB s=true:=by
 have e:=(beq_iff_eq.1 h).symm;simp [keyB,e]
theorem key0_no {s:ByteArray} (h:([99,97,115,101] == s.toList)=false):(s.toList == [99,97,115,101])=false:=by
 rw [beq_eq_false_iff_ne] at h ⊢;exact λe=>h e.symm
theorem key1_yes {s:ByteArray} (h:([111,102] == s.toList)=true):keyB s=true:=by
 have e:=(beq_iff_eq.1 h).symm;simp [keyB,e]
theorem key1_no {s:ByteArray} (h:([111,102] == s.toList)=false):(s.toList == [111,102])=false:=by
 rw [beq_eq_false_iff_ne] at h ⊢;exact λe=>h e.symm
theorem key2_yes {s:ByteArray} (h:([101,110,100] == s.toList)=true):keyB s=true:=by
 have e:=(beq_iff_eq.1 h).symm;simp [keyB,e]
theorem key2_no {s:ByteArray} (h:([101,110,100] == s.toList)=false):(s.toList == [101,110,100])=false:=by
 rw [beq_eq_false_iff_ne] at h ⊢;exact λe=>h e.symm
theorem l01Key_any (s:ByteArray) (w:World) :
 Calls prog 131 #[.string s] w λe w'=>e=.returned (.bool (keyB s))/\w'=w:=by
 go_enter func131,ntmps131;go_wp2
 all_goals go_ret
 . exact ⟨ret_bool (by simp [keyB, *]),rfl⟩
 . exact ⟨ret_bool (by simp [keyB, *]),rfl⟩
 . exact ⟨ret_bool (by simp [keyB]),rfl⟩
theorem keys_at0 (w:World):Sem.run prog (Instr.index 243 (.agg #[.string ⟨#[99,97,115,101]⟩,.string ⟨#[111,102]⟩,.string ⟨#[101,110,100]⟩]) (.int .i64 0)) w=.ok (.string ⟨#[99,97,115,101]⟩) w:=by kernel_rfl
theorem keys_at1 (w:World):Sem.run prog (Instr.index 243 (.agg #[.string ⟨#[99,97,115,101]⟩,.string ⟨#[111,102]⟩,.string ⟨#[101,110,100]⟩]) (.int .i64 1)) w=.ok (.string ⟨#[111,102]⟩) w:=by kernel_rfl
theorem keys_at2 (w:World):Sem.run prog (Instr.index 243 (.agg #[.string ⟨#[99,97,115,101]⟩,.string ⟨#[111,102]⟩,.string ⟨#[101,110,100]⟩]) (.int .i64 2)) w=.ok (.string ⟨#[101,110,100]⟩) w:=by kernel_rfl
theorem isKeyword_any (s:ByteArray) (w:World) (hk:KeysAt w) :
 Calls prog 165 #[.string s] w λe w'=>e=.returned (.bool (keyB s))/\w'=w:=by
 obtain ⟨h0,h1,h2⟩:=hk;go_enter func165,ntmps165;go_wp2
 go_loop [6] (λi=>∃ k:Nat,k<=3/\i=.int .i64 k/\(1<=k->(s.toList == [99,97,115,101])=false)/\(2<=k->(s.toList == [111,102])=false)/\(3<=k->(s.toList == [101,110,100])=false)) (λi=>3 - (intOf i).toNat)
 case atStart=>exact ⟨0,by omega,rfl,by omega,by omega,by omega⟩
 case round =>
  obtain ⟨k,hk,rfl,n0,n1,n2⟩:=hrel;have H0:=hid n0;have H1:=hid n1;have H2:=hid n2;clear n0 n1 n2 h0 h1 h2
  rcases (by omega:k=0\/k=1\/k=2\/k=3) with rfl | rfl | rfl | rfl
  . have r0:=keys_at0
    go_wp2
    . go_ret
      exact ⟨ret_bool (key0_yes ‹_›).symm,rfl⟩
    . go_round
      case rel=>exact ⟨1,by omega,rfl,λ_=>key0_no ‹_›,by omega,by omega⟩
      case measure=>simp [intOf]
  . have r1:=keys_at1
    go_wp2
    . go_ret
      exact ⟨ret_bool (key1_yes ‹_›).symm,rfl⟩
    . go_round
      case rel=>exact ⟨2,by omega,rfl,λ_=>H0.out (by omega),λ_=>key1_no ‹_›,by omega⟩
      case measure=>simp [intOf]
  . have r2:=keys_at2
    go_wp2
    . go_ret
      exact ⟨ret_bool (key2_yes ‹_›).symm,rfl⟩
    . go_round
      case rel=>exact ⟨3,by omega,rfl,λ_=>H0.out (by omega),λ_=>H1.out (by omega),λ_=>key2_no ‹_›⟩
      case measure=>simp [intOf]
  . go_wp2
    go_ret;exact ⟨ret_bool (keyB_not (H0.out (by omega)) (H1.out (by omega)) (H2.out (by omega))).symm,rfl⟩
theorem specAtomOk_any (s:ByteArray) (w:World) (hs:s.size<=maxLen) :
 Calls prog 103 #[.string s] w λe w'=>e=.returned (.bool (atomB s))/\w'=w:=by
 have hs':=hs;unfold maxLen at hs
 have hn:nameB s=true\/nameB s=false:=by cases nameB s <;> simp
 rcases hn with hn | hn
 . have hz:=nameB_size s hn
   have hb:=byte_lt s 0 hz;have hf:=first_eq s hz;have HF:=hid hf;clear hf
   have hi:inB (s[0].toNat:Int) 97 122=true\/inB (s[0].toNat:Int) 97 122=false:=by cases inB (s[0].toNat:Int) 97 122 <;> simp
   rcases hi with hi | hi
   . go_enter func103,ntmps103
     go_wp2_with (first
      | (go_at_call 46;go_must (refine (l01Name_any _ _ hs').mono ?_;rintro e w' ⟨rfl,rfl⟩))
      | (go_at_call 108;go_must (refine (l01Small_any _ _ hb.1 hb.2).mono ?_;rintro e w' ⟨rfl,rfl⟩))
      | (go_at_call 131;go_must (refine (l01Key_any _ _).mono ?_;rintro e w' ⟨rfl,rfl⟩)))
     go_ret;exact ⟨ret_bool (by rw [HF.out] at hi;simp [atomB,hn,hi]),rfl⟩
   . go_enter func103,ntmps103
     go_wp2_with (first
      | (go_at_call 46;go_must (refine (l01Name_any _ _ hs').mono ?_;rintro e w' ⟨rfl,rfl⟩))
      | (go_at_call 108;go_must (refine (l01Small_any _ _ hb.1 hb.2).mono ?_;rintro e w' ⟨rfl,rfl⟩)))
     go_ret;exact ⟨ret_bool (by rw [HF.out] at hi;simp [atomB,hi]),rfl⟩
 . go_enter func103,ntmps103
   go_wp2_with (go_at_call 46;go_must (refine (l01Name_any _ _ hs').mono ?_;rintro e w' ⟨rfl,rfl⟩));go_ret;exact ⟨ret_bool (by simp [atomB,hn]),rfl⟩
theorem implAtomOk_any (s:ByteArray) (w:World) (hs:s.size<=maxLen) (hk:KeysAt w) :
 Calls prog 137 #[.string s] w λe w'=>e=.returned (.bool (atomB s))/\w'=w:=by
 have hs':=hs;unfold maxLen at hs
 have hn:nameB s=true\/nameB s=false:=by cases nameB s <;> simp
 rcases hn with hn | hn
 . have hz:=nameB_size s hn
   have hb:=byte_lt s 0 hz;have hf:=first_eq s hz;have HF:=hid hf;clear hf
   have hi:inB (s[0].toNat:Int) 97 122=true\/inB (s[0].toNat:Int) 97 122=false:=by cases inB (s[0].toNat:Int) 97 122 <;> simp
   rcases hi with hi | hi
   . go_enter func137,ntmps137
     go_wp2_with (first
      | (go_at_call 83;go_must (refine (nameOk_any _ _ hs').mono ?_;rintro e w' ⟨rfl,rfl⟩))
      | (go_at_call 152;go_must (refine (isSmall_any _ _ hb.1 hb.2).mono ?_;rintro e w' ⟨rfl,rfl⟩))
      | (go_at_call 165;go_must (refine (isKeyword_any _ _ hk).mono ?_;rintro e w' ⟨rfl,rfl⟩)))
     go_ret;exact ⟨ret_bool (by rw [HF.out] at hi;simp [atomB,hn,hi]),rfl⟩
   . go_enter func137,ntmps137
     go_wp2_with (first
      | (go_at_call 83;go_must (refine (nameOk_any _ _ hs').mono ?_;rintro e w' ⟨rfl,rfl⟩))
      | (go_at_call 152;go_must (refine (isSmall_any _ _ hb.1 hb.2).mono ?_;rintro e w' ⟨rfl,rfl⟩)))
     go_ret;exact ⟨ret_bool (by rw [HF.out] at hi;simp [atomB,hi]),rfl⟩
 . go_enter func137,ntmps137
   go_wp2_with (go_at_call 83;go_must (refine (nameOk_any _ _ hs').mono ?_;rintro e w' ⟨rfl,rfl⟩));go_ret;exact ⟨ret_bool (by simp [atomB,hn]),rfl⟩
end
def opB (t:ByteArray):Bool:=t.toList == [61,61] || t.toList == [60] || t.toList == [43] || t.toList == [45] || t.toList == [42]
def numB (k n:Int):Bool:=if k=0 then inB n 0 999999999 else decide (n=0)
def modB (k:Int) (m:ByteArray):Bool:=decide (m.toList = []) || (decide (k=8) && atomB m)
def tkB (k:Int) (t:ByteArray):Bool:=if k=1 then atomB t else if k=2 then varB t else if k=3 then opB t else decide (t.toList = [])
def txtK (k:Int):Int:=if k=1\/k=8 then 1 else if k=2 then 2 else if k=7 then 3 else 0
def txtB (k:Int) (t:ByteArray):Bool:=tkB (txtK k) t
def kidLo (k:Int):Int:=if k=4\/k=10 then 1 else if k=6\/k=7\/k=9 then 2 else 0
def kidHi (k:Int):Int:=if k=4 then 20 else if k=6\/k=7\/k=9 then 2 else if k=8 then 6 else if k=10 then 1 else 0
def clsLo (k:Int):Int:=if k=10 then 1 else 0
def clsHi (k:Int):Int:=if k=10 then 20 else 0
def plainB (k n:Int) (t m:ByteArray) (nk nc:Nat):Bool :=
 inB k 0 10 && (numB k n && (modB k m && (txtB k t && (inB nk (kidLo k) (kidHi k) && inB nc (clsLo k) (clsHi k)))))
def patB (k:Int) (pat:Bool):Bool:=if pat then decide (k<=6) else !decide (k=3)
def clB (f:Ex->Bool->Bool) (c:Cl) (pats:Int):Bool:=decide ((c.1.length:Int)=pats) && (inB c.2.length 1 20 && (c.1.all (λy=>f y true) && c.2.all (λy=>f y false)))
def kidsB (f:Ex->Bool->Bool):List Ex->Bool->Bool->Bool
 | [],_,_=>true
 | x :: xs,p0,p=>f x p0 && xs.all (λy=>f y p)
def exOk:Nat->Ex->Bool->Int->Bool
 | 0,_,_,_=>false
 | d+1,.mk k n t m ks cs,pat,deep=>decide (0<=deep) && (plainB k n t m ks.length cs.length && (patB k pat && (kidsB (λy q=>exOk d y q (deep - 1)) ks (pat || decide (k=9)) pat && cs.all (λc=>clB (λy q=>exOk d y q (deep - 1)) c 1))))
theorem kidsB_nil (f:Ex->Bool->Bool) (ks:List Ex) (p0 p:Bool):kidsB f (ks.take 0) p0 p=true:=by simp [kidsB]
theorem kidsB_succ (f:Ex->Bool->Bool) (ks:List Ex) (p0 p:Bool) (k:Nat) (x:Ex) (h:ks[k]?=some x) (ht:kidsB f (ks.take k) p0 p=true) (hx:f x (if k=0 then p0 else p)=true):kidsB f (ks.take (k+1)) p0 p=true:=by
 cases ks with
 | nil=>simp at h
 | cons y ys =>
  cases k with
  | zero=>simp at h hx;subst h;simp [kidsB,hx]
  | succ k =>
   simp only [List.getElem?_cons_succ] at h;simp only [Nat.add_one_ne_zero,if_false] at hx;simp only [List.take_succ_cons,kidsB,Bool.and_eq_true] at ht ⊢;refine ⟨ht.1,?_⟩;rw [List.take_add_one,h,List.all_append,ht.2];simp [hx]
theorem kidsB_at (f:Ex->Bool->Bool) (ks:List Ex) (p0 p:Bool) (k:Nat) (x:Ex) (h:ks[k]?=some x) (hx:f x (if k=0 then p0 else p)=false):kidsB f ks p0 p=false:=by
 cases ks with
 | nil=>simp at h
 | cons y ys =>
  cases k with
  | zero=>simp at h hx;subst h;simp [kidsB,hx]
  | succ k =>
   simp only [List.getElem?_cons_succ] at h;simp only [Nat.add_one_ne_zero,if_false] at hx;have:ys.all (λy=>f y p)=false:=(by rw [List.all_eq_false];exact ⟨x,List.mem_of_getElem? h,by simp [hx]⟩);simp [kidsB,this]
theorem kidsB_same (f:Ex->Bool->Bool) (ks:List Ex) (p:Bool):kidsB f ks p p=ks.all (λy=>f y p):=by
 cases ks <;> simp [kidsB]
theorem allT_succ {α:Type} (f:α->Bool) (xs:List α) (k:Nat) (x:α) (h:xs[k]?=some x) (ht:(xs.take k).all f=true) (hx:f x=true):(xs.take (k+1)).all f=true:=by
 rw [List.take_add_one,h,List.all_append,ht];simp [hx]
theorem allT_at {α:Type} (f:α->Bool) (xs:List α) (k:Nat) (x:α) (h:xs[k]?=some x) (hx:f x=false):xs.all f=false:=by
 rw [List.all_eq_false];exact ⟨x,List.mem_of_getElem? h,by simp [hx]⟩
theorem anyT_succ {α:Type} (f:α->Bool) (xs:List α) (k:Nat) (x:α) (h:xs[k]?=some x) (ht:(xs.take k).any f=false) (hx:f x=false):(xs.take (k+1)).any f=false:=by
 rw [List.take_add_one,h,List.any_append,ht];simp [hx]
theorem anyT_at {α:Type} (f:α->Bool) (xs:List α) (k:Nat) (x:α) (h:xs[k]?=some x) (hx:f x=true):xs.any f=true:=by
 rw [List.any_eq_true];exact ⟨x,List.mem_of_getElem? h,hx⟩
theorem exOk_eq (d:Nat) (k n:Int) (t m:ByteArray) (ks:List Ex) (cs:List Cl) (pat:Bool) (deep:Int) :
 exOk (d+1) (.mk k n t m ks cs) pat deep=(decide (0<=deep) && (plainB k n t m ks.length cs.length && (patB k pat && (kidsB (λy q=>exOk d y q (deep - 1)) ks (pat || decide (k=9)) pat && cs.all (λc=>clB (λy q=>exOk d y q (deep - 1)) c 1))))):=rfl
theorem plainB_range {k n:Int} {t m:ByteArray} {nk nc:Nat} (h:plainB k n t m nk nc=true):0<=k/\k<=10:=by
 unfold plainB at h;rw [Bool.and_eq_true] at h;have:=h.1;simp [inB] at this;omega
section
open Go.Proofs.Tryz
theorem l01Has_any (w:World) (g cap:Nat) (ss:List ByteArray) (s:ByteArray) (hl:ss.length<=1000) (h:∀ i x,ss[i]?=some x->w.cell? ⟨g,i,none⟩=some (.string x)) :
 Calls prog 17 #[.slice (some ⟨g,0,none⟩) ss.length cap,.string s] w λe w'=>e=.returned (.bool (ss.any λx=>x.toList == s.toList))/\w'=w:=by
 have HH:=hid h;generalize hn:ss.length=n at *;have HN:=hid hn;clear h hn;go_enter func17,ntmps17;go_wp2
 go_loop [5] (λiv=>∃ k:Nat,k<=n/\iv=.int .i64 k/\Hid ((ss.take k).any (λx=>x.toList == s.toList)=false)) (λiv=>n - (intOf iv).toNat)
 case atStart=>exact ⟨0,Nat.zero_le _,rfl,by show _=_;simp⟩
 case round =>
  obtain ⟨k,hk,rfl,hno⟩:=hrel;by_cases hlt:k<n
  . obtain ⟨x,hxk⟩:=sqA (l:=ss) (k:=k) HN.out hlt
    have a0:=HH.out k x hxk;have hki:(k:Int)<(n:Int):=(by omega);have hk0:=sqI k
    cases hq:(x.toList == s.toList) with
    | true =>
     have HS:Hid ((ss.any λx=>x.toList == s.toList)=true):=anyT_at _ ss k x hxk hq;go_wp2;go_ret;exact ⟨by rw [HS.out];rfl,rfl⟩
    | false =>
     have HS:Hid ((ss.take (k+1)).any (λx=>x.toList == s.toList)=false):=anyT_succ _ ss k x hxk hno.out hq;go_wp2
     go_round
     case rel=>exact ⟨k+1,by omega,by go_num,HS⟩
     case measure=>simp [intOf];omega
  . have HS:Hid ((ss.any λx=>x.toList == s.toList)=false):=by
     have:=hno.out
     rwa [List.take_of_length_le (by rw [HN.out];omega)] at this
    go_wp2;go_ret;exact ⟨by rw [HS.out];rfl,rfl⟩
def opsL:List ByteArray:=[⟨#[61,61]⟩,⟨#[60]⟩,⟨#[43]⟩,⟨#[45]⟩,⟨#[42]⟩]
theorem opsL_any (t:ByteArray):(opsL.any λx=>x.toList == t.toList)=opB t:=by
 have h:∀ l:List UInt8,(l == t.toList)=(t.toList == l):=λl=>by rw [Bool.eq_iff_iff];simp;exact eq_comm
 have e0:(⟨#[61,61]⟩:ByteArray).toList = [61,61]:=(by rw [ByteArray.toList_eq]);have e1:(⟨#[60]⟩:ByteArray).toList = [60]:=(by rw [ByteArray.toList_eq]);have e2:(⟨#[43]⟩:ByteArray).toList = [43]:=(by rw [ByteArray.toList_eq]);have e3:(⟨#[45]⟩:ByteArray).toList = [45]:=(by rw [ByteArray.toList_eq]);have e4:(⟨#[42]⟩:ByteArray).toList = [42]:=(by rw [ByteArray.toList_eq]);simp only [opsL,List.any_cons,List.any_nil,Bool.or_false,opB,e0,e1,e2,e3,e4,h,Bool.or_assoc]
theorem ops_at (W:World) (g:Nat) (hg:g=W.heap.size):∀ i x,opsL[i]?=some x->(W.alloc (.cells #[.string ⟨#[61,61]⟩,.string ⟨#[60]⟩,.string ⟨#[43]⟩,.string ⟨#[45]⟩,.string ⟨#[42]⟩] 9)).cell? ⟨g,i,none⟩=some (.string x):=by
 subst hg;intro i x h
 match i,h with
 | 0,h=>simp [opsL] at h;subst h;exact cell_new W _ _ 0 _ rfl
 | 1,h=>simp [opsL] at h;subst h;exact cell_new W _ _ 1 _ rfl
 | 2,h=>simp [opsL] at h;subst h;exact cell_new W _ _ 2 _ rfl
 | 3,h=>simp [opsL] at h;subst h;exact cell_new W _ _ 3 _ rfl
 | 4,h=>simp [opsL] at h;subst h;exact cell_new W _ _ 4 _ rfl
 | i+5,h=>simp [opsL] at h
theorem plainS_any (k n:Int) (t m:ByteArray) (p q:Option Addr) (nk c nc c':Nat) (w:World) (hts:t.size<=maxLen) (hms:m.size<=maxLen) (hnk:nk<=9223372036854775807) (hnc:nc<=9223372036854775807) :
 Calls prog 160 #[.agg #[.int .i64 k,.int .i64 n,.string t,.string m,.slice p nk c,.slice q nc c']] w λe w'=>e=.returned (.bool (plainB k n t m nk nc))/\Bz w w':=by
 by_cases c1:¬ k=0/\¬ n=0
 . obtain ⟨c1a,c1b⟩:=c1
   have HS:Hid (plainB k n t m nk nc=false):=by
    show _=_;simp [plainB,numB,c1a,c1b]
   have BL:Hid (Bz w (w.alloc (.cells #[.int .i64 k,.int .i64 n,.string t,.string m,.slice p nk c,.slice q nc c'] 74))):=(sqN _ _);go_enter func160,ntmps160;go_wp2;go_ret;exact ⟨by rw [HS.out];rfl,by first | exact BL.out | exact BL.out.alloc BL.out.size _⟩
 by_cases c2:¬ k=8/\¬ m.toList = []
 . obtain ⟨c2a,c2b⟩:=c2
   have hm2:(m.toList == [])=false:=(by simpa using c2b);by_cases k0:k=0
   . subst k0
     have HS:Hid (plainB 0 n t m nk nc=false):=by
      show _=_;simp [plainB,modB,c2b]
     have BL:Hid (Bz w (w.alloc (.cells #[.int .i64 0,.int .i64 n,.string t,.string m,.slice p nk c,.slice q nc c'] 74))):=(sqN _ _);go_enter func160,ntmps160;go_wp2;go_ret;exact ⟨by rw [HS.out];rfl,by first | exact BL.out | exact BL.out.alloc BL.out.size _⟩
   . have n0:n=0:=Classical.byContradiction λh=>c1 ⟨k0,h⟩
     subst n0;clear c1
     have HS:Hid (plainB k 0 t m nk nc=false):=by
      show _=_;simp [plainB,modB,c2a,c2b]
     have BL:Hid (Bz w (w.alloc (.cells #[.int .i64 k,.int .i64 0,.string t,.string m,.slice p nk c,.slice q nc c'] 74))):=(sqN _ _);go_enter func160,ntmps160;go_wp2;go_ret;exact ⟨by rw [HS.out];rfl,by first | exact BL.out | exact BL.out.alloc BL.out.size _⟩
 by_cases c3:¬ k=10/\¬ nc=0
 . obtain ⟨c3a,c3b⟩:=c3
   have hnc1:(0:Int)<(nc:Int):=(by omega);have hcl:inB nc (clsLo k) (clsHi k)=false:=(by simp [inB,clsLo,clsHi,c3a];omega);by_cases k0:k=0
   . subst k0
     have hm:m.toList = []:=Classical.byContradiction λh=>c2 ⟨by omega,h⟩;have hm2:(m.toList == [])=true:=(by simpa using hm);clear c1 c2 hm
     have HS:Hid (plainB 0 n t m nk nc=false):=by
      show _=_;simp only [plainB,hcl];simp
     have BL:Hid (Bz w (w.alloc (.cells #[.int .i64 0,.int .i64 n,.string t,.string m,.slice p nk c,.slice q nc c'] 74))):=(sqN _ _);go_enter func160,ntmps160;go_wp2;go_ret;exact ⟨by rw [HS.out];rfl,by first | exact BL.out | exact BL.out.alloc BL.out.size _⟩
   . have n0:n=0:=Classical.byContradiction λh=>c1 ⟨k0,h⟩
     subst n0;clear c1;by_cases k8:k=8
     . subst k8
       clear c2
       have HS:Hid (plainB 8 0 t m nk nc=false):=by
        show _=_;simp only [plainB,hcl];simp
       have BL:Hid (Bz w (w.alloc (.cells #[.int .i64 8,.int .i64 0,.string t,.string m,.slice p nk c,.slice q nc c'] 74))):=(sqN _ _);go_enter func160,ntmps160;go_wp2;go_ret;exact ⟨by rw [HS.out];rfl,by first | exact BL.out | exact BL.out.alloc BL.out.size _⟩
     . have c3c:(k != 10)=true:=by simpa using c3a
       have hnc2:0<nc:=(by omega);have hm:m.toList = []:=Classical.byContradiction λh=>c2 ⟨k8,h⟩;have hm2:(m.toList == [])=true:=(by simpa using hm);clear c2 hm
       have HS:Hid (plainB k 0 t m nk nc=false):=by
        show _=_;simp only [plainB,hcl];simp
       have BL:Hid (Bz w (w.alloc (.cells #[.int .i64 k,.int .i64 0,.string t,.string m,.slice p nk c,.slice q nc c'] 74))):=(sqN _ _);go_enter func160,ntmps160;go_wp2;go_ret;exact ⟨by rw [HS.out];rfl,by first | exact BL.out | exact BL.out.alloc BL.out.size _⟩
 have hm:k≠8->m.toList = []:=λh8=>Classical.byContradiction λh=>c2 ⟨h8,h⟩;have hn0:k≠0->n=0:=λh0=>Classical.byContradiction λh=>c1 ⟨h0,h⟩;have hc0:k≠10->nc=0:=λh0=>Classical.byContradiction λh=>c3 ⟨h0,h⟩;clear c1 c2 c3;by_cases k0:k=0
 . subst k0
   obtain rfl:=hc0 (by omega);have hm1:=hm (by omega);have hm2:(m.toList == [])=true:=(by simpa using hm1);clear hm hn0 hc0;by_cases ht:t.toList = []
   . have ht2:(t.toList == [])=true:=by simpa using ht
     by_cases hk:nk=0
     . subst hk
       have HS:Hid (plainB 0 n t m 0 0=inB n 0 999999999):=by
        show _=_
        (rw [Bool.eq_iff_iff];simp [plainB,numB,modB,txtB,txtK,tkB,kidLo,kidHi,clsLo,clsHi,inB,ht,hm1])
       have BL:Hid (Bz w (w.alloc (.cells #[.int .i64 0,.int .i64 n,.string t,.string m,.slice p 0 c,.slice q 0 c'] 74))):=(sqN _ _);go_enter func160,ntmps160;go_wp2_with (first | (go_at_call 103;go_must (refine (specAtomOk_any _ _ (by assumption)).mono ?_;rintro e w9 ⟨rfl,rfl⟩)) | (go_at_call 19;go_must (refine (specVarOk_any _ _ (by assumption)).mono ?_;rintro e w9 ⟨rfl,rfl⟩)) | (go_at_call 40;go_must (refine (l01In_any _ _ _ _).mono ?_;rintro e w9 ⟨rfl,rfl⟩)));go_ret;exact ⟨by rw [HS.out];rfl,by first | exact BL.out | exact BL.out.alloc BL.out.size _⟩
     . have hk2:((nk:Int) == 0)=false:=by simp;omega
       have HS:Hid (plainB 0 n t m nk 0=false):=by
        show _=_
        (simp [plainB,numB,modB,txtB,txtK,tkB,kidLo,kidHi,clsLo,clsHi,inB,ht,hm1];omega)
       have BL:Hid (Bz w (w.alloc (.cells #[.int .i64 0,.int .i64 n,.string t,.string m,.slice p nk c,.slice q 0 c'] 74))):=(sqN _ _);go_enter func160,ntmps160;go_wp2_with (first | (go_at_call 103;go_must (refine (specAtomOk_any _ _ (by assumption)).mono ?_;rintro e w9 ⟨rfl,rfl⟩)) | (go_at_call 19;go_must (refine (specVarOk_any _ _ (by assumption)).mono ?_;rintro e w9 ⟨rfl,rfl⟩)) | (go_at_call 40;go_must (refine (l01In_any _ _ _ _).mono ?_;rintro e w9 ⟨rfl,rfl⟩)));go_ret;exact ⟨by rw [HS.out];rfl,by first | exact BL.out | exact BL.out.alloc BL.out.size _⟩
   . have ht2:(t.toList == [])=false:=by simpa using ht
     have HS:Hid (plainB 0 n t m nk 0=false):=by
      show _=_;simp [plainB,numB,modB,txtB,txtK,tkB,kidLo,kidHi,clsLo,clsHi,inB,ht,hm1]
     have BL:Hid (Bz w (w.alloc (.cells #[.int .i64 0,.int .i64 n,.string t,.string m,.slice p nk c,.slice q 0 c'] 74))):=(sqN _ _);go_enter func160,ntmps160;go_wp2;go_ret;exact ⟨by rw [HS.out];rfl,by first | exact BL.out | exact BL.out.alloc BL.out.size _⟩
 by_cases k1:k=1
 . subst k1
   obtain rfl:=hn0 (by omega);obtain rfl:=hc0 (by omega);have hm1:=hm (by omega);have hm2:(m.toList == [])=true:=(by simpa using hm1);clear hm hn0 hc0
   cases ha:atomB t with
   | true =>
    have HS:Hid (plainB 1 0 t m nk 0=((nk:Int) == 0)):=by
     show _=_
     (rw [Bool.eq_iff_iff];simp [plainB,numB,modB,txtB,txtK,tkB,kidLo,kidHi,clsLo,clsHi,inB,ha,hm1] <;> omega)
    have BL:Hid (Bz w (w.alloc (.cells #[.int .i64 1,.int .i64 0,.string t,.string m,.slice p nk c,.slice q 0 c'] 74))):=(sqN _ _);go_enter func160,ntmps160;go_wp2_with (first | (go_at_call 103;go_must (refine (specAtomOk_any _ _ (by assumption)).mono ?_;rintro e w9 ⟨rfl,rfl⟩;rw [ha])));go_ret;exact ⟨by rw [HS.out];rfl,by first | exact BL.out | exact BL.out.alloc BL.out.size _⟩
   | false =>
    have HS:Hid (plainB 1 0 t m nk 0=false):=by
     show _=_
     (simp [plainB,numB,modB,txtB,txtK,tkB,kidLo,kidHi,clsLo,clsHi,inB,ha])
    have BL:Hid (Bz w (w.alloc (.cells #[.int .i64 1,.int .i64 0,.string t,.string m,.slice p nk c,.slice q 0 c'] 74))):=(sqN _ _);go_enter func160,ntmps160;go_wp2_with (first | (go_at_call 103;go_must (refine (specAtomOk_any _ _ (by assumption)).mono ?_;rintro e w9 ⟨rfl,rfl⟩;rw [ha])));go_ret;exact ⟨by rw [HS.out];rfl,by first | exact BL.out | exact BL.out.alloc BL.out.size _⟩
 by_cases k2:k=2
 . subst k2
   obtain rfl:=hn0 (by omega);obtain rfl:=hc0 (by omega);have hm1:=hm (by omega);have hm2:(m.toList == [])=true:=(by simpa using hm1);clear hm hn0 hc0
   cases ha:varB t with
   | true =>
    have HS:Hid (plainB 2 0 t m nk 0=((nk:Int) == 0)):=by
     show _=_
     (rw [Bool.eq_iff_iff];simp [plainB,numB,modB,txtB,txtK,tkB,kidLo,kidHi,clsLo,clsHi,inB,ha,hm1] <;> omega)
    have BL:Hid (Bz w (w.alloc (.cells #[.int .i64 2,.int .i64 0,.string t,.string m,.slice p nk c,.slice q 0 c'] 74))):=(sqN _ _);go_enter func160,ntmps160;go_wp2_with (first | (go_at_call 19;go_must (refine (specVarOk_any _ _ (by assumption)).mono ?_;rintro e w9 ⟨rfl,rfl⟩;rw [ha])));go_ret;exact ⟨by rw [HS.out];rfl,by first | exact BL.out | exact BL.out.alloc BL.out.size _⟩
   | false =>
    have HS:Hid (plainB 2 0 t m nk 0=false):=by
     show _=_
     (simp [plainB,numB,modB,txtB,txtK,tkB,kidLo,kidHi,clsLo,clsHi,inB,ha])
    have BL:Hid (Bz w (w.alloc (.cells #[.int .i64 2,.int .i64 0,.string t,.string m,.slice p nk c,.slice q 0 c'] 74))):=(sqN _ _);go_enter func160,ntmps160;go_wp2_with (first | (go_at_call 19;go_must (refine (specVarOk_any _ _ (by assumption)).mono ?_;rintro e w9 ⟨rfl,rfl⟩;rw [ha])));go_ret;exact ⟨by rw [HS.out];rfl,by first | exact BL.out | exact BL.out.alloc BL.out.size _⟩
 by_cases k3:k=3
 . subst k3
   obtain rfl:=hn0 (by omega);obtain rfl:=hc0 (by omega);have hm1:=hm (by omega);have hm2:(m.toList == [])=true:=(by simpa using hm1);clear hm hn0 hc0;by_cases ht:t.toList = []
   . have ht2:(t.toList == [])=true:=by simpa using ht
     have HS:Hid (plainB 3 0 t m nk 0=((nk:Int) == 0)):=by
      show _=_
      (rw [Bool.eq_iff_iff];simp [plainB,numB,modB,txtB,txtK,tkB,kidLo,kidHi,clsLo,clsHi,inB,ht,hm1] <;> omega)
     have BL:Hid (Bz w (w.alloc (.cells #[.int .i64 3,.int .i64 0,.string t,.string m,.slice p nk c,.slice q 0 c'] 74))):=(sqN _ _);go_enter func160,ntmps160;go_wp2;go_ret;exact ⟨by rw [HS.out];rfl,by first | exact BL.out | exact BL.out.alloc BL.out.size _⟩
   . have ht2:(t.toList == [])=false:=by simpa using ht
     have HS:Hid (plainB 3 0 t m nk 0=false):=by
      show _=_;simp [plainB,numB,modB,txtB,txtK,tkB,kidLo,kidHi,clsLo,clsHi,inB,ht,hm1]
     have BL:Hid (Bz w (w.alloc (.cells #[.int .i64 3,.int .i64 0,.string t,.string m,.slice p nk c,.slice q 0 c'] 74))):=(sqN _ _);go_enter func160,ntmps160;go_wp2;go_ret;exact ⟨by rw [HS.out];rfl,by first | exact BL.out | exact BL.out.alloc BL.out.size _⟩
 by_cases k4:k=4
 . subst k4
   obtain rfl:=hn0 (by omega);obtain rfl:=hc0 (by omega);have hm1:=hm (by omega);have hm2:(m.toList == [])=true:=(by simpa using hm1);clear hm hn0 hc0;by_cases ht:t.toList = []
   . have ht2:(t.toList == [])=true:=by simpa using ht
     have HS:Hid (plainB 4 0 t m nk 0=inB nk 1 20):=by
      show _=_
      (rw [Bool.eq_iff_iff];simp [plainB,numB,modB,txtB,txtK,tkB,kidLo,kidHi,clsLo,clsHi,inB,ht,hm1] <;> omega)
     have BL:Hid (Bz w (w.alloc (.cells #[.int .i64 4,.int .i64 0,.string t,.string m,.slice p nk c,.slice q 0 c'] 74))):=(sqN _ _);go_enter func160,ntmps160;go_wp2_with (first | (go_at_call 103;go_must (refine (specAtomOk_any _ _ (by assumption)).mono ?_;rintro e w9 ⟨rfl,rfl⟩)) | (go_at_call 19;go_must (refine (specVarOk_any _ _ (by assumption)).mono ?_;rintro e w9 ⟨rfl,rfl⟩)) | (go_at_call 40;go_must (refine (l01In_any _ _ _ _).mono ?_;rintro e w9 ⟨rfl,rfl⟩)));go_ret;exact ⟨by rw [HS.out];rfl,by first | exact BL.out | exact BL.out.alloc BL.out.size _⟩
   . have ht2:(t.toList == [])=false:=by simpa using ht
     have HS:Hid (plainB 4 0 t m nk 0=false):=by
      show _=_;simp [plainB,numB,modB,txtB,txtK,tkB,kidLo,kidHi,clsLo,clsHi,inB,ht,hm1]
     have BL:Hid (Bz w (w.alloc (.cells #[.int .i64 4,.int .i64 0,.string t,.string m,.slice p nk c,.slice q 0 c'] 74))):=(sqN _ _);go_enter func160,ntmps160;go_wp2;go_ret;exact ⟨by rw [HS.out];rfl,by first | exact BL.out | exact BL.out.alloc BL.out.size _⟩
 by_cases k5:k=5
 . subst k5
   obtain rfl:=hn0 (by omega);obtain rfl:=hc0 (by omega);have hm1:=hm (by omega);have hm2:(m.toList == [])=true:=(by simpa using hm1);clear hm hn0 hc0;by_cases ht:t.toList = []
   . have ht2:(t.toList == [])=true:=by simpa using ht
     have HS:Hid (plainB 5 0 t m nk 0=((nk:Int) == 0)):=by
      show _=_
      (rw [Bool.eq_iff_iff];simp [plainB,numB,modB,txtB,txtK,tkB,kidLo,kidHi,clsLo,clsHi,inB,ht,hm1] <;> omega)
     have BL:Hid (Bz w (w.alloc (.cells #[.int .i64 5,.int .i64 0,.string t,.string m,.slice p nk c,.slice q 0 c'] 74))):=(sqN _ _);go_enter func160,ntmps160;go_wp2;go_ret;exact ⟨by rw [HS.out];rfl,by first | exact BL.out | exact BL.out.alloc BL.out.size _⟩
   . have ht2:(t.toList == [])=false:=by simpa using ht
     have HS:Hid (plainB 5 0 t m nk 0=false):=by
      show _=_;simp [plainB,numB,modB,txtB,txtK,tkB,kidLo,kidHi,clsLo,clsHi,inB,ht,hm1]
     have BL:Hid (Bz w (w.alloc (.cells #[.int .i64 5,.int .i64 0,.string t,.string m,.slice p nk c,.slice q 0 c'] 74))):=(sqN _ _);go_enter func160,ntmps160;go_wp2;go_ret;exact ⟨by rw [HS.out];rfl,by first | exact BL.out | exact BL.out.alloc BL.out.size _⟩
 by_cases k6:k=6
 . subst k6
   obtain rfl:=hn0 (by omega);obtain rfl:=hc0 (by omega);have hm1:=hm (by omega);have hm2:(m.toList == [])=true:=(by simpa using hm1);clear hm hn0 hc0;by_cases ht:t.toList = []
   . have ht2:(t.toList == [])=true:=by simpa using ht
     have HS:Hid (plainB 6 0 t m nk 0=((nk:Int) == 2)):=by
      show _=_
      (rw [Bool.eq_iff_iff];simp [plainB,numB,modB,txtB,txtK,tkB,kidLo,kidHi,clsLo,clsHi,inB,ht,hm1] <;> omega)
     have BL:Hid (Bz w (w.alloc (.cells #[.int .i64 6,.int .i64 0,.string t,.string m,.slice p nk c,.slice q 0 c'] 74))):=(sqN _ _);go_enter func160,ntmps160;go_wp2;go_ret;exact ⟨by rw [HS.out];rfl,by first | exact BL.out | exact BL.out.alloc BL.out.size _⟩
   . have ht2:(t.toList == [])=false:=by simpa using ht
     have HS:Hid (plainB 6 0 t m nk 0=false):=by
      show _=_;simp [plainB,numB,modB,txtB,txtK,tkB,kidLo,kidHi,clsLo,clsHi,inB,ht,hm1]
     have BL:Hid (Bz w (w.alloc (.cells #[.int .i64 6,.int .i64 0,.string t,.string m,.slice p nk c,.slice q 0 c'] 74))):=(sqN _ _);go_enter func160,ntmps160;go_wp2;go_ret;exact ⟨by rw [HS.out];rfl,by first | exact BL.out | exact BL.out.alloc BL.out.size _⟩
 by_cases k7:k=7
 . subst k7
   obtain rfl:=hn0 (by omega);obtain rfl:=hc0 (by omega);have hm1:=hm (by omega);have hm2:(m.toList == [])=true:=(by simpa using hm1);clear hm hn0 hc0
   cases ha:opB t with
   | true =>
    have HOP:Hid (∀ i x,opsL[i]?=some x->((w.alloc (.cells #[.int .i64 7,.int .i64 0,.string t,.string m,.slice p nk c,.slice q 0 c'] 74)).alloc (.cells #[.string ⟨#[61,61]⟩,.string ⟨#[60]⟩,.string ⟨#[43]⟩,.string ⟨#[45]⟩,.string ⟨#[42]⟩] 9)).cell? ⟨w.heap.size+1,i,none⟩=some (.string x)):=ops_at _ _ (by simp only [alloc_hs])
    have HS:Hid (plainB 7 0 t m nk 0=((nk:Int) == 2)):=by
     show _=_
     (rw [Bool.eq_iff_iff];simp [plainB,numB,modB,txtB,txtK,tkB,kidLo,kidHi,clsLo,clsHi,inB,ha,hm1] <;> omega)
    have BL:Hid (Bz w (w.alloc (.cells #[.int .i64 7,.int .i64 0,.string t,.string m,.slice p nk c,.slice q 0 c'] 74))):=(sqN _ _);go_enter func160,ntmps160;go_wp2_with (first | (go_at_call 17;go_must (refine (l01Has_any _ _ _ opsL t (by decide) (by exact HOP.out)).mono ?_;rintro e w9 ⟨rfl,rfl⟩;rw [opsL_any,ha])));go_ret;exact ⟨by rw [HS.out];rfl,by first | exact BL.out | exact BL.out.alloc BL.out.size _⟩
   | false =>
    have HOP:Hid (∀ i x,opsL[i]?=some x->((w.alloc (.cells #[.int .i64 7,.int .i64 0,.string t,.string m,.slice p nk c,.slice q 0 c'] 74)).alloc (.cells #[.string ⟨#[61,61]⟩,.string ⟨#[60]⟩,.string ⟨#[43]⟩,.string ⟨#[45]⟩,.string ⟨#[42]⟩] 9)).cell? ⟨w.heap.size+1,i,none⟩=some (.string x)):=ops_at _ _ (by simp only [alloc_hs])
    have HS:Hid (plainB 7 0 t m nk 0=false):=by
     show _=_
     (simp [plainB,numB,modB,txtB,txtK,tkB,kidLo,kidHi,clsLo,clsHi,inB,ha])
    have BL:Hid (Bz w (w.alloc (.cells #[.int .i64 7,.int .i64 0,.string t,.string m,.slice p nk c,.slice q 0 c'] 74))):=(sqN _ _);go_enter func160,ntmps160;go_wp2_with (first | (go_at_call 17;go_must (refine (l01Has_any _ _ _ opsL t (by decide) (by exact HOP.out)).mono ?_;rintro e w9 ⟨rfl,rfl⟩;rw [opsL_any,ha])));go_ret;exact ⟨by rw [HS.out];rfl,by first | exact BL.out | exact BL.out.alloc BL.out.size _⟩
 by_cases k8:k=8
 . subst k8
   obtain rfl:=hn0 (by omega);obtain rfl:=hc0 (by omega);clear hm hn0 hc0
   cases ha:atomB t with
   | true =>
    by_cases hk:nk<=6
    . have hk2:(nk:Int)<=6:=by omega
      by_cases hm1:m.toList = []
      . have hm2:(m.toList == [])=true:=by simpa using hm1
        have HS:Hid (plainB 8 0 t m nk 0=true):=by
         show _=_
         (simp [plainB,numB,modB,txtB,txtK,tkB,kidLo,kidHi,clsLo,clsHi,inB,ha,hm1];omega)
        have BL:Hid (Bz w (w.alloc (.cells #[.int .i64 8,.int .i64 0,.string t,.string m,.slice p nk c,.slice q 0 c'] 74))):=(sqN _ _);go_enter func160,ntmps160;go_wp2_with (first | (go_at_call_of 103 t;go_must (refine (specAtomOk_any _ _ hts).mono ?_;rintro e w9 ⟨rfl,rfl⟩;rw [ha])));go_ret;exact ⟨by rw [HS.out];rfl,by first | exact BL.out | exact BL.out.alloc BL.out.size _⟩
      . have hm2:(m.toList == [])=false:=by simpa using hm1
        have HS:Hid (plainB 8 0 t m nk 0=atomB m):=by
         show _=_
         (rw [Bool.eq_iff_iff];simp [plainB,numB,modB,txtB,txtK,tkB,kidLo,kidHi,clsLo,clsHi,inB,ha,hm1];omega)
        have BL:Hid (Bz w (w.alloc (.cells #[.int .i64 8,.int .i64 0,.string t,.string m,.slice p nk c,.slice q 0 c'] 74))):=(sqN _ _);go_enter func160,ntmps160;go_wp2_with (first | (go_at_call_of 103 t;go_must (refine (specAtomOk_any _ _ hts).mono ?_;rintro e w9 ⟨rfl,rfl⟩;rw [ha])) | (go_at_call_of 103 m;go_must (refine (specAtomOk_any _ _ hms).mono ?_;rintro e w9 ⟨rfl,rfl⟩)));go_ret;exact ⟨by rw [HS.out];rfl,by first | exact BL.out | exact BL.out.alloc BL.out.size _⟩
    . have hk2:(6:Int)<(nk:Int):=by omega
      have HS:Hid (plainB 8 0 t m nk 0=false):=by
       show _=_
       (simp [plainB,numB,modB,txtB,txtK,tkB,kidLo,kidHi,clsLo,clsHi,inB,ha];omega)
      have BL:Hid (Bz w (w.alloc (.cells #[.int .i64 8,.int .i64 0,.string t,.string m,.slice p nk c,.slice q 0 c'] 74))):=(sqN _ _);go_enter func160,ntmps160;go_wp2_with (first | (go_at_call_of 103 t;go_must (refine (specAtomOk_any _ _ hts).mono ?_;rintro e w9 ⟨rfl,rfl⟩;rw [ha])));go_ret;exact ⟨by rw [HS.out];rfl,by first | exact BL.out | exact BL.out.alloc BL.out.size _⟩
   | false =>
    have HS:Hid (plainB 8 0 t m nk 0=false):=by
     show _=_
     (simp [plainB,numB,modB,txtB,txtK,tkB,kidLo,kidHi,clsLo,clsHi,inB,ha])
    have BL:Hid (Bz w (w.alloc (.cells #[.int .i64 8,.int .i64 0,.string t,.string m,.slice p nk c,.slice q 0 c'] 74))):=(sqN _ _);go_enter func160,ntmps160;go_wp2_with (first | (go_at_call_of 103 t;go_must (refine (specAtomOk_any _ _ hts).mono ?_;rintro e w9 ⟨rfl,rfl⟩;rw [ha])));go_ret;exact ⟨by rw [HS.out];rfl,by first | exact BL.out | exact BL.out.alloc BL.out.size _⟩
 by_cases k9:k=9
 . subst k9
   obtain rfl:=hn0 (by omega);obtain rfl:=hc0 (by omega);have hm1:=hm (by omega);have hm2:(m.toList == [])=true:=(by simpa using hm1);clear hm hn0 hc0;by_cases ht:t.toList = []
   . have ht2:(t.toList == [])=true:=by simpa using ht
     have HS:Hid (plainB 9 0 t m nk 0=((nk:Int) == 2)):=by
      show _=_
      (rw [Bool.eq_iff_iff];simp [plainB,numB,modB,txtB,txtK,tkB,kidLo,kidHi,clsLo,clsHi,inB,ht,hm1] <;> omega)
     have BL:Hid (Bz w (w.alloc (.cells #[.int .i64 9,.int .i64 0,.string t,.string m,.slice p nk c,.slice q 0 c'] 74))):=(sqN _ _);go_enter func160,ntmps160;go_wp2;go_ret;exact ⟨by rw [HS.out];rfl,by first | exact BL.out | exact BL.out.alloc BL.out.size _⟩
   . have ht2:(t.toList == [])=false:=by simpa using ht
     have HS:Hid (plainB 9 0 t m nk 0=false):=by
      show _=_;simp [plainB,numB,modB,txtB,txtK,tkB,kidLo,kidHi,clsLo,clsHi,inB,ht,hm1]
     have BL:Hid (Bz w (w.alloc (.cells #[.int .i64 9,.int .i64 0,.string t,.string m,.slice p nk c,.slice q 0 c'] 74))):=(sqN _ _);go_enter func160,ntmps160;go_wp2;go_ret;exact ⟨by rw [HS.out];rfl,by first | exact BL.out | exact BL.out.alloc BL.out.size _⟩
 by_cases k10:k=10
 . subst k10
   obtain rfl:=hn0 (by omega);have hm1:=hm (by omega);have hm2:(m.toList == [])=true:=(by simpa using hm1);clear hm hn0 hc0;by_cases ht:t.toList = []
   . have ht2:(t.toList == [])=true:=by simpa using ht
     by_cases hk:nk=1
     . subst hk
       have HS:Hid (plainB 10 0 t m 1 nc=inB nc 1 20):=by
        show _=_
        (rw [Bool.eq_iff_iff];simp [plainB,numB,modB,txtB,txtK,tkB,kidLo,kidHi,clsLo,clsHi,inB,ht,hm1])
       have BL:Hid (Bz w (w.alloc (.cells #[.int .i64 10,.int .i64 0,.string t,.string m,.slice p 1 c,.slice q nc c'] 74))):=(sqN _ _);go_enter func160,ntmps160;go_wp2_with (first | (go_at_call 103;go_must (refine (specAtomOk_any _ _ (by assumption)).mono ?_;rintro e w9 ⟨rfl,rfl⟩)) | (go_at_call 19;go_must (refine (specVarOk_any _ _ (by assumption)).mono ?_;rintro e w9 ⟨rfl,rfl⟩)) | (go_at_call 40;go_must (refine (l01In_any _ _ _ _).mono ?_;rintro e w9 ⟨rfl,rfl⟩)));go_ret;exact ⟨by rw [HS.out];rfl,by first | exact BL.out | exact BL.out.alloc BL.out.size _⟩
     . have hk2:((nk:Int) == 1)=false:=by simp;omega
       have HS:Hid (plainB 10 0 t m nk nc=false):=by
        show _=_
        (simp [plainB,numB,modB,txtB,txtK,tkB,kidLo,kidHi,clsLo,clsHi,inB,ht,hm1];omega)
       have BL:Hid (Bz w (w.alloc (.cells #[.int .i64 10,.int .i64 0,.string t,.string m,.slice p nk c,.slice q nc c'] 74))):=(sqN _ _);go_enter func160,ntmps160;go_wp2_with (first | (go_at_call 103;go_must (refine (specAtomOk_any _ _ (by assumption)).mono ?_;rintro e w9 ⟨rfl,rfl⟩)) | (go_at_call 19;go_must (refine (specVarOk_any _ _ (by assumption)).mono ?_;rintro e w9 ⟨rfl,rfl⟩)) | (go_at_call 40;go_must (refine (l01In_any _ _ _ _).mono ?_;rintro e w9 ⟨rfl,rfl⟩)));go_ret;exact ⟨by rw [HS.out];rfl,by first | exact BL.out | exact BL.out.alloc BL.out.size _⟩
   . have ht2:(t.toList == [])=false:=by simpa using ht
     have HS:Hid (plainB 10 0 t m nk nc=false):=by
      show _=_;simp [plainB,numB,modB,txtB,txtK,tkB,kidLo,kidHi,clsLo,clsHi,inB,ht,hm1]
     have BL:Hid (Bz w (w.alloc (.cells #[.int .i64 10,.int .i64 0,.string t,.string m,.slice p nk c,.slice q nc c'] 74))):=(sqN _ _);go_enter func160,ntmps160;go_wp2;go_ret;exact ⟨by rw [HS.out];rfl,by first | exact BL.out | exact BL.out.alloc BL.out.size _⟩
 obtain rfl:=hn0 k0;obtain rfl:=hc0 k10;have hm1:=hm k8;have hm2:(m.toList == [])=true:=(by simpa using hm1);clear hm hn0 hc0 hm1
 have HS:Hid (plainB k 0 t m nk 0=false):=by
  show _=_
  (have:inB k 0 10=false:=by (simp [inB];omega));simp [plainB,this]
 have BL:Hid (Bz w (w.alloc (.cells #[.int .i64 k,.int .i64 0,.string t,.string m,.slice p nk c,.slice q 0 c'] 74))):=(sqN _ _);go_enter func160,ntmps160;go_wp2;go_ret;exact ⟨by rw [HS.out];rfl,by first | exact BL.out | exact BL.out.alloc BL.out.size _⟩
def RgC (d:Nat):Prop :=
 ∀ (w:World) (cs:List Value) (x:Ex) (pat:Bool) (deep:Int),HEx w All d cs x->-1<=deep->deep<=40->Calls prog 132 #[.agg cs.toArray,.bool pat,.int .i64 deep] w λe w'=>e=.returned (.bool (exOk d x pat deep))/\Bz w w'
def ClC (d:Nat):Prop :=
 ∀ (w:World) (cs:List Value) (c:Cl) (pats deep:Int),HCl w All (HEx w All d) cs c->-1<=deep->deep<=40->Calls prog 105 #[.agg cs.toArray,.int .i64 pats,.int .i64 deep] w λe w'=>e=.returned (.bool (clB (λy q=>exOk d y q deep) c pats))/\Bz w w'
theorem clauseS_of {d:Nat} (hE:RgC d):ClC d:=by
 intro w cs c pats deep h hd0 hd1;obtain ⟨pv,bv,rfl,f0,f1⟩:=h;obtain ⟨ps,bs⟩:=c;simp only at f0 f1;obtain ⟨p,cap,rfl,hcl,hcm,hx⟩:=f0;obtain ⟨q,cap',rfl,hcl',hcm',hy⟩:=f1;have hnb:=sqM hcl hcm;have hmb:=sqM hcl' hcm';have hv:clB (λy q=>exOk d y q deep) (ps,bs) pats=(decide ((ps.length:Int)=pats) && (inB bs.length 1 20 && (ps.all (λy=>exOk d y true deep) && bs.all (λy=>exOk d y false deep)))):=rfl;rw [hv];clear hv;generalize hn:ps.length=n at *;generalize hm:bs.length=m at *;have HN:=hid hn;have HM:=hid hm;have HX:=hid hx;have HY:=hid hy;obtain ⟨W1,hW1⟩:∃ W1,W1=w.alloc (.cells #[.slice p n cap,.slice q m cap'] 44):=⟨_,rfl⟩;have bA:Hid (Blk W1 w.heap.size #[.slice p n cap,.slice q m cap'] 44):=(by show Blk _ _ _ _;rw [hW1];exact Blk.new);have B1:Hid (Bz w W1):=(by show Below _ _ _;rw [hW1];exact (sqN _ _));have HW1:=hid hW1;clear hx hy hn hm hW1;by_cases c1:(n:Int)=pats
 . subst c1
   cases hin:inB m 1 20 with
   | true =>
    go_enter func105,ntmps105;go_wp2_with (first | (go_at_call 40;go_must (refine (l01In_any _ _ _ _).mono ?_;rintro e w9 ⟨rfl,rfl⟩;rw [hin])));rw [<-HW1.out]
    go_loopw [7] (λiv wr=>∃ k1:Nat,k1<=n/\iv=.int .i64 k1/\Hid ((ps.take k1).all (λy=>exOk d y true deep)=true)/\Hid (SameOn All W1 wr)/\Bz w wr) (λiv _=>n - (intOf iv).toNat)
    case atStart=>exact ⟨0,Nat.zero_le _,rfl,by show _=_;simp,sqS,B1.out⟩
    case round =>
     obtain ⟨k1,hk,rfl,hall,hso,hb⟩:=hrel;have HB:=hid hb;have b1:=bA.out.same_on hso.out;obtain ⟨xa0,xa1⟩:=sqB2 b1;clear b1;by_cases hlt:k1<n
     . obtain ⟨x,hxk⟩:=sqA (l:=ps) (k:=k1) HN.out hlt
       obtain ⟨g,off,rfl,-,hgl,hat⟩:=HX.out (sqE hxk);obtain ⟨cs,hcsl,hcs,r1⟩:=hat k1 x hxk;have E1:∀ w',SameOn All wr w'->HEx w' All d cs x:=λw' hw=>r1.mono (SameOn.trans (sqO hb) hw) sqj;obtain ⟨c0,c1,c2,c3,c4,c5,rfl⟩:=len6 hcsl;obtain ⟨a0,a1,a2,a3,a4,a5⟩:=sqC6 hcs (by omega);rw [<-hb.cell (p:=⟨g,_,none⟩) hgl] at a0 a1 a2 a3 a4 a5;simp at a0 a1 a2 a3 a4 a5;have hki:(k1:Int)<(n:Int):=(by omega);have hk0:=sqI k1;clear hb hcs hat hcsl r1;generalize hcv:(λy=>exOk d y true deep) x=cv;have HCV:=hid hcv;have HC2:Hid (cv=true->(ps.take (k1+1)).all (λy=>exOk d y true deep)=true):=λh=>allT_succ _ ps k1 x hxk hall.out (hcv.trans h);have HC3:Hid (cv=false->ps.all (λy=>exOk d y true deep)=false):=λh=>allT_at _ ps k1 x hxk (hcv.trans h);clear hcv;go_wp2_with fail;refine (hE _ _ x true deep (E1 _ sqS) (by omega) (by omega)).mono ?_;rintro e w4 ⟨rfl,hb4⟩;have HB4:=hid (HB.out.trans (hb4.mono HB.out.size));have HS4:=hid (hso.out.trans (sqO hb4));rw [show exOk d x true deep=cv from HCV.out];clear hb4
       cases cv with
       | true =>
        have HT:=HC2.out rfl;clear HC2 HC3 HCV;have HT':Hid _:=HT;clear HT;go_wp2_with fail;exact ⟨⟨k1+1,by omega,by go_num,HT'.out,HS4.out,HB4.out⟩,by simp [intOf];omega⟩
       | false =>
        have HF:=hid (HC3.out rfl);clear HC2 HC3 HCV;go_wp2;go_ret;exact ⟨by first | (rw [HF.out];simp) | simp [HF.out],HB4.out⟩
     . have HD_ps:Hid (ps.all (λy=>exOk d y true deep)=true):=by
        have:=hall.out
        rwa [List.take_of_length_le (by rw [HN.out];omega)] at this
       clear hb;go_wp2_with fail;clear xa0 xa1
       go_loopw [8] (λiv wr=>∃ k2:Nat,k2<=m/\iv=.int .i64 k2/\Hid ((bs.take k2).all (λy=>exOk d y false deep)=true)/\Hid (SameOn All W1 wr)/\Bz w wr) (λiv _=>m - (intOf iv).toNat)
       case atStart=>exact ⟨0,Nat.zero_le _,rfl,by show _=_;simp,hso.out,HB.out⟩
       case round =>
        obtain ⟨k2,hk,rfl,hall,hso,hb⟩:=hrel;have HB:=hid hb;have b1:=bA.out.same_on hso.out;obtain ⟨xa0,xa1⟩:=sqB2 b1;clear b1;by_cases hlt:k2<m
        . obtain ⟨x,hxk⟩:∃ x,bs[k2]?=some x:=⟨bs[k2]'(by rw [HM.out];exact hlt),List.getElem?_eq_getElem _⟩
          obtain ⟨g,off,rfl,-,hgl,hat⟩:=HY.out (sqE hxk);obtain ⟨cs,hcsl,hcs,r1⟩:=hat k2 x hxk;have E1:∀ w',SameOn All wr w'->HEx w' All d cs x:=λw' hw=>r1.mono (SameOn.trans (sqO hb) hw) sqj;obtain ⟨c0,c1,c2,c3,c4,c5,rfl⟩:=len6 hcsl;obtain ⟨a0,a1,a2,a3,a4,a5⟩:=sqC6 hcs (by omega);rw [<-hb.cell (p:=⟨g,_,none⟩) hgl] at a0 a1 a2 a3 a4 a5;simp at a0 a1 a2 a3 a4 a5;have hki:(k2:Int)<(m:Int):=(by omega);have hk0:=sqI k2;clear hb hcs hat hcsl r1;generalize hcv:(λy=>exOk d y false deep) x=cv;have HCV:=hid hcv;have HC2:Hid (cv=true->(bs.take (k2+1)).all (λy=>exOk d y false deep)=true):=λh=>allT_succ _ bs k2 x hxk hall.out (hcv.trans h);have HC3:Hid (cv=false->bs.all (λy=>exOk d y false deep)=false):=λh=>allT_at _ bs k2 x hxk (hcv.trans h);clear hcv;go_wp2_with fail;refine (hE _ _ x false deep (E1 _ sqS) (by omega) (by omega)).mono ?_;rintro e w4 ⟨rfl,hb4⟩;have HB4:=hid (HB.out.trans (hb4.mono HB.out.size));have HS4:=hid (hso.out.trans (sqO hb4));rw [show exOk d x false deep=cv from HCV.out];clear hb4
          cases cv with
          | true =>
           have HT:=HC2.out rfl;clear HC2 HC3 HCV;have HT':Hid _:=HT;clear HT;go_wp2_with fail;exact ⟨⟨k2+1,by omega,by go_num,HT'.out,HS4.out,HB4.out⟩,by simp [intOf];omega⟩
          | false =>
           have HF:=hid (HC3.out rfl);clear HC2 HC3 HCV;go_wp2;go_ret;exact ⟨by first | (rw [HF.out];simp) | simp [HF.out],HB4.out⟩
        . have HD_bs:Hid (bs.all (λy=>exOk d y false deep)=true):=by
           have:=hall.out
           rwa [List.take_of_length_le (by rw [HM.out];omega)] at this
          clear hb;go_wp2;go_ret;exact ⟨by rw [HD_ps.out,HD_bs.out];simp,HB.out⟩
   | false =>
    go_enter func105,ntmps105;go_wp2_with (first | (go_at_call 40;go_must (refine (l01In_any _ _ _ _).mono ?_;rintro e w9 ⟨rfl,rfl⟩;rw [hin])));rw [<-HW1.out];go_ret;exact ⟨by simp,B1.out⟩
 . have c2:((n:Int) != pats)=true:=by simpa using c1
   go_enter func105,ntmps105;go_wp2;rw [<-HW1.out];go_ret;exact ⟨by simp [c1],B1.out⟩
end
end Go.Proofs.YtbdhpganbbandaaGreatDoor
