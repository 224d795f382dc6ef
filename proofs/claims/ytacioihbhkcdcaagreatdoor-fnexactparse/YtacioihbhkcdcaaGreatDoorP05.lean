/-
  Names FirstN AtomOk ModOkMath VarOk Digs LexMath ModOkImplA 
-/
import Derived.Test.YtacioihbhkcdcaaGreatDoorP03
import Derived.Test.YtacioihbhkcdcaaGreatDoorP01
set_option maxHeartbeats 16000000
set_option linter.unusedVariables false
set_option maxRecDepth 100000
namespace Go.Proofs.YtacioihbhkcdcaaGreatDoor
open Go.ChangeShapes Go.WideShapes Go.ChangeAt Go.RowKit
section
open Go.Proofs.Tryz
def allB (l:List UInt8):Bool:=l.all λc=>signB (c.toNat:Int)
def nameB (s:ByteArray):Bool:=allB s.data.toList && decide (1<=s.size/\s.size<=10)
theorem ZdK (s:ByteArray) (k:Nat) (h:k<s.size):s.data.toList.take (k+1)=s.data.toList.take k ++ [s[k]]:=by
 rw [List.take_succ_eq_append_getElem (by simpa using h)];rfl
theorem Zfg (s:ByteArray) (k:Nat) (h:k<s.size) (ha:allB (s.data.toList.take k)=true) (hs:signB (s[k].toNat:Int)=true) :
 allB (s.data.toList.take (k+1))=true:=by
 rw [ZdK s k h];unfold allB at *;rw [List.all_append,ha];simp [hs]
theorem ZhO (s:ByteArray) (k:Nat) (h:k<s.size) (hs:signB (s[k].toNat:Int)=false) :
 allB s.data.toList=false:=by
 unfold allB;rw [List.all_eq_false];refine ⟨s[k],?_,by simp [hs]⟩;exact List.getElem_mem (by simpa using h)
theorem ZgC (s:ByteArray) (k:Nat) (h:s.size<=k) (ha:allB (s.data.toList.take k)=true):allB s.data.toList=true:=by
 rwa [List.take_of_length_le (by simpa using h)] at ha
theorem Zas (s:ByteArray) (k:Nat) (h:k<s.size):0<=((s[k].toNat:Nat):Int)/\((s[k].toNat:Nat):Int)<256:=by
 have:=s[k].toNat_lt;omega
theorem ZiJ (n:Nat):inB (n:Int) 1 10=decide (1<=n/\n<=10):=by
 unfold inB;rw [decide_eq_decide];omega
theorem Zej (s:ByteArray) (h:¬ 1<=s.size\/¬ s.size<=10):nameB s=false:=by
 unfold nameB;rw [decide_eq_false (by omega),Bool.and_false]
theorem Zhg (s:ByteArray) (h1:1<=s.size) (h2:s.size<=10):nameB s=allB s.data.toList:=by
 unfold nameB;rw [decide_eq_true ⟨h1,h2⟩,Bool.and_true]
theorem Zbj (s:ByteArray) (w:World) (hs:s.size<=maxLen) :
 Calls prog 59 #[.string s] w λe w'=>e=.returned (.bool (nameB s))/\w'=w:=by
 unfold maxLen at hs;go_enter func59,ntmps59;go_wp2
 go_loop [3] (λi=>∃ k:Nat,k<=s.size/\i=.int .i64 k/\allB (s.data.toList.take k)=true) (λi=>s.size - (intOf i).toNat)
 case atStart=>exact ⟨0,Nat.zero_le _,rfl,rfl⟩
 case round =>
  obtain ⟨k,hk,rfl,ha⟩:=hrel;by_cases hlt:k<s.size
  . have hb:=Zas s k hlt
    have HA:=hid ha;clear ha
    have hc:signB (s[k].toNat:Int)=true\/signB (s[k].toNat:Int)=false:=by cases signB (s[k].toNat:Int) <;> simp
    rcases hc with hc | hc
    . go_wp2_with (go_at_call 54;go_must (refine (Zaj _ _ hb.1 hb.2).mono ?_;rintro e w' ⟨rfl,rfl⟩))
      go_round
      case rel=>exact ⟨k+1,by omega,by go_num,Zfg s k hlt HA.out hc⟩
      case measure=>simp [intOf];omega
    . go_wp2_with (go_at_call 54;go_must (refine (Zaj _ _ hb.1 hb.2).mono ?_;rintro e w' ⟨rfl,rfl⟩))
      go_ret;exact ⟨ZO (by simp [nameB,ZhO s k hlt hc]),rfl⟩
  . have hall:=ZgC s k (by omega) ha
    have HA:=hid hall;clear ha hall;go_wp2_with (go_at_call 34;go_must (refine (ZP _ _ _ _).mono ?_;rintro e w' ⟨rfl,rfl⟩));go_ret;exact ⟨ZO (by rw [nameB,HA.out,Bool.true_and,ZiJ]),rfl⟩
theorem ZfW (s:ByteArray) (w:World) (hs:s.size<=maxLen) :
 Calls prog 102 #[.string s,.func (.func 67) #[] #[]] w λe w'=>e=.returned (.bool (allB s.data.toList))/\w'=w:=by
 unfold maxLen at hs;go_enter func102,ntmps102;go_wp2
 go_loop [8] (λi=>∃ k:Nat,k<=s.size/\i=.int .i64 k/\allB (s.data.toList.take k)=true) (λi=>s.size - (intOf i).toNat)
 case atStart=>exact ⟨0,Nat.zero_le _,rfl,rfl⟩
 case round =>
  obtain ⟨k,hk,rfl,ha⟩:=hrel;by_cases hlt:k<s.size
  . have hb:=Zas s k hlt
    have HA:=hid ha;clear ha
    have hc:signB (s[k].toNat:Int)=true\/signB (s[k].toNat:Int)=false:=by cases signB (s[k].toNat:Int) <;> simp
    rcases hc with hc | hc
    . go_wp2_with (go_at_call 67;go_must (refine (Zay _ _ hb.1 hb.2).mono ?_;rintro e w' ⟨rfl,rfl⟩))
      go_round
      case rel=>exact ⟨k+1,by omega,by go_num,Zfg s k hlt HA.out hc⟩
      case measure=>simp [intOf];omega
    . go_wp2_with (go_at_call 67;go_must (refine (Zay _ _ hb.1 hb.2).mono ?_;rintro e w' ⟨rfl,rfl⟩))
      go_ret;exact ⟨ZO (by rw [ZhO s k hlt hc]),rfl⟩
  . have hall:=ZgC s k (by omega) ha
    have HA:=hid hall;clear ha hall;go_wp2;go_ret;exact ⟨ZO (by rw [HA.out]),rfl⟩
theorem ZbD (s:ByteArray) (w:World) (hs:s.size<=maxLen) :
 Calls prog 78 #[.string s] w λe w'=>e=.returned (.bool (nameB s))/\w'=w:=by
 have hs':=hs;unfold maxLen at hs;by_cases h1:1<=s.size
 . by_cases h2:s.size<=10
   . go_enter func78,ntmps78
     go_wp2_with (go_at_call 102;go_must (refine (ZfW _ _ hs').mono ?_;rintro e w' ⟨rfl,rfl⟩));go_ret;exact ⟨ZO (Zhg s h1 h2).symm,rfl⟩
   . go_enter func78,ntmps78
     go_wp2;go_ret;exact ⟨ZO (Zej s (.inr h2)).symm,rfl⟩
 . go_enter func78,ntmps78
   go_wp2;go_ret;exact ⟨ZO (Zej s (.inl h1)).symm,rfl⟩
end
def Zfh (s:ByteArray):Int:=((s.data.toList.headD 0).toNat:Int)
def varB (s:ByteArray):Bool:=nameB s && inB (Zfh s) 65 90
theorem Zcf (s:ByteArray) (h:nameB s=true):0<s.size:=by
 unfold nameB at h;rw [Bool.and_eq_true] at h;have:=of_decide_eq_true h.2;omega
theorem Zdv (s:ByteArray) (h:0<s.size):(s[0].toNat:Int)=Zfh s:=by
 have e:s.data.toList.headD 0=s[0]:=by
  have h':0<s.data.toList.length:=(by simpa using h);rw [List.headD_eq_head?_getD,List.head?_eq_getElem?,List.getElem?_eq_getElem h']
  rfl
 rw [Zfh,e]
section
open Go.Proofs.Tryz
def keyB (s:ByteArray):Bool:=s.toList == [99,97,115,101] || s.toList == [111,102] || s.toList == [101,110,100]
def Zb0 (w:World):Prop :=
 w.cell? ⟨1,0,none⟩=some (.string ⟨#[99,97,115,101]⟩)/\w.cell? ⟨1,1,none⟩=some (.string ⟨#[111,102]⟩)/\w.cell? ⟨1,2,none⟩=some (.string ⟨#[101,110,100]⟩)
def atomB (s:ByteArray):Bool:=nameB s && inB (Zfh s) 97 122 && !keyB s
theorem ZiK {s:ByteArray} (h0:(s.toList == [99,97,115,101])=false) (h1:(s.toList == [111,102])=false) (h2:(s.toList == [101,110,100])=false):keyB s=false:=by
 rw [keyB,h0,h1,h2];rfl
theorem ZiL {s:ByteArray} (h:([99,97,115,101] == s.toList)=true):keyB s=true:=by
 have e:=(beq_iff_eq.1 h).symm;simp [keyB,e]
theorem ZjK {s:ByteArray} (h:([99,97,115,101] == s.toList)=false):(s.toList == [99,97,115,101])=false:=by
 rw [beq_eq_false_iff_ne] at h ⊢;exact λe=>h e.symm
theorem ZiM {s:ByteArray} (h:([111,102] == s.toList)=true):keyB s=true:=by
 have e:=(beq_iff_eq.1 h).symm;simp [keyB,e]
theorem ZjL {s:ByteArray} (h:([111,102] == s.toList)=false):(s.toList == [111,102])=false:=by
 rw [beq_eq_false_iff_ne] at h ⊢;exact λe=>h e.symm
theorem ZiN {s:ByteArray} (h:([101,110,100] == s.toList)=true):keyB s=true:=by
 have e:=(beq_iff_eq.1 h).symm;simp [keyB,e]
theorem ZjM {s:ByteArray} (h:([101,110,100] == s.toList)=false):(s.toList == [101,110,100])=false:=by
 rw [beq_eq_false_iff_ne] at h ⊢;exact λe=>h e.symm
theorem Zcg (s:ByteArray) (w:World) :
 Calls prog 61 #[.string s] w λe w'=>e=.returned (.bool (keyB s))/\w'=w:=by
 go_enter func61,ntmps61;go_wp2
 all_goals go_ret
 . exact ⟨ZO (by simp [keyB, *]),rfl⟩
 . exact ⟨ZO (by simp [keyB, *]),rfl⟩
 . exact ⟨ZO (by simp [keyB]),rfl⟩
theorem ZiO (w:World):Sem.run prog (Instr.index 136 (.agg #[.string ⟨#[99,97,115,101]⟩,.string ⟨#[111,102]⟩,.string ⟨#[101,110,100]⟩]) (.int .i64 0)) w=.ok (.string ⟨#[99,97,115,101]⟩) w:=by kernel_rfl
theorem ZiP (w:World):Sem.run prog (Instr.index 136 (.agg #[.string ⟨#[99,97,115,101]⟩,.string ⟨#[111,102]⟩,.string ⟨#[101,110,100]⟩]) (.int .i64 1)) w=.ok (.string ⟨#[111,102]⟩) w:=by kernel_rfl
theorem ZiQ (w:World):Sem.run prog (Instr.index 136 (.agg #[.string ⟨#[99,97,115,101]⟩,.string ⟨#[111,102]⟩,.string ⟨#[101,110,100]⟩]) (.int .i64 2)) w=.ok (.string ⟨#[101,110,100]⟩) w:=by kernel_rfl
theorem ZeP (s:ByteArray) (w:World) (hk:Zb0 w) :
 Calls prog 80 #[.string s] w λe w'=>e=.returned (.bool (keyB s))/\w'=w:=by
 obtain ⟨h0,h1,h2⟩:=hk;go_enter func80,ntmps80;go_wp2
 go_loop [6] (λi=>∃ k:Nat,k<=3/\i=.int .i64 k/\(1<=k->(s.toList == [99,97,115,101])=false)/\(2<=k->(s.toList == [111,102])=false)/\(3<=k->(s.toList == [101,110,100])=false)) (λi=>3 - (intOf i).toNat)
 case atStart=>exact ⟨0,by omega,rfl,by omega,by omega,by omega⟩
 case round =>
  obtain ⟨k,hk,rfl,n0,n1,n2⟩:=hrel;have H0:=hid n0;have H1:=hid n1;have H2:=hid n2;clear n0 n1 n2 h0 h1 h2
  rcases (by omega:k=0\/k=1\/k=2\/k=3) with rfl | rfl | rfl | rfl
  . have r0:=ZiO
    go_wp2
    . go_ret
      exact ⟨ZO (ZiL ‹_›).symm,rfl⟩
    . go_round
      case rel=>exact ⟨1,by omega,rfl,λ_=>ZjK ‹_›,by omega,by omega⟩
      case measure=>simp [intOf]
  . have r1:=ZiP
    go_wp2
    . go_ret
      exact ⟨ZO (ZiM ‹_›).symm,rfl⟩
    . go_round
      case rel=>exact ⟨2,by omega,rfl,λ_=>H0.out (by omega),λ_=>ZjL ‹_›,by omega⟩
      case measure=>simp [intOf]
  . have r2:=ZiQ
    go_wp2
    . go_ret
      exact ⟨ZO (ZiN ‹_›).symm,rfl⟩
    . go_round
      case rel=>exact ⟨3,by omega,rfl,λ_=>H0.out (by omega),λ_=>H1.out (by omega),λ_=>ZjM ‹_›⟩
      case measure=>simp [intOf]
  . go_wp2
    go_ret;exact ⟨ZO (ZiK (H0.out (by omega)) (H1.out (by omega)) (H2.out (by omega))).symm,rfl⟩
theorem Zr (s:ByteArray) (w:World) (hs:s.size<=maxLen) :
 Calls prog 33 #[.string s] w λe w'=>e=.returned (.bool (atomB s))/\w'=w:=by
 have hs':=hs;unfold maxLen at hs
 have hn:nameB s=true\/nameB s=false:=by cases nameB s <;> simp
 rcases hn with hn | hn
 . have hz:=Zcf s hn
   have hb:=Zas s 0 hz;have hf:=Zdv s hz;have HF:=hid hf;clear hf
   have hi:inB (s[0].toNat:Int) 97 122=true\/inB (s[0].toNat:Int) 97 122=false:=by cases inB (s[0].toNat:Int) 97 122 <;> simp
   rcases hi with hi | hi
   . go_enter func33,ntmps33
     go_wp2_with (first
      | (go_at_call 59;go_must (refine (Zbj _ _ hs').mono ?_;rintro e w' ⟨rfl,rfl⟩))
      | (go_at_call 60;go_must (refine (ZbZ _ _ hb.1 hb.2).mono ?_;rintro e w' ⟨rfl,rfl⟩))
      | (go_at_call 61;go_must (refine (Zcg _ _).mono ?_;rintro e w' ⟨rfl,rfl⟩)))
     go_ret;exact ⟨ZO (by rw [HF.out] at hi;simp [atomB,hn,hi]),rfl⟩
   . go_enter func33,ntmps33
     go_wp2_with (first
      | (go_at_call 59;go_must (refine (Zbj _ _ hs').mono ?_;rintro e w' ⟨rfl,rfl⟩))
      | (go_at_call 60;go_must (refine (ZbZ _ _ hb.1 hb.2).mono ?_;rintro e w' ⟨rfl,rfl⟩)))
     go_ret;exact ⟨ZO (by rw [HF.out] at hi;simp [atomB,hi]),rfl⟩
 . go_enter func33,ntmps33
   go_wp2_with (go_at_call 59;go_must (refine (Zbj _ _ hs').mono ?_;rintro e w' ⟨rfl,rfl⟩));go_ret;exact ⟨ZO (by simp [atomB,hn]),rfl⟩
theorem Z6 (s:ByteArray) (w:World) (hs:s.size<=maxLen) (hk:Zb0 w) :
 Calls prog 45 #[.string s] w λe w'=>e=.returned (.bool (atomB s))/\w'=w:=by
 have hs':=hs;unfold maxLen at hs
 have hn:nameB s=true\/nameB s=false:=by cases nameB s <;> simp
 rcases hn with hn | hn
 . have hz:=Zcf s hn
   have hb:=Zas s 0 hz;have hf:=Zdv s hz;have HF:=hid hf;clear hf
   have hi:inB (s[0].toNat:Int) 97 122=true\/inB (s[0].toNat:Int) 97 122=false:=by cases inB (s[0].toNat:Int) 97 122 <;> simp
   rcases hi with hi | hi
   . go_enter func45,ntmps45
     go_wp2_with (first
      | (go_at_call 78;go_must (refine (ZbD _ _ hs').mono ?_;rintro e w' ⟨rfl,rfl⟩))
      | (go_at_call 79;go_must (refine (Zcp _ _ hb.1 hb.2).mono ?_;rintro e w' ⟨rfl,rfl⟩))
      | (go_at_call 80;go_must (refine (ZeP _ _ hk).mono ?_;rintro e w' ⟨rfl,rfl⟩)))
     go_ret;exact ⟨ZO (by rw [HF.out] at hi;simp [atomB,hn,hi]),rfl⟩
   . go_enter func45,ntmps45
     go_wp2_with (first
      | (go_at_call 78;go_must (refine (ZbD _ _ hs').mono ?_;rintro e w' ⟨rfl,rfl⟩))
      | (go_at_call 79;go_must (refine (Zcp _ _ hb.1 hb.2).mono ?_;rintro e w' ⟨rfl,rfl⟩)))
     go_ret;exact ⟨ZO (by rw [HF.out] at hi;simp [atomB,hi]),rfl⟩
 . go_enter func45,ntmps45
   go_wp2_with (go_at_call 78;go_must (refine (ZbD _ _ hs').mono ?_;rintro e w' ⟨rfl,rfl⟩));go_ret;exact ⟨ZO (by simp [atomB,hn]),rfl⟩
end
def opB (t:ByteArray):Bool:=t.toList == [61,61] || t.toList == [60] || t.toList == [43] || t.toList == [45] || t.toList == [42]
def numB (k n:Int):Bool:=if k=0 then inB n 0 999999999 else decide (n=0)
def modB (k:Int) (m:ByteArray):Bool:=decide (m.toList = []) || (decide (k=8) && atomB m)
def tkB (k:Int) (t:ByteArray):Bool:=if k=1 then atomB t else if k=2 then varB t else if k=3 then opB t else decide (t.toList = [])
def txtK (k:Int):Int:=if k=1\/k=8 then 1 else if k=2 then 2 else if k=7 then 3 else 0
def txtB (k:Int) (t:ByteArray):Bool:=tkB (txtK k) t
def ZG (k:Int):Int:=if k=4\/k=10 then 1 else if k=6\/k=7\/k=9 then 2 else 0
def ZH (k:Int):Int:=if k=4 then 20 else if k=6\/k=7\/k=9 then 2 else if k=8 then 6 else if k=10 then 1 else 0
def ZJ (k:Int):Int:=if k=10 then 1 else 0
def ZI (k:Int):Int:=if k=10 then 20 else 0
def ZC (k n:Int) (t m:ByteArray) (nk nc:Nat):Bool :=
 inB k 0 10 && (numB k n && (modB k m && (txtB k t && (inB nk (ZG k) (ZH k) && inB nc (ZJ k) (ZI k)))))
def patB (k:Int) (pat:Bool):Bool:=if pat then decide (k<=6) else !decide (k=3)
def clB (f:Ex->Bool->Bool) (c:Cl) (pats:Int):Bool:=decide ((c.1.length:Int)=pats) && (inB c.2.length 1 20 && (c.1.all (λy=>f y true) && c.2.all (λy=>f y false)))
def Zaz (f:Ex->Bool->Bool):List Ex->Bool->Bool->Bool
 | [],_,_=>true
 | x :: xs,p0,p=>f x p0 && xs.all (λy=>f y p)
def exOk:Nat->Ex->Bool->Int->Bool
 | 0,_,_,_=>false
 | d+1,.mk k n t m ks cs,pat,deep=>decide (0<=deep) && (ZC k n t m ks.length cs.length && (patB k pat && (Zaz (λy q=>exOk d y q (deep - 1)) ks (pat || decide (k=9)) pat && cs.all (λc=>clB (λy q=>exOk d y q (deep - 1)) c 1))))
theorem ZdL (f:Ex->Bool->Bool) (ks:List Ex) (p0 p:Bool):Zaz f (ks.take 0) p0 p=true:=by simp [Zaz]
theorem Zch (f:Ex->Bool->Bool) (ks:List Ex) (p0 p:Bool) (k:Nat) (x:Ex) (h:ks[k]?=some x) (ht:Zaz f (ks.take k) p0 p=true) (hx:f x (if k=0 then p0 else p)=true):Zaz f (ks.take (k+1)) p0 p=true:=by
 cases ks with
 | nil=>simp at h
 | cons y ys =>
  cases k with
  | zero=>simp at h hx;subst h;simp [Zaz,hx]
  | succ k =>
   simp only [List.getElem?_cons_succ] at h;simp only [Nat.add_one_ne_zero,if_false] at hx;simp only [List.take_succ_cons,Zaz,Bool.and_eq_true] at ht ⊢;refine ⟨ht.1,?_⟩;rw [List.take_add_one,h,List.all_append,ht.2];simp [hx]
theorem Zdw (f:Ex->Bool->Bool) (ks:List Ex) (p0 p:Bool) (k:Nat) (x:Ex) (h:ks[k]?=some x) (hx:f x (if k=0 then p0 else p)=false):Zaz f ks p0 p=false:=by
 cases ks with
 | nil=>simp at h
 | cons y ys =>
  cases k with
  | zero=>simp at h hx;subst h;simp [Zaz,hx]
  | succ k =>
   simp only [List.getElem?_cons_succ] at h;simp only [Nat.add_one_ne_zero,if_false] at hx;have:ys.all (λy=>f y p)=false:=(by rw [List.all_eq_false];exact ⟨x,List.mem_of_getElem? h,by simp [hx]⟩);simp [Zaz,this]
theorem ZcY (f:Ex->Bool->Bool) (ks:List Ex) (p:Bool):Zaz f ks p p=ks.all (λy=>f y p):=by
 cases ks <;> simp [Zaz]
theorem ZaC {α:Type} (f:α->Bool) (xs:List α) (k:Nat) (x:α) (h:xs[k]?=some x) (ht:(xs.take k).all f=true) (hx:f x=true):(xs.take (k+1)).all f=true:=by
 rw [List.take_add_one,h,List.all_append,ht];simp [hx]
theorem Zbk {α:Type} (f:α->Bool) (xs:List α) (k:Nat) (x:α) (h:xs[k]?=some x) (hx:f x=false):xs.all f=false:=by
 rw [List.all_eq_false];exact ⟨x,List.mem_of_getElem? h,by simp [hx]⟩
theorem ZdM {α:Type} (f:α->Bool) (xs:List α) (k:Nat) (x:α) (h:xs[k]?=some x) (ht:(xs.take k).any f=false) (hx:f x=false):(xs.take (k+1)).any f=false:=by
 rw [List.take_add_one,h,List.any_append,ht];simp [hx]
theorem ZhP {α:Type} (f:α->Bool) (xs:List α) (k:Nat) (x:α) (h:xs[k]?=some x) (hx:f x=true):xs.any f=true:=by
 rw [List.any_eq_true];exact ⟨x,List.mem_of_getElem? h,hx⟩
theorem ZhQ (d:Nat) (k n:Int) (t m:ByteArray) (ks:List Ex) (cs:List Cl) (pat:Bool) (deep:Int) :
 exOk (d+1) (.mk k n t m ks cs) pat deep=(decide (0<=deep) && (ZC k n t m ks.length cs.length && (patB k pat && (Zaz (λy q=>exOk d y q (deep - 1)) ks (pat || decide (k=9)) pat && cs.all (λc=>clB (λy q=>exOk d y q (deep - 1)) c 1))))):=rfl
theorem Zde {k n:Int} {t m:ByteArray} {nk nc:Nat} (h:ZC k n t m nk nc=true):0<=k/\k<=10:=by
 unfold ZC at h;rw [Bool.and_eq_true] at h;have:=h.1;simp [inB] at this;omega
section
open Go.Proofs.Tryz
theorem Z8 (s:ByteArray) (w:World) (hs:s.size<=maxLen) :
 Calls prog 91 #[.string s] w λe w'=>e=.returned (.bool (varB s))/\w'=w:=by
 have hs':=hs;unfold maxLen at hs
 have hn:nameB s=true\/nameB s=false:=by cases nameB s <;> simp
 rcases hn with hn | hn
 . have hz:=Zcf s hn
   have hb:=Zas s 0 hz;have hf:=Zdv s hz;have HF:=hid hf;clear hf;go_enter func91,ntmps91
   go_wp2_with (first
    | (go_at_call 59;go_must (refine (Zbj _ _ hs').mono ?_;rintro e w' ⟨rfl,rfl⟩))
    | (go_at_call 90;go_must (refine (Zdd _ _ hb.1 hb.2).mono ?_;rintro e w' ⟨rfl,rfl⟩)))
   go_ret;exact ⟨ZO (by rw [varB,hn,HF.out,Bool.true_and]),rfl⟩
 . go_enter func91,ntmps91
   go_wp2_with (go_at_call 59;go_must (refine (Zbj _ _ hs').mono ?_;rintro e w' ⟨rfl,rfl⟩));go_ret;exact ⟨ZO (by rw [varB,hn,Bool.false_and]),rfl⟩
theorem ZbS (s:ByteArray) (w:World) (hs:s.size<=maxLen) :
 Calls prog 111 #[.string s] w λe w'=>e=.returned (.bool (varB s))/\w'=w:=by
 have hs':=hs;unfold maxLen at hs
 have hn:nameB s=true\/nameB s=false:=by cases nameB s <;> simp
 rcases hn with hn | hn
 . have hz:=Zcf s hn
   have hb:=Zas s 0 hz;have hf:=Zdv s hz;have HF:=hid hf;clear hf;go_enter func111,ntmps111
   go_wp2_with (first
    | (go_at_call 78;go_must (refine (ZbD _ _ hs').mono ?_;rintro e w' ⟨rfl,rfl⟩))
    | (go_at_call 96;go_must (refine (ZdJ _ _ hb.1 hb.2).mono ?_;rintro e w' ⟨rfl,rfl⟩)))
   go_ret;exact ⟨ZO (by rw [varB,hn,HF.out,Bool.true_and]),rfl⟩
 . go_enter func111,ntmps111
   go_wp2_with (go_at_call 78;go_must (refine (ZbD _ _ hs').mono ?_;rintro e w' ⟨rfl,rfl⟩));go_ret;exact ⟨ZO (by rw [varB,hn,Bool.false_and]),rfl⟩
def digB (c:UInt8):Bool:=inB (c.toNat:Int) 48 57
def Zba (l:List UInt8):Bool:=l.all digB
def valOf (l:List UInt8):Int:=l.foldl (λn c=>10 * n+(c.toNat:Int) - 48) 0
theorem Zc0 (l:List UInt8) (c:UInt8):valOf (l ++ [c])=10 * valOf l+(c.toNat:Int) - 48:=by
 simp [valOf,List.foldl_append]
theorem Zf0 (s:ByteArray) (k:Nat) (h:k<s.size) (ha:Zba (s.data.toList.take k)=true) (hs:inB (s[k].toNat:Int) 48 57=true) :
 Zba (s.data.toList.take (k+1))=true:=by
 rw [ZdK s k h];unfold Zba at *;rw [List.all_append,ha];simp [digB,hs]
theorem ZhZ (n:Int) (h:inB n 48 57=true):48<=n/\n<=57:=of_decide_eq_true h
theorem Zdx:∀ (k:Nat) (l:List UInt8),l.length<=k->Zba l=true->0<=valOf l/\valOf l<10 ^ k
 | 0,l,hl,ha=>by
  obtain rfl:l = []:=List.length_eq_zero_iff.1 (by omega);exact ⟨by simp [valOf],by simp [valOf]⟩
 | m+1,l,hl,ha=>by
  rcases List.eq_nil_or_concat l with rfl | ⟨L,c,rfl⟩
  . exact ⟨by simp [valOf],by simp only [valOf,List.foldl_nil];exact Int.pow_pos (by omega)⟩
  . rw [List.concat_eq_append] at hl ha ⊢
    have ha':Zba L=true/\digB c=true:=(by simpa [Zba] using ha);rw [List.length_append] at hl;simp only [List.length_cons,List.length_nil] at hl;have:=Zdx m L (by omega) ha'.1;have hd:=ZhZ _ ha'.2;rw [Zc0,Int.pow_succ];omega
theorem ZiT (s:ByteArray) (k:Nat) (hk:k<=9) (ha:Zba (s.data.toList.take k)=true):0<=valOf (s.data.toList.take k)/\valOf (s.data.toList.take k)<1000000000:=by
 have h:=Zdx k (s.data.toList.take k) (List.length_take_le _ _) ha;refine ⟨h.1,Int.lt_of_lt_of_le h.2 ?_⟩
 rcases (by omega:k=0\/k=1\/k=2\/k=3\/k=4\/k=5\/k=6\/k=7\/k=8\/k=9) with rfl | rfl | rfl | rfl | rfl | rfl | rfl | rfl | rfl | rfl <;> decide
theorem ZjR {k:IntKind} {a b:Int} (h:a=b):Ending.returned (.int k a)=.returned (.int k b):=by rw [h]
theorem ZdS (s:ByteArray) (w:World) (hs:s.size<=9) (ha:Zba s.data.toList=true) :
 Calls prog 95 #[.string s] w λe w'=>e=.returned (.int .i64 (valOf s.data.toList))/\w'=w:=by
 have hall:∀ k,k<s.size->inB (s[k]!.toNat:Int) 48 57=true:=by
  intro k hk;have:=List.all_eq_true.1 ha s[k] (List.getElem_mem (by simpa using hk));rw [getElem!_pos s k hk];exact this
 have HALL:=hid hall;have HA:=hid ha;clear hall ha;go_enter func95,ntmps95;go_wp2
 go_loop [3,7] (λn i=>∃ k:Nat,k<=s.size/\i=.int .i64 k/\n=.int .i64 (valOf (s.data.toList.take k))/\Zba (s.data.toList.take k)=true) (λ_ i=>s.size - (intOf i).toNat)
 case atStart=>exact ⟨0,Nat.zero_le _,rfl,rfl,rfl⟩
 case round =>
  obtain ⟨k,hk,rfl,rfl,hd⟩:=hrel;have hv:=ZiT s k (by omega) hd;have HD:=hid hd;clear hd;by_cases hlt:k<s.size
  . have hc:=HALL.out k hlt
    rw [getElem!_pos s k hlt] at hc;have hb:=ZhZ _ hc;have HC:=hid hc;clear hc;have hts:=ZdK s k hlt;have HT:=hid hts;clear hts;obtain ⟨hv0,hv1⟩:=hv;obtain ⟨hb0,hb1⟩:=hb;go_wp2
    go_round
    case rel=>exact ⟨k+1,by omega,by go_num,by rw [HT.out,Zc0];congr 1;omega,Zf0 s k hlt HD.out HC.out⟩
    case measure=>simp [intOf];omega
  . go_wp2
    go_ret;exact ⟨ZjR (by rw [List.take_of_length_le (by simp;omega)]),rfl⟩
end
end Go.Proofs.YtacioihbhkcdcaaGreatDoor
namespace Go.Proofs.YtacioihbhkcdcaaGreatDoor
def runEnd (p:UInt8->Bool) (l:List UInt8) (i:Nat):Nat:=i+((l.drop i).takeWhile p).length
def cut (l:List UInt8) (i k:Nat):List UInt8:=(l.drop i).take (k - i)
def ZD (c:UInt8):Bool:=signB (c.toNat:Int)
def Za9 (c:UInt8):Bool:=c.toNat != 10
def Zad (l:List UInt8):ByteArray:=⟨l.toArray⟩
def Zau:List (List UInt8):=[[40],[41],[123],[125],[91],[93],[124],[44],[59],[46],[58],[61],[60],[43],[45],[42],[47]]
def nameKindM (t:List UInt8):Option Int :=
 if atomB (Zad t)=true then some 0 else if varB (Zad t)=true then some 1 else if keyB (Zad t)=true\/t = [95] then some 3 else none
def Zaf (l:List UInt8) (i:Nat) (line:Int):Option (Tok × Nat) :=
 let c:=l.getD i 0
 if digB c=true then
  if runEnd digB l i - i<=9 then some (⟨2,[],valOf (cut l i (runEnd digB l i)),line⟩,runEnd digB l i) else none
 else if ZD c=true then
  (nameKindM (cut l i (runEnd ZD l i))).map λk=>(⟨k,cut l i (runEnd ZD l i),0,line⟩,runEnd ZD l i)
 else if i+2<=l.length/\(cut l i (i+2) = [45,62]\/cut l i (i+2) = [61,61]) then some (⟨3,cut l i (i+2),0,line⟩,i+2)
 else if Zau.contains (cut l i (i+1))=true then some (⟨3,cut l i (i+1),0,line⟩,i+1)
 else none
def Zav (l:List UInt8) (i:Nat) (line:Int):Option (Nat × Int) :=
 let c:=(l.getD i 0).toNat
 if c=37 then some (runEnd Za9 l i,line) else if c=32 then some (i+1,line) else if c=10 then some (i+1,line+1) else none
def lexF (l:List UInt8):Nat->Nat->Int->List Tok->List Tok × Int
 | 0,_,_,acc=>(acc,0)
 | f+1,i,line,acc =>
  if i<l.length then
   match Zav l i line with
   | some (i',line')=>lexF l f i' line' acc
   | none=>match Zaf l i line with
    | some (t,k)=>lexF l f k line (acc ++ [t])
    | none=>([],line)
  else (acc,0)
def lexM (l:List UInt8):List Tok × Int:=if l.length<=4000 then lexF l (l.length+1) 0 1 [] else ([],1)
theorem Zbl (p:UInt8->Bool) (l:List UInt8) (i:Nat) (h:i<=l.length):runEnd p l i<=l.length:=by
 unfold runEnd;have:=(List.takeWhile_sublist p (l:=l.drop i)).length_le;rw [List.length_drop] at this;omega
theorem ZbE (p:UInt8->Bool) (l:List UInt8) (i:Nat):i<=runEnd p l i:=by unfold runEnd;omega
theorem ZdT (l:List UInt8) (i:Nat) (h:i<l.length):l.drop i=l.getD i 0 :: l.drop (i+1):=by
 rw [List.drop_eq_getElem_cons h];simp [List.getD,h]
theorem Zag (p:UInt8->Bool) (l:List UInt8) (i:Nat) (h:l.length<=i\/p (l.getD i 0)=false):runEnd p l i=i:=by
 unfold runEnd
 rcases Nat.lt_or_ge i l.length with hlt | hge
 . rw [ZdT l i hlt,List.takeWhile_cons]
   rcases h with h | h
   . omega
   . simp only [h];rfl
 . rw [List.drop_eq_nil_of_le hge];simp
theorem ZaN (p:UInt8->Bool) (l:List UInt8) (i:Nat) (h:i<l.length) (hp:p (l.getD i 0)=true):runEnd p l i=runEnd p l (i+1):=by
 unfold runEnd;rw [ZdT l i h,List.takeWhile_cons];simp only [hp,if_true,List.length_cons];omega
theorem ZdU (p:UInt8->Bool) (l:List UInt8) (i:Nat) (h:i<l.length) (hp:p (l.getD i 0)=true):i<runEnd p l i:=by
 rw [ZaN p l i h hp];have:=ZbE p l (i+1);omega
theorem ZeQ {l:List UInt8} {i:Nat} {line:Int} {t:Tok} {k:Nat} (hi:i<l.length) (h:Zaf l i line=some (t,k)):i<k/\k<=l.length/\t.line=line:=by
 unfold Zaf at h;simp only at h
 split at h
 . rename_i hd
   split at h
   . simp only [Option.some.injEq,Prod.mk.injEq] at h
     obtain ⟨rfl,rfl⟩:=h;exact ⟨ZdU _ _ _ hi hd,Zbl _ _ _ (by omega),rfl⟩
   . cases h
 . split at h
   . rename_i hs
     rw [Option.map_eq_some_iff] at h;obtain ⟨k',_,h⟩:=h;simp only [Prod.mk.injEq] at h;obtain ⟨rfl,rfl⟩:=h;exact ⟨ZdU _ _ _ hi hs,Zbl _ _ _ (by omega),rfl⟩
   . split at h
     . rename_i h2
       simp only [Option.some.injEq,Prod.mk.injEq] at h;obtain ⟨rfl,rfl⟩:=h;exact ⟨by omega,h2.1,rfl⟩
     . split at h
       . simp only [Option.some.injEq,Prod.mk.injEq] at h
         obtain ⟨rfl,rfl⟩:=h;exact ⟨by omega,by omega,rfl⟩
       . cases h
theorem ZbF {l:List UInt8} {i:Nat} {line:Int} {i':Nat} {line':Int} (hi:i<l.length) (h:Zav l i line=some (i',line')):i<i'/\i'<=l.length:=by
 unfold Zav at h;simp only at h
 split at h
 . rename_i hc
   simp only [Option.some.injEq,Prod.mk.injEq] at h;obtain ⟨rfl,rfl⟩:=h;exact ⟨ZdU _ _ _ hi (by rw [Za9,hc];rfl),Zbl _ _ _ (by omega)⟩
 . split at h
   . simp only [Option.some.injEq,Prod.mk.injEq] at h
     obtain ⟨rfl,rfl⟩:=h;exact ⟨by omega,by omega⟩
   . split at h
     . simp only [Option.some.injEq,Prod.mk.injEq] at h
       obtain ⟨rfl,rfl⟩:=h;exact ⟨by omega,by omega⟩
     . cases h
theorem ZcB {l:List UInt8} {f i:Nat} {line:Int} {acc:List Tok} {i':Nat} {line':Int} (hi:i<l.length) (h:Zav l i line=some (i',line')):lexF l (f+1) i line acc=lexF l f i' line' acc:=by
 rw [lexF,if_pos hi,h]
theorem ZeR {l:List UInt8} {f i:Nat} {line:Int} {acc:List Tok} {t:Tok} {k:Nat} (hi:i<l.length) (h:Zav l i line=none) (ht:Zaf l i line=some (t,k)):lexF l (f+1) i line acc=lexF l f k line (acc ++ [t]):=by
 rw [lexF,if_pos hi,h];simp only;rw [ht]
theorem ZeS {l:List UInt8} {f i:Nat} {line:Int} {acc:List Tok} (hi:i<l.length) (h:Zav l i line=none) (ht:Zaf l i line=none):lexF l (f+1) i line acc=([],line):=by
 rw [lexF,if_pos hi,h];simp only;rw [ht]
theorem ZeT {l:List UInt8} {f i:Nat} {line:Int} {acc:List Tok} (hi:¬ i<l.length):lexF l f i line acc=(acc,0):=by
 cases f with
 | zero=>rfl
 | succ f=>rw [lexF,if_neg hi]
end Go.Proofs.YtacioihbhkcdcaaGreatDoor
namespace Go.Proofs.YtacioihbhkcdcaaGreatDoor
open Go.ChangeShapes Go.WideShapes Go.ChangeAt Go.RowKit
section
open Go.Proofs.Tryz
def ZiX (w:World):Prop :=
 ∀ k:Nat,k<11->w.cell? ⟨4,k * 5,none⟩=some (.int .i64 (txtK k))/\w.cell? ⟨4,k * 5+1,none⟩=some (.int .i64 (ZG k))/\w.cell? ⟨4,k * 5+2,none⟩=some (.int .i64 (ZH k)) /\
  w.cell? ⟨4,k * 5+3,none⟩=some (.int .i64 (ZJ k))/\w.cell? ⟨4,k * 5+4,none⟩=some (.int .i64 (ZI k))
structure Tabs (w:World):Prop where
 keys:Zb0 w
 shapes:ZiX w
theorem Tabs.below {w w':World} (h:Tabs w) (hb:Bz w w'):Tabs w' :=
 ⟨⟨ZF hb h.keys.1,ZF hb h.keys.2.1,ZF hb h.keys.2.2⟩,λk hk=>by
  obtain ⟨a,b,c,d,e⟩:=h.shapes k hk
  exact ⟨ZF hb a,ZF hb b,ZF hb c,ZF hb d,ZF hb e⟩⟩
theorem ZR (a b c:Int) (w:World):Calls prog 83 #[.int .i64 a,.int .i64 b,.int .i64 c] w λe w'=>e=.returned (.bool (inB a b c))/\w'=w:=by
 by_cases h1:b<=a <;> by_cases h2:a<=c
 all_goals
  go_enter func83,ntmps83;go_wp2;go_ret;exact ⟨by simp [inB,h1,h2],rfl⟩
theorem ZiY (t:ByteArray) (w:World):Calls prog 154 #[.string t] w λe w'=>e=.returned (.bool (opB t))/\w'=w:=by
 cases h0:(t.toList == [61,61]) <;> cases h1:(t.toList == [60]) <;> cases h2:(t.toList == [43]) <;> cases h3:(t.toList == [45]) <;> cases h4:(t.toList == [42])
 all_goals
  go_enter func154,ntmps154;go_wp2;go_ret;exact ⟨by simp [opB,h0,h1,h2,h3,h4],rfl⟩
theorem Zc5 (k:Int) (t:ByteArray) (w:World) (hts:t.size<=maxLen) (hk:Zb0 w):Calls prog 144 #[.int .i64 k,.string t] w λe w'=>e=.returned (.bool (tkB k t))/\w'=w:=by
 have HK:=hid hk;clear hk;by_cases k1:k=1
 . subst k1
   go_enter func144,ntmps144;go_wp2_with (go_at_call 45;go_must (refine (Z6 _ _ hts HK.out).mono ?_;rintro e w' ⟨rfl,rfl⟩));go_ret;exact ⟨by simp [tkB],rfl⟩
 by_cases k2:k=2
 . subst k2
   go_enter func144,ntmps144;go_wp2_with (go_at_call 111;go_must (refine (ZbS _ _ hts).mono ?_;rintro e w' ⟨rfl,rfl⟩));go_ret;exact ⟨by simp [tkB],rfl⟩
 by_cases k3:k=3
 . subst k3
   go_enter func144,ntmps144;go_wp2_with (go_at_call 154;go_must (refine (ZiY _ _).mono ?_;rintro e w' ⟨rfl,rfl⟩));go_ret;exact ⟨by simp [tkB],rfl⟩
 . have HS:Hid (tkB k t=t.toList.isEmpty):=by show _=_;rw [Bool.eq_iff_iff];simp [tkB,k1,k2,k3]
   go_enter func144,ntmps144;go_wp2;go_ret;exact ⟨by rw [HS.out];rfl,rfl⟩
theorem Za5 (k n:Int) (t m:ByteArray) (p q:Option Addr) (nk c nc c':Nat) (w:World):Calls prog 142 #[.agg #[.int .i64 k,.int .i64 n,.string t,.string m,.slice p nk c,.slice q nc c']] w λe w'=>e=.returned (.bool (numB k n))/\Bz w w':=by
 have BL:Hid (Bz w (w.alloc (.cells #[.int .i64 k,.int .i64 n,.string t,.string m,.slice p nk c,.slice q nc c'] 108))):=(sqN _ _);by_cases k0:k=0
 . subst k0
   go_enter func142,ntmps142;go_wp2_with (go_at_call 83;go_must (refine (ZR _ _ _ _).mono ?_;rintro e w' ⟨rfl,rfl⟩));go_ret;exact ⟨by simp [numB],BL.out⟩
 . have HS:Hid (numB k n=(n == 0)):=by show _=_;rw [Bool.eq_iff_iff];simp [numB,k0]
   go_enter func142,ntmps142;go_wp2;go_ret;exact ⟨by rw [HS.out];rfl,BL.out⟩
theorem ZcG (k n:Int) (t m:ByteArray) (p q:Option Addr) (nk c nc c':Nat) (w:World) (hms:m.size<=maxLen) (hk:Zb0 w):Calls prog 143 #[.agg #[.int .i64 k,.int .i64 n,.string t,.string m,.slice p nk c,.slice q nc c']] w λe w'=>e=.returned (.bool (modB k m))/\Bz w w':=by
 have BL:Hid (Bz w (w.alloc (.cells #[.int .i64 k,.int .i64 n,.string t,.string m,.slice p nk c,.slice q nc c'] 108))):=(sqN _ _);have HK:Hid (Zb0 (w.alloc (.cells #[.int .i64 k,.int .i64 n,.string t,.string m,.slice p nk c,.slice q nc c'] 108))):=⟨ZF BL.out hk.1,ZF BL.out hk.2.1,ZF BL.out hk.2.2⟩;clear hk;by_cases hm:m.toList = []
 . have hm2:(m.toList == [])=true:=by simpa using hm
   have HS:Hid (modB k m=true):=(by show _=_;simp [modB,hm]);clear hm;go_enter func143,ntmps143;go_wp2;go_ret;exact ⟨by rw [HS.out];rfl,BL.out⟩
 . have hm2:(m.toList == [])=false:=by simpa using hm
   by_cases k8:k=8
   . subst k8
     have HS:Hid (modB 8 m=atomB m):=(by show _=_;simp [modB,hm]);clear hm;go_enter func143,ntmps143;go_wp2_with (go_at_call 45;go_must (refine (Z6 _ _ hms HK.out).mono ?_;rintro e w' ⟨rfl,rfl⟩));go_ret;exact ⟨by rw [HS.out];rfl,BL.out⟩
   . have HS:Hid (modB k m=false):=by show _=_;simp [modB,hm,k8]
     clear hm;go_enter func143,ntmps143;go_wp2;go_ret;exact ⟨by rw [HS.out];rfl,BL.out⟩
theorem ZS (k n:Int) (t m:ByteArray) (p q:Option Addr) (nk c nc c':Nat) (w:World) (hts:t.size<=maxLen) (hms:m.size<=maxLen) (hnk:nk<=9223372036854775807) (hnc:nc<=9223372036854775807) (hT:Tabs w) :
 Calls prog 135 #[.agg #[.int .i64 k,.int .i64 n,.string t,.string m,.slice p nk c,.slice q nc c']] w λe w'=>e=.returned (.bool (ZC k n t m nk nc))/\Bz w w':=by
 have HT:=hid hT;clear hT;by_cases hr:0<=k/\k<=10
 . obtain ⟨kn,rfl⟩:∃ kn:Nat,k=kn:=⟨k.toNat,by omega⟩
   have hkn:kn<11:=(by omega);have hki:(kn:Int)<11:=(by omega);have hk0:=sqI kn;have hin:inB (kn:Int) 0 10=true:=(by simp [inB];omega);clear hr;have BL:Hid (Bz w (w.alloc (.cells #[.int .i64 (kn:Int),.int .i64 n,.string t,.string m,.slice p nk c,.slice q nc c'] 108))):=(sqN _ _);have BM:Hid (Bz w ((w.alloc (.cells #[.int .i64 (kn:Int),.int .i64 n,.string t,.string m,.slice p nk c,.slice q nc c'] 108)).alloc (.cells #[.int .i64 (txtK kn),.int .i64 (ZG kn),.int .i64 (ZH kn),.int .i64 (ZJ kn),.int .i64 (ZI kn)] 165))):=BL.out.alloc BL.out.size _;obtain ⟨s0,s1,s2,s3,s4⟩:=(HT.out.below BL.out).shapes kn hkn;have HP:Hid (ZC kn n t m nk nc=(numB kn n && (modB kn m && (tkB (txtK kn) t && (inB nk (ZG kn) (ZH kn) && inB nc (ZJ kn) (ZI kn)))))):=(by show _=_;simp [ZC,hin,txtB])
   cases h1:numB kn n with
   | false =>
    go_enter func135,ntmps135;go_wp2_with (first | (go_at_call 83;go_must (refine (ZR _ _ _ _).mono ?_;rintro e w9 ⟨rfl,rfl⟩;rw [hin])));refine (Za5 _ _ _ _ _ _ _ _ _ _ _).mono ?_;rintro e w2 ⟨rfl,hb2⟩;rw [h1];have B2:=hid (BM.out.trans (hb2.mono BM.out.size));go_wp2;go_ret;exact ⟨by rw [HP.out,h1];simp,B2.out⟩
   | true =>
    cases h2:modB kn m with
    | false =>
     go_enter func135,ntmps135;go_wp2_with (first | (go_at_call 83;go_must (refine (ZR _ _ _ _).mono ?_;rintro e w9 ⟨rfl,rfl⟩;rw [hin])));refine (Za5 _ _ _ _ _ _ _ _ _ _ _).mono ?_;rintro e w2 ⟨rfl,hb2⟩;rw [h1];have B2:=hid (BM.out.trans (hb2.mono BM.out.size));have g1:Hid (Blk w2 w.heap.size #[.int .i64 (kn:Int),.int .i64 n,.string t,.string m,.slice p nk c,.slice q nc c'] 108):=((Blk.new (w:=w)).alloc).next hb2
     have g2:Hid (Blk w2 (w.heap.size+1) #[.int .i64 (txtK kn),.int .i64 (ZG kn),.int .i64 (ZH kn),.int .i64 (ZJ kn),.int .i64 (ZI kn)] 165):=by
      have:=(Blk.new (w:=(w.alloc (.cells #[.int .i64 (kn:Int),.int .i64 n,.string t,.string m,.slice p nk c,.slice q nc c'] 108))) (cs:=#[.int .i64 (txtK kn),.int .i64 (ZG kn),.int .i64 (ZH kn),.int .i64 (ZJ kn),.int .i64 (ZI kn)]) (t:=165)).next hb2;simp only [Zg] at this;exact this
     obtain ⟨a0,a1,a2,a3,a4,a5⟩:=sqB6 g1.out;clear hb2 s0 s1 s2 s3 s4;go_wp2_with fail;refine (ZcG _ _ _ _ _ _ _ _ _ _ _ hms (HT.out.below B2.out).keys).mono ?_;rintro e w3 ⟨rfl,hb3⟩;rw [h2];have B3:=hid (B2.out.trans (hb3.mono B2.out.size));go_wp2;go_ret;exact ⟨by rw [HP.out,h1,h2];simp,B3.out⟩
    | true =>
     cases h3:tkB (txtK kn) t with
     | false =>
      go_enter func135,ntmps135;go_wp2_with (first | (go_at_call 83;go_must (refine (ZR _ _ _ _).mono ?_;rintro e w9 ⟨rfl,rfl⟩;rw [hin])));refine (Za5 _ _ _ _ _ _ _ _ _ _ _).mono ?_;rintro e w2 ⟨rfl,hb2⟩;rw [h1];have B2:=hid (BM.out.trans (hb2.mono BM.out.size));have g1:Hid (Blk w2 w.heap.size #[.int .i64 (kn:Int),.int .i64 n,.string t,.string m,.slice p nk c,.slice q nc c'] 108):=((Blk.new (w:=w)).alloc).next hb2
      have g2:Hid (Blk w2 (w.heap.size+1) #[.int .i64 (txtK kn),.int .i64 (ZG kn),.int .i64 (ZH kn),.int .i64 (ZJ kn),.int .i64 (ZI kn)] 165):=by
       have:=(Blk.new (w:=(w.alloc (.cells #[.int .i64 (kn:Int),.int .i64 n,.string t,.string m,.slice p nk c,.slice q nc c'] 108))) (cs:=#[.int .i64 (txtK kn),.int .i64 (ZG kn),.int .i64 (ZH kn),.int .i64 (ZJ kn),.int .i64 (ZI kn)]) (t:=165)).next hb2;simp only [Zg] at this;exact this
      obtain ⟨a0,a1,a2,a3,a4,a5⟩:=sqB6 g1.out;clear hb2 s0 s1 s2 s3 s4;go_wp2_with fail;refine (ZcG _ _ _ _ _ _ _ _ _ _ _ hms (HT.out.below B2.out).keys).mono ?_;rintro e w3 ⟨rfl,hb3⟩;rw [h2];have B3:=hid (B2.out.trans (hb3.mono B2.out.size));have g3:=g1.out.next hb3;have g4:=g2.out.next hb3;clear a0 a1 a2 a3 a4 a5;obtain ⟨a0,a1,a2,a3,a4,a5⟩:=sqB6 g3;have b0:=g4.cell 0 _ rfl;have b1:=g4.cell 1 _ rfl;have b2:=g4.cell 2 _ rfl;have b3:=g4.cell 3 _ rfl;have b4:=g4.cell 4 _ rfl;clear hb3 g3 g4;go_wp2_with (first | (go_at_call 144;go_must (refine (Zc5 _ _ _ hts (HT.out.below B3.out).keys).mono ?_;rintro e w9 ⟨rfl,rfl⟩;rw [h3])));go_ret;exact ⟨by rw [HP.out,h1,h2,h3];simp,B3.out⟩
     | true =>
      cases h4:inB nk (ZG kn) (ZH kn) with
      | false =>
       go_enter func135,ntmps135;go_wp2_with (first | (go_at_call 83;go_must (refine (ZR _ _ _ _).mono ?_;rintro e w9 ⟨rfl,rfl⟩;rw [hin])));refine (Za5 _ _ _ _ _ _ _ _ _ _ _).mono ?_;rintro e w2 ⟨rfl,hb2⟩;rw [h1];have B2:=hid (BM.out.trans (hb2.mono BM.out.size));have g1:Hid (Blk w2 w.heap.size #[.int .i64 (kn:Int),.int .i64 n,.string t,.string m,.slice p nk c,.slice q nc c'] 108):=((Blk.new (w:=w)).alloc).next hb2
       have g2:Hid (Blk w2 (w.heap.size+1) #[.int .i64 (txtK kn),.int .i64 (ZG kn),.int .i64 (ZH kn),.int .i64 (ZJ kn),.int .i64 (ZI kn)] 165):=by
        have:=(Blk.new (w:=(w.alloc (.cells #[.int .i64 (kn:Int),.int .i64 n,.string t,.string m,.slice p nk c,.slice q nc c'] 108))) (cs:=#[.int .i64 (txtK kn),.int .i64 (ZG kn),.int .i64 (ZH kn),.int .i64 (ZJ kn),.int .i64 (ZI kn)]) (t:=165)).next hb2;simp only [Zg] at this;exact this
       obtain ⟨a0,a1,a2,a3,a4,a5⟩:=sqB6 g1.out;clear hb2 s0 s1 s2 s3 s4;go_wp2_with fail;refine (ZcG _ _ _ _ _ _ _ _ _ _ _ hms (HT.out.below B2.out).keys).mono ?_;rintro e w3 ⟨rfl,hb3⟩;rw [h2];have B3:=hid (B2.out.trans (hb3.mono B2.out.size));have g3:=g1.out.next hb3;have g4:=g2.out.next hb3;clear a0 a1 a2 a3 a4 a5;obtain ⟨a0,a1,a2,a3,a4,a5⟩:=sqB6 g3;have b0:=g4.cell 0 _ rfl;have b1:=g4.cell 1 _ rfl;have b2:=g4.cell 2 _ rfl;have b3:=g4.cell 3 _ rfl;have b4:=g4.cell 4 _ rfl;clear hb3 g3 g4;go_wp2_with (first | (go_at_call 144;go_must (refine (Zc5 _ _ _ hts (HT.out.below B3.out).keys).mono ?_;rintro e w9 ⟨rfl,rfl⟩;rw [h3])) | (go_at_call_of 83 (ZG kn);go_must (refine (ZR _ _ _ _).mono ?_;rintro e w9 ⟨rfl,rfl⟩;rw [h4])));go_ret;exact ⟨by rw [HP.out,h1,h2,h3,h4];simp,B3.out⟩
      | true =>
       go_enter func135,ntmps135;go_wp2_with (first | (go_at_call 83;go_must (refine (ZR _ _ _ _).mono ?_;rintro e w9 ⟨rfl,rfl⟩;rw [hin])));refine (Za5 _ _ _ _ _ _ _ _ _ _ _).mono ?_;rintro e w2 ⟨rfl,hb2⟩;rw [h1];have B2:=hid (BM.out.trans (hb2.mono BM.out.size));have g1:Hid (Blk w2 w.heap.size #[.int .i64 (kn:Int),.int .i64 n,.string t,.string m,.slice p nk c,.slice q nc c'] 108):=((Blk.new (w:=w)).alloc).next hb2
       have g2:Hid (Blk w2 (w.heap.size+1) #[.int .i64 (txtK kn),.int .i64 (ZG kn),.int .i64 (ZH kn),.int .i64 (ZJ kn),.int .i64 (ZI kn)] 165):=by
        have:=(Blk.new (w:=(w.alloc (.cells #[.int .i64 (kn:Int),.int .i64 n,.string t,.string m,.slice p nk c,.slice q nc c'] 108))) (cs:=#[.int .i64 (txtK kn),.int .i64 (ZG kn),.int .i64 (ZH kn),.int .i64 (ZJ kn),.int .i64 (ZI kn)]) (t:=165)).next hb2;simp only [Zg] at this;exact this
       obtain ⟨a0,a1,a2,a3,a4,a5⟩:=sqB6 g1.out;clear hb2 s0 s1 s2 s3 s4;go_wp2_with fail;refine (ZcG _ _ _ _ _ _ _ _ _ _ _ hms (HT.out.below B2.out).keys).mono ?_;rintro e w3 ⟨rfl,hb3⟩;rw [h2];have B3:=hid (B2.out.trans (hb3.mono B2.out.size));have g3:=g1.out.next hb3;have g4:=g2.out.next hb3;clear a0 a1 a2 a3 a4 a5;obtain ⟨a0,a1,a2,a3,a4,a5⟩:=sqB6 g3;have b0:=g4.cell 0 _ rfl;have b1:=g4.cell 1 _ rfl;have b2:=g4.cell 2 _ rfl;have b3:=g4.cell 3 _ rfl;have b4:=g4.cell 4 _ rfl;clear hb3 g3 g4;go_wp2_with (first | (go_at_call 144;go_must (refine (Zc5 _ _ _ hts (HT.out.below B3.out).keys).mono ?_;rintro e w9 ⟨rfl,rfl⟩;rw [h3])) | (go_at_call_of 83 (ZG kn);go_must (refine (ZR _ _ _ _).mono ?_;rintro e w9 ⟨rfl,rfl⟩;rw [h4])) | (go_at_call_of 83 (ZJ kn);go_must (refine (ZR _ _ _ _).mono ?_;rintro e w9 ⟨rfl,rfl⟩)));go_ret;exact ⟨by rw [HP.out,h1,h2,h3,h4];simp,B3.out⟩
 . have hin:inB k 0 10=false:=by simp [inB];omega
   have BL:Hid (Bz w (w.alloc (.cells #[.int .i64 k,.int .i64 n,.string t,.string m,.slice p nk c,.slice q nc c'] 108))):=(sqN _ _);clear hr;go_enter func135,ntmps135;go_wp2_with (first | (go_at_call 83;go_must (refine (ZR _ _ _ _).mono ?_;rintro e w9 ⟨rfl,rfl⟩;rw [hin])));go_ret;exact ⟨by simp [ZC,hin],BL.out⟩
theorem Zf8 {w:World} {S:Nat->Prop} {d:Nat} {cs:List Value} {x:Ex} (h:HEx w S d cs x):∃ sk sn st se p1 n1 q1 p2 n2 q2,cs = [.int .i64 sk,.int .i64 sn,.string st,.string se,.slice p1 n1 q1,.slice p2 n2 q2]:=by
 cases d with
 | zero=>exact h.elim
 | succ d =>
  obtain ⟨kv,cv,rfl,_,_,_,_,⟨p1,c1,rfl,_⟩,⟨p2,c2,rfl,_⟩⟩:=h;exact ⟨_,_,_,_,_,_,_,_,_,_,rfl⟩
theorem Zh3 {w:World} {S:Nat->Prop} {R:List Value->Ex->Prop} {cs:List Value} {x:Cl} (h:HCl w S R cs x):∃ p1 n1 q1 p2 n2 q2,cs = [.slice p1 n1 q1,.slice p2 n2 q2]:=by
 obtain ⟨pv,bv,rfl,⟨p1,c1,rfl,_⟩,⟨p2,c2,rfl,_⟩⟩:=h;exact ⟨_,_,_,_,_,_,rfl⟩
def XpC (d:Nat):Prop :=
 ∀ (w:World) (cs:List Value) (x:Ex) (pat:Bool) (deep:Int),Tabs w->HEx w All d cs x->0<=deep->deep<=41->Calls prog 126 #[.agg cs.toArray,.int .i64 deep,.bool pat] w λe w'=>e=.returned (.bool (exOk d x pat (40 - deep)))/\Bz w w'
def XsC (d:Nat):Prop :=
 ∀ (w:World) (v:Value) (es:List Ex) (pat:Bool) (deep:Int),Tabs w->Rows w All 6 (HEx w All d) v es->0<=deep->deep<=41->Calls prog 116 #[v,.int .i64 deep,.bool pat] w λe w'=>e=.returned (.bool (es.all (λy=>exOk d y pat (40 - deep))))/\Bz w w'
def KcC (d:Nat):Prop :=
 ∀ (w:World) (cs:List Value) (c:Cl) (pats deep:Int),Tabs w->HCl w All (HEx w All d) cs c->0<=deep->deep<=41->Calls prog 106 #[.agg cs.toArray,.int .i64 pats,.int .i64 deep] w λe w'=>e=.returned (.bool (clB (λy q=>exOk d y q (40 - deep)) c pats))/\Bz w w'
def KsC (d:Nat):Prop :=
 ∀ (w:World) (v:Value) (cl:List Cl) (deep:Int),Tabs w->Rows w All 2 (HCl w All (HEx w All d)) v cl->0<=deep->deep<=41->Calls prog 136 #[v,.int .i64 deep] w λe w'=>e=.returned (.bool (cl.all (λc=>clB (λy q=>exOk d y q (40 - deep)) c 1)))/\Bz w w'
theorem ZeW {d:Nat} (hE:XpC d):XsC d:=by
 intro w v es pat deep hT h hd0 hd1;have HT:=hid hT;obtain ⟨p,cap,rfl,hcl,hcm,hx⟩:=h;have hnb:=sqM hcl hcm;generalize hn:es.length=n at *;have HN:=hid hn;have HX:=hid hx;clear hx hn hT;go_enter func116,ntmps116;go_wp2_with fail
 go_loopw [11] (λiv wr=>∃ k:Nat,k<=n/\iv=.int .i64 k/\Hid ((es.take k).all (λy=>exOk d y pat (40 - deep))=true)/\Bz w wr) (λiv _=>n - (intOf iv).toNat)
 case atStart=>exact ⟨0,Nat.zero_le _,rfl,by show _=_;simp,Below.refl _ _⟩
 case round =>
  obtain ⟨k,hk,rfl,hall,hb⟩:=hrel;have HB:=hid hb;by_cases hlt:k<n
  . obtain ⟨x,hxk⟩:=sqA (l:=es) (k:=k) HN.out hlt
    obtain ⟨g,off,rfl,-,hgl,hat⟩:=HX.out (sqE hxk);obtain ⟨cs,hcsl,hcs,r1⟩:=hat k x hxk;obtain ⟨sk,sn,st,se,p1,n1,q1,p2,n2,q2,rfl⟩:=Zf8 r1;have E1:∀ w',Bz w w'->HEx w' All d [.int .i64 sk,.int .i64 sn,.string st,.string se,.slice p1 n1 q1,.slice p2 n2 q2] x:=λw' hw=>r1.mono (sqO hw) sqj;obtain ⟨a0,a1,a2,a3,a4,a5⟩:=sqC6 hcs (by omega);rw [<-hb.cell (p:=⟨g,_,none⟩) hgl] at a0 a1 a2 a3 a4 a5;simp at a0 a1 a2 a3 a4 a5;have hki:(k:Int)<(n:Int):=(by omega);have hk0:=sqI k;have HBA:Hid (Bz w (wr.alloc (.cells #[.int .i64 sk,.int .i64 sn,.string st,.string se,.slice p1 n1 q1,.slice p2 n2 q2] 108))):=HB.out.alloc HB.out.size _;clear hb hcs hat hcsl r1;generalize hcv:exOk d x pat (40 - deep)=cv;have HCV:=hid hcv;have HC2:Hid (cv=true->(es.take (k+1)).all (λy=>exOk d y pat (40 - deep))=true):=λh=>ZaC _ es k x hxk hall.out (hcv.trans h);have HC3:Hid (cv=false->es.all (λy=>exOk d y pat (40 - deep))=false):=λh=>Zbk _ es k x hxk (hcv.trans h);clear hcv;go_wp2_with fail;refine (hE _ _ x pat deep (HT.out.below HBA.out) (E1 _ HBA.out) (by omega) (by omega)).mono ?_;rintro e w4 ⟨rfl,hb4⟩;rw [HCV.out];have HB4:=hid (HBA.out.trans (hb4.mono HBA.out.size));clear hb4 HCV
    cases cv with
    | true =>
     have HT':Hid _:=HC2.out rfl;clear HC2 HC3;go_wp2_with fail;exact ⟨⟨k+1,by omega,by go_num,HT'.out,HB4.out⟩,by simp [intOf];omega⟩
    | false =>
     have HF:=hid (HC3.out rfl);clear HC2 HC3;go_wp2;go_ret;exact ⟨by first | (rw [HF.out];rfl) | (rw [HF.out];simp),HB4.out⟩
  . have HD:Hid (es.all (λy=>exOk d y pat (40 - deep))=true):=by
     have:=hall.out
     rwa [List.take_of_length_le (by rw [HN.out];omega)] at this
    clear hb;go_wp2;go_ret;exact ⟨by first | (rw [HD.out];rfl) | (rw [HD.out];simp),HB.out⟩
theorem Zh4 {d:Nat} (hE:KcC d):KsC d:=by
 intro w v cl deep hT h hd0 hd1;have HT:=hid hT;obtain ⟨p,cap,rfl,hcl,hcm,hx⟩:=h;have hnb:=sqM hcl hcm;generalize hn:cl.length=n at *;have HN:=hid hn;have HX:=hid hx;clear hx hn hT;go_enter func136,ntmps136;go_wp2_with fail
 go_loopw [9] (λiv wr=>∃ k:Nat,k<=n/\iv=.int .i64 k/\Hid ((cl.take k).all (λc=>clB (λy q=>exOk d y q (40 - deep)) c 1)=true)/\Bz w wr) (λiv _=>n - (intOf iv).toNat)
 case atStart=>exact ⟨0,Nat.zero_le _,rfl,by show _=_;simp,Below.refl _ _⟩
 case round =>
  obtain ⟨k,hk,rfl,hall,hb⟩:=hrel;have HB:=hid hb;by_cases hlt:k<n
  . obtain ⟨x,hxk⟩:=sqA (l:=cl) (k:=k) HN.out hlt
    obtain ⟨g,off,rfl,-,hgl,hat⟩:=HX.out (sqE hxk);obtain ⟨cs,hcsl,hcs,r1⟩:=hat k x hxk;obtain ⟨p1,n1,q1,p2,n2,q2,rfl⟩:=Zh3 r1;have E1:∀ w',Bz w w'->HCl w' All (HEx w' All d) [.slice p1 n1 q1,.slice p2 n2 q2] x:=λw' hw=>r1.mono (sqO hw) sqj (λ_ _ h=>h.mono (sqO hw) sqj);obtain ⟨a0,a1⟩:=sqC2 hcs (by omega);rw [<-hb.cell (p:=⟨g,_,none⟩) hgl] at a0 a1;simp at a0 a1;have hki:(k:Int)<(n:Int):=(by omega);have hk0:=sqI k;have HBA:Hid (Bz w (wr.alloc (.cells #[.slice p1 n1 q1,.slice p2 n2 q2] 64))):=HB.out.alloc HB.out.size _;clear hb hcs hat hcsl r1;generalize hcv:clB (λy q=>exOk d y q (40 - deep)) x 1=cv;have HCV:=hid hcv;have HC2:Hid (cv=true->(cl.take (k+1)).all (λc=>clB (λy q=>exOk d y q (40 - deep)) c 1)=true):=λh=>ZaC _ cl k x hxk hall.out (hcv.trans h);have HC3:Hid (cv=false->cl.all (λc=>clB (λy q=>exOk d y q (40 - deep)) c 1)=false):=λh=>Zbk _ cl k x hxk (hcv.trans h);clear hcv;go_wp2_with fail;refine (hE _ _ x 1 deep (HT.out.below HBA.out) (E1 _ HBA.out) (by omega) (by omega)).mono ?_;rintro e w4 ⟨rfl,hb4⟩;rw [HCV.out];have HB4:=hid (HBA.out.trans (hb4.mono HBA.out.size));clear hb4 HCV
    cases cv with
    | true =>
     have HT':Hid _:=HC2.out rfl;clear HC2 HC3;go_wp2_with fail;exact ⟨⟨k+1,by omega,by go_num,HT'.out,HB4.out⟩,by simp [intOf];omega⟩
    | false =>
     have HF:=hid (HC3.out rfl);clear HC2 HC3;go_wp2;go_ret;exact ⟨by first | (rw [HF.out];rfl) | (rw [HF.out];simp),HB4.out⟩
  . have HD:Hid (cl.all (λc=>clB (λy q=>exOk d y q (40 - deep)) c 1)=true):=by
     have:=hall.out
     rwa [List.take_of_length_le (by rw [HN.out];omega)] at this
    clear hb;go_wp2;go_ret;exact ⟨by first | (rw [HD.out];rfl) | (rw [HD.out];simp),HB.out⟩
theorem Zeq {d:Nat} (hE:XsC d):KcC d:=by
 intro w cs c pats deep hT h hd0 hd1;have HT:=hid hT;obtain ⟨pv,bv,rfl,f0,f1⟩:=h;obtain ⟨ps,bs⟩:=c;simp only at f0 f1;have BL:Hid (Bz w (w.alloc (.cells #[pv,bv] 64))):=(sqN _ _);have F0:∀ w',Bz w w'->Rows w' All 6 (HEx w' All d) pv ps:=λw' hw=>f0.mono (sqO hw) sqj (λ_ _ _ h=>h.mono (sqO hw) sqj);have F1:∀ w',Bz w w'->Rows w' All 6 (HEx w' All d) bv bs:=λw' hw=>f1.mono (sqO hw) sqj (λ_ _ _ h=>h.mono (sqO hw) sqj);obtain ⟨p,cap,rfl,hcl,hcm,-⟩:=f0;obtain ⟨q,cap',rfl,hcl',hcm',-⟩:=f1;have hnb:=sqM hcl hcm;have hmb:=sqM hcl' hcm';have hv:clB (λy q=>exOk d y q (40 - deep)) (ps,bs) pats=(decide ((ps.length:Int)=pats) && (inB bs.length 1 20 && (ps.all (λy=>exOk d y true (40 - deep)) && bs.all (λy=>exOk d y false (40 - deep))))):=rfl;rw [hv];clear hv hT;generalize ps.length=n at *;generalize bs.length=m at *;by_cases c1:(n:Int)=pats
 . subst c1
   rw [decide_eq_true rfl]
   cases hin:inB m 1 20 with
   | false =>
    go_enter func106,ntmps106;go_wp2_with (first | (go_at_call 83;go_must (refine (ZR _ _ _ _).mono ?_;rintro e w9 ⟨rfl,rfl⟩;rw [hin])));go_ret;exact ⟨by simp,BL.out⟩
   | true =>
    cases h1:ps.all (λy=>exOk d y true (40 - deep)) with
    | false =>
     go_enter func106,ntmps106;go_wp2_with (first | (go_at_call 83;go_must (refine (ZR _ _ _ _).mono ?_;rintro e w9 ⟨rfl,rfl⟩;rw [hin])));refine (hE _ _ ps true deep (HT.out.below BL.out) (F0 _ BL.out) (by omega) (by omega)).mono ?_;rintro e w2 ⟨rfl,hb2⟩;rw [h1];have B2:=hid (BL.out.trans (hb2.mono BL.out.size));clear hb2;go_wp2;go_ret;exact ⟨by simp,B2.out⟩
    | true =>
     go_enter func106,ntmps106;go_wp2_with (first | (go_at_call 83;go_must (refine (ZR _ _ _ _).mono ?_;rintro e w9 ⟨rfl,rfl⟩;rw [hin])));refine (hE _ _ ps true deep (HT.out.below BL.out) (F0 _ BL.out) (by omega) (by omega)).mono ?_;rintro e w2 ⟨rfl,hb2⟩;rw [h1];have B2:=hid (BL.out.trans (hb2.mono BL.out.size));have hbk:=(Blk.new (w:=w) (cs:=#[.slice p n cap,.slice q m cap']) (t:=64)).next hb2;obtain ⟨a0,a1⟩:=sqB2 hbk;clear hb2 hbk;go_wp2_with fail;refine (hE _ _ bs false deep (HT.out.below B2.out) (F1 _ B2.out) (by omega) (by omega)).mono ?_;rintro e w3 ⟨rfl,hb3⟩;have B3:=hid (B2.out.trans (hb3.mono B2.out.size));clear hb3;go_wp2;go_ret;exact ⟨by simp,B3.out⟩
 . have c2:((n:Int) == pats)=false:=by simpa using c1
   rw [decide_eq_false c1];go_enter func106,ntmps106;go_wp2;go_ret;exact ⟨by simp,BL.out⟩
theorem Zfq {k n:Int} {t m:ByteArray} {nk nc:Nat} (h:ZC k n t m nk nc=true):ZG k<=nk/\(nk:Int)<=ZH k/\ZJ k<=nc/\(nc:Int)<=ZI k:=by
 unfold ZC at h;simp only [Bool.and_eq_true,inB,decide_eq_true_eq] at h;omega
theorem ZjX {d:Nat} (h0:XpC d) (h1:XsC d) (h2:KsC d):XpC (d+1):=by
 intro w cs x pat deep hT h hd0 hd1;have HT:=hid hT;obtain ⟨kv,cv,rfl,-,-,hts,hms,f0,f1⟩:=h;obtain ⟨kx,nx,tx,mx,ks,cl⟩:=x;simp only [Ex.kind,Ex.n,Ex.text,Ex.mod,Ex.kids,Ex.clauses] at *;have F0:∀ w',Bz w w'->Rows w' All 6 (HEx w' All d) kv ks:=λw' hw=>f0.mono (sqO hw) sqj (λ_ _ _ h=>h.mono (sqO hw) sqj);have F1:∀ w',Bz w w'->Rows w' All 2 (HCl w' All (HEx w' All d)) cv cl:=λw' hw=>f1.mono (sqO hw) sqj (λ_ _ _ h=>h.mono (sqO hw) sqj (λ_ _ h=>h.mono (sqO hw) sqj));obtain ⟨p,cap,rfl,hcl,hcm,hx⟩:=f0;obtain ⟨q,cap',rfl,hcl',hcm',-⟩:=f1;have hnb:=sqM hcl hcm;have hmb:=sqM hcl' hcm';have hv:=ZhQ d kx nx tx mx ks cl pat (40 - deep);have e1:40 - deep - 1=40 - (deep+1):=(by omega);rw [e1] at hv;rw [hv];clear hv e1 hT;have BL:Hid (∀ (cs:Array Value) (t:TypeId),Bz w (w.alloc (.cells cs t))):=λcs t=>(sqN _ _);generalize hn:ks.length=n at *;generalize hm:cl.length=m at *;have HN:=hid hn;have HM:=hid hm;have HX:=hid hx;clear hx hn hm;by_cases c1:40<deep
 . rw [decide_eq_false (by omega)]
   go_enter func126,ntmps126;go_wp2;go_ret;exact ⟨by simp,BL.out _ _⟩
 rw [decide_eq_true (by omega:0<=40 - deep)]
 cases hpl:ZC kx nx tx mx n m with
 | false =>
  go_enter func126,ntmps126;go_wp2_with fail;refine (ZS _ _ _ _ _ _ _ _ _ _ _ hts hms hnb hmb (HT.out.below (BL.out _ _))).mono ?_;rintro e W1 ⟨rfl,hb⟩;rw [hpl];have B1:Hid (Bz w W1):=((sqN _ _)).trans (hb.mono (by simp));have bA:Hid (Blk W1 w.heap.size #[.int .i64 kx,.int .i64 nx,.string tx,.string mx,.slice p n cap,.slice q m cap'] 108):=(Blk.new (w:=w)).next hb;obtain ⟨xa0,xa1,xa2,xa3,xa4,xa5⟩:=sqB6 bA.out;clear hb;go_wp2;go_ret;exact ⟨by simp,B1.out⟩
 | true =>
  obtain ⟨r0,r1⟩:=Zde hpl;obtain ⟨g0,g1,g2,g3⟩:=Zfq hpl;simp only [Bool.true_and]
  have nocl:kx≠10->cl = []:=λh=>by
   have:ZI kx=0:=(by simp [ZI,h]);have h3:=HM.out;exact List.length_eq_zero_iff.1 (by omega)
  by_cases k3:kx=3
  . subst k3
    have hk:ks = []:=by
     have:ZH 3=0:=(by decide);have h3:=HN.out;exact List.length_eq_zero_iff.1 (by omega)
    have HV:Hid ((patB 3 pat && (Zaz (λy q=>exOk d y q (40 - (deep+1))) ks (pat || decide ((3:Int)=9)) pat && cl.all (λc=>clB (λy q=>exOk d y q (40 - (deep+1))) c 1)))=pat):=by
     show _=_
     rw [hk,nocl (by omega)];cases pat <;> simp [Zaz,patB]
    clear nocl hk g0 g1 g2 g3;rw [HV.out];go_enter func126,ntmps126;go_wp2_with fail;refine (ZS _ _ _ _ _ _ _ _ _ _ _ hts hms hnb hmb (HT.out.below (BL.out _ _))).mono ?_;rintro e W1 ⟨rfl,hb⟩;rw [hpl];have B1:Hid (Bz w W1):=((sqN _ _)).trans (hb.mono (by simp));have bA:Hid (Blk W1 w.heap.size #[.int .i64 3,.int .i64 nx,.string tx,.string mx,.slice p n cap,.slice q m cap'] 108):=(Blk.new (w:=w)).next hb;obtain ⟨xa0,xa1,xa2,xa3,xa4,xa5⟩:=sqB6 bA.out;clear hb;go_wp2;go_ret;exact ⟨by rfl,B1.out⟩
  by_cases k46:kx=4\/kx=6
  . have HV:Hid ((patB kx pat && (Zaz (λy q=>exOk d y q (40 - (deep+1))) ks (pat || decide (kx=9)) pat && cl.all (λc=>clB (λy q=>exOk d y q (40 - (deep+1))) c 1)))=ks.all (λy=>exOk d y pat (40 - (deep+1)))):=by
     show _=_;have e9:decide (kx=9)=false:=(by simp;omega)
     have ep:patB kx pat=true:=by cases pat <;> simp [patB] <;> omega
     rw [nocl (by omega),e9,Bool.or_false,ZcY,ep];simp
    clear nocl g0 g1 g2 g3;rw [HV.out]
    rcases k46 with k4 | k4
    . subst k4
      go_enter func126,ntmps126;go_wp2_with fail;refine (ZS _ _ _ _ _ _ _ _ _ _ _ hts hms hnb hmb (HT.out.below (BL.out _ _))).mono ?_;rintro e W1 ⟨rfl,hb⟩;rw [hpl];have B1:Hid (Bz w W1):=((sqN _ _)).trans (hb.mono (by simp));have bA:Hid (Blk W1 w.heap.size #[.int .i64 4,.int .i64 nx,.string tx,.string mx,.slice p n cap,.slice q m cap'] 108):=(Blk.new (w:=w)).next hb;obtain ⟨xa0,xa1,xa2,xa3,xa4,xa5⟩:=sqB6 bA.out;clear hb;go_wp2_with fail;refine (h1 _ _ ks pat (deep+1) (HT.out.below B1.out) (F0 _ B1.out) (by omega) (by omega)).mono ?_;rintro e w3 ⟨rfl,hb3⟩;have B3:=hid (B1.out.trans (hb3.mono B1.out.size));clear hb3;go_wp2;go_ret;exact ⟨by rfl,B3.out⟩
    . subst k4
      go_enter func126,ntmps126;go_wp2_with fail;refine (ZS _ _ _ _ _ _ _ _ _ _ _ hts hms hnb hmb (HT.out.below (BL.out _ _))).mono ?_;rintro e W1 ⟨rfl,hb⟩;rw [hpl];have B1:Hid (Bz w W1):=((sqN _ _)).trans (hb.mono (by simp));have bA:Hid (Blk W1 w.heap.size #[.int .i64 6,.int .i64 nx,.string tx,.string mx,.slice p n cap,.slice q m cap'] 108):=(Blk.new (w:=w)).next hb;obtain ⟨xa0,xa1,xa2,xa3,xa4,xa5⟩:=sqB6 bA.out;clear hb;go_wp2_with fail;refine (h1 _ _ ks pat (deep+1) (HT.out.below B1.out) (F0 _ B1.out) (by omega) (by omega)).mono ?_;rintro e w3 ⟨rfl,hb3⟩;have B3:=hid (B1.out.trans (hb3.mono B1.out.size));clear hb3;go_wp2;go_ret;exact ⟨by rfl,B3.out⟩
  by_cases kl:kx=0\/kx=1\/kx=2\/kx=5
  . have hk:ks = []:=by
     have:ZH kx=0:=by rcases kl with rfl | rfl | rfl | rfl <;> decide
     have h3:=HN.out;exact List.length_eq_zero_iff.1 (by omega)
    have HV:Hid ((patB kx pat && (Zaz (λy q=>exOk d y q (40 - (deep+1))) ks (pat || decide (kx=9)) pat && cl.all (λc=>clB (λy q=>exOk d y q (40 - (deep+1))) c 1)))=true):=by
     show _=_
     have ep:patB kx pat=true:=by cases pat <;> simp [patB] <;> omega
     rw [hk,nocl (by omega),ep];simp [Zaz]
    clear nocl hk g0 g1 g2 g3;rw [HV.out]
    rcases kl with k4 | k4 | k4 | k4
    . subst k4
      go_enter func126,ntmps126;go_wp2_with fail;refine (ZS _ _ _ _ _ _ _ _ _ _ _ hts hms hnb hmb (HT.out.below (BL.out _ _))).mono ?_;rintro e W1 ⟨rfl,hb⟩;rw [hpl];have B1:Hid (Bz w W1):=((sqN _ _)).trans (hb.mono (by simp));have bA:Hid (Blk W1 w.heap.size #[.int .i64 0,.int .i64 nx,.string tx,.string mx,.slice p n cap,.slice q m cap'] 108):=(Blk.new (w:=w)).next hb;obtain ⟨xa0,xa1,xa2,xa3,xa4,xa5⟩:=sqB6 bA.out;clear hb;go_wp2;go_ret;exact ⟨by rfl,B1.out⟩
    . subst k4
      go_enter func126,ntmps126;go_wp2_with fail;refine (ZS _ _ _ _ _ _ _ _ _ _ _ hts hms hnb hmb (HT.out.below (BL.out _ _))).mono ?_;rintro e W1 ⟨rfl,hb⟩;rw [hpl];have B1:Hid (Bz w W1):=((sqN _ _)).trans (hb.mono (by simp));have bA:Hid (Blk W1 w.heap.size #[.int .i64 1,.int .i64 nx,.string tx,.string mx,.slice p n cap,.slice q m cap'] 108):=(Blk.new (w:=w)).next hb;obtain ⟨xa0,xa1,xa2,xa3,xa4,xa5⟩:=sqB6 bA.out;clear hb;go_wp2;go_ret;exact ⟨by rfl,B1.out⟩
    . subst k4
      go_enter func126,ntmps126;go_wp2_with fail;refine (ZS _ _ _ _ _ _ _ _ _ _ _ hts hms hnb hmb (HT.out.below (BL.out _ _))).mono ?_;rintro e W1 ⟨rfl,hb⟩;rw [hpl];have B1:Hid (Bz w W1):=((sqN _ _)).trans (hb.mono (by simp));have bA:Hid (Blk W1 w.heap.size #[.int .i64 2,.int .i64 nx,.string tx,.string mx,.slice p n cap,.slice q m cap'] 108):=(Blk.new (w:=w)).next hb;obtain ⟨xa0,xa1,xa2,xa3,xa4,xa5⟩:=sqB6 bA.out;clear hb;go_wp2;go_ret;exact ⟨by rfl,B1.out⟩
    . subst k4
      go_enter func126,ntmps126;go_wp2_with fail;refine (ZS _ _ _ _ _ _ _ _ _ _ _ hts hms hnb hmb (HT.out.below (BL.out _ _))).mono ?_;rintro e W1 ⟨rfl,hb⟩;rw [hpl];have B1:Hid (Bz w W1):=((sqN _ _)).trans (hb.mono (by simp));have bA:Hid (Blk W1 w.heap.size #[.int .i64 5,.int .i64 nx,.string tx,.string mx,.slice p n cap,.slice q m cap'] 108):=(Blk.new (w:=w)).next hb;obtain ⟨xa0,xa1,xa2,xa3,xa4,xa5⟩:=sqB6 bA.out;clear hb;go_wp2;go_ret;exact ⟨by rfl,B1.out⟩
  cases pat with
  | true =>
   have HV:Hid ((patB kx true && (Zaz (λy q=>exOk d y q (40 - (deep+1))) ks (true || decide (kx=9)) true && cl.all (λc=>clB (λy q=>exOk d y q (40 - (deep+1))) c 1)))=false):=by
    show _=_;have ep:patB kx true=false:=(by simp [patB];omega);rw [ep];rfl
   clear nocl g0 g1 g2 g3;rw [HV.out]
   rcases (by omega:kx=7\/kx=8\/kx=9\/kx=10) with k4 | k4 | k4 | k4
   . subst k4
     go_enter func126,ntmps126;go_wp2_with fail;refine (ZS _ _ _ _ _ _ _ _ _ _ _ hts hms hnb hmb (HT.out.below (BL.out _ _))).mono ?_;rintro e W1 ⟨rfl,hb⟩;rw [hpl];have B1:Hid (Bz w W1):=((sqN _ _)).trans (hb.mono (by simp));have bA:Hid (Blk W1 w.heap.size #[.int .i64 7,.int .i64 nx,.string tx,.string mx,.slice p n cap,.slice q m cap'] 108):=(Blk.new (w:=w)).next hb;obtain ⟨xa0,xa1,xa2,xa3,xa4,xa5⟩:=sqB6 bA.out;clear hb;go_wp2;go_ret;exact ⟨by rfl,B1.out⟩
   . subst k4
     go_enter func126,ntmps126;go_wp2_with fail;refine (ZS _ _ _ _ _ _ _ _ _ _ _ hts hms hnb hmb (HT.out.below (BL.out _ _))).mono ?_;rintro e W1 ⟨rfl,hb⟩;rw [hpl];have B1:Hid (Bz w W1):=((sqN _ _)).trans (hb.mono (by simp));have bA:Hid (Blk W1 w.heap.size #[.int .i64 8,.int .i64 nx,.string tx,.string mx,.slice p n cap,.slice q m cap'] 108):=(Blk.new (w:=w)).next hb;obtain ⟨xa0,xa1,xa2,xa3,xa4,xa5⟩:=sqB6 bA.out;clear hb;go_wp2;go_ret;exact ⟨by rfl,B1.out⟩
   . subst k4
     go_enter func126,ntmps126;go_wp2_with fail;refine (ZS _ _ _ _ _ _ _ _ _ _ _ hts hms hnb hmb (HT.out.below (BL.out _ _))).mono ?_;rintro e W1 ⟨rfl,hb⟩;rw [hpl];have B1:Hid (Bz w W1):=((sqN _ _)).trans (hb.mono (by simp));have bA:Hid (Blk W1 w.heap.size #[.int .i64 9,.int .i64 nx,.string tx,.string mx,.slice p n cap,.slice q m cap'] 108):=(Blk.new (w:=w)).next hb;obtain ⟨xa0,xa1,xa2,xa3,xa4,xa5⟩:=sqB6 bA.out;clear hb;go_wp2;go_ret;exact ⟨by rfl,B1.out⟩
   . subst k4
     go_enter func126,ntmps126;go_wp2_with fail;refine (ZS _ _ _ _ _ _ _ _ _ _ _ hts hms hnb hmb (HT.out.below (BL.out _ _))).mono ?_;rintro e W1 ⟨rfl,hb⟩;rw [hpl];have B1:Hid (Bz w W1):=((sqN _ _)).trans (hb.mono (by simp));have bA:Hid (Blk W1 w.heap.size #[.int .i64 10,.int .i64 nx,.string tx,.string mx,.slice p n cap,.slice q m cap'] 108):=(Blk.new (w:=w)).next hb;obtain ⟨xa0,xa1,xa2,xa3,xa4,xa5⟩:=sqB6 bA.out;clear hb;go_wp2;go_ret;exact ⟨by rfl,B1.out⟩
  | false =>
   have ep:patB kx false=true:=(by simp [patB];omega);rw [ep];clear ep;by_cases k78:kx=7\/kx=8
   . have HV:Hid ((true && (Zaz (λy q=>exOk d y q (40 - (deep+1))) ks (false || decide (kx=9)) false && cl.all (λc=>clB (λy q=>exOk d y q (40 - (deep+1))) c 1)))=ks.all (λy=>exOk d y false (40 - (deep+1)))):=by
      show _=_;have e9:decide (kx=9)=false:=(by simp;omega);rw [nocl (by omega),e9,Bool.or_false,ZcY];simp
     clear nocl g0 g1 g2 g3;rw [HV.out]
     rcases k78 with k4 | k4
     . subst k4
       go_enter func126,ntmps126;go_wp2_with fail;refine (ZS _ _ _ _ _ _ _ _ _ _ _ hts hms hnb hmb (HT.out.below (BL.out _ _))).mono ?_;rintro e W1 ⟨rfl,hb⟩;rw [hpl];have B1:Hid (Bz w W1):=((sqN _ _)).trans (hb.mono (by simp));have bA:Hid (Blk W1 w.heap.size #[.int .i64 7,.int .i64 nx,.string tx,.string mx,.slice p n cap,.slice q m cap'] 108):=(Blk.new (w:=w)).next hb;obtain ⟨xa0,xa1,xa2,xa3,xa4,xa5⟩:=sqB6 bA.out;clear hb;go_wp2_with fail;refine (h1 _ _ ks false (deep+1) (HT.out.below B1.out) (F0 _ B1.out) (by omega) (by omega)).mono ?_;rintro e w3 ⟨rfl,hb3⟩;have B3:=hid (B1.out.trans (hb3.mono B1.out.size));clear hb3;go_wp2;go_ret;exact ⟨by rfl,B3.out⟩
     . subst k4
       go_enter func126,ntmps126;go_wp2_with fail;refine (ZS _ _ _ _ _ _ _ _ _ _ _ hts hms hnb hmb (HT.out.below (BL.out _ _))).mono ?_;rintro e W1 ⟨rfl,hb⟩;rw [hpl];have B1:Hid (Bz w W1):=((sqN _ _)).trans (hb.mono (by simp));have bA:Hid (Blk W1 w.heap.size #[.int .i64 8,.int .i64 nx,.string tx,.string mx,.slice p n cap,.slice q m cap'] 108):=(Blk.new (w:=w)).next hb;obtain ⟨xa0,xa1,xa2,xa3,xa4,xa5⟩:=sqB6 bA.out;clear hb;go_wp2_with fail;refine (h1 _ _ ks false (deep+1) (HT.out.below B1.out) (F0 _ B1.out) (by omega) (by omega)).mono ?_;rintro e w3 ⟨rfl,hb3⟩;have B3:=hid (B1.out.trans (hb3.mono B1.out.size));clear hb3;go_wp2;go_ret;exact ⟨by rfl,B3.out⟩
   by_cases k9:kx=9
   . subst k9
     have hn2:n=2:=by
      have a1:ZG 9=2:=(by decide);have a2:ZH 9=2:=(by decide);omega
     subst hn2
     obtain ⟨xa,xb,hks⟩:∃ a b,ks = [a,b]:=by
      have h3:=HN.out
      match ks,h3 with
      | [a,b],_=>exact ⟨a,b,rfl⟩
     have HV:Hid ((true && (Zaz (λy q=>exOk d y q (40 - (deep+1))) ks (false || decide ((9:Int)=9)) false && cl.all (λc=>clB (λy q=>exOk d y q (40 - (deep+1))) c 1)))=(exOk d xa true (40 - (deep+1)) && exOk d xb false (40 - (deep+1)))):=by
      show _=_;rw [nocl (by omega),hks];simp [Zaz]
     rw [HV.out];obtain ⟨g,off,rfl,-,hgl,hat⟩:=HX.out (by rw [hks];simp);obtain ⟨cs,-,hcs,ra⟩:=hat 0 xa (by rw [hks];rfl);obtain ⟨cs',-,hcs',rb⟩:=hat 1 xb (by rw [hks];rfl);obtain ⟨sk,sn,st,se,p1,n1,q1,p2,n2,q2,rfl⟩:=Zf8 ra;obtain ⟨tk,tn,tt,te,u1,m1,v1,u2,m2,v2,rfl⟩:=Zf8 rb;have EA:∀ w',Bz w w'->HEx w' All d [.int .i64 sk,.int .i64 sn,.string st,.string se,.slice p1 n1 q1,.slice p2 n2 q2] xa:=λw' hw=>ra.mono (sqO hw) sqj;have EB:∀ w',Bz w w'->HEx w' All d [.int .i64 tk,.int .i64 tn,.string tt,.string te,.slice u1 m1 v1,.slice u2 m2 v2] xb:=λw' hw=>rb.mono (sqO hw) sqj;have CA:∀ w',Bz w w'->∀ j,j<6->w'.cell? ⟨g,off+0 * 6+j,none⟩=_:=λw' hw j hj=>(hw.cell (p:=⟨g,off+0 * 6+j,none⟩) hgl).trans (hcs j hj);have CB:∀ w',Bz w w'->∀ j,j<6->w'.cell? ⟨g,off+1 * 6+j,none⟩=_:=λw' hw j hj=>(hw.cell (p:=⟨g,off+1 * 6+j,none⟩) hgl).trans (hcs' j hj);clear nocl hat hcs hcs' ra rb g0 g1 g2 g3;have HCA:=hid CA;have HCB:=hid CB;clear CA CB hks;generalize hca:exOk d xa true (40 - (deep+1))=ca;have HCV:=hid hca;clear hca
     cases ca with
     | false =>
      go_enter func126,ntmps126;go_wp2_with fail;refine (ZS _ _ _ _ _ _ _ _ _ _ _ hts hms hnb hmb (HT.out.below (BL.out _ _))).mono ?_;rintro e W1 ⟨rfl,hb⟩;rw [hpl];have B1:Hid (Bz w W1):=((sqN _ _)).trans (hb.mono (by simp));have bA:Hid (Blk W1 w.heap.size #[.int .i64 9,.int .i64 nx,.string tx,.string mx,.slice (some ⟨g,off,none⟩) 2 cap,.slice q m cap'] 108):=(Blk.new (w:=w)).next hb;obtain ⟨xa0,xa1,xa2,xa3,xa4,xa5⟩:=sqB6 bA.out;clear hb;have ya0:=HCA.out _ B1.out 0 (by omega);have ya1:=HCA.out _ B1.out 1 (by omega);have ya2:=HCA.out _ B1.out 2 (by omega);have ya3:=HCA.out _ B1.out 3 (by omega);have ya4:=HCA.out _ B1.out 4 (by omega);have ya5:=HCA.out _ B1.out 5 (by omega);simp at ya0 ya1 ya2 ya3 ya4 ya5;go_wp2_with fail;refine (h0 _ _ xa true (deep+1) (HT.out.below B1.out) (EA _ B1.out) (by omega) (by omega)).mono ?_;rintro e w3 ⟨rfl,hb3⟩;rw [HCV.out];have B3:=hid (B1.out.trans (hb3.mono B1.out.size));clear hb3;go_wp2;go_ret;exact ⟨by simp,B3.out⟩
     | true =>
      go_enter func126,ntmps126;go_wp2_with fail;refine (ZS _ _ _ _ _ _ _ _ _ _ _ hts hms hnb hmb (HT.out.below (BL.out _ _))).mono ?_;rintro e W1 ⟨rfl,hb⟩;rw [hpl];have B1:Hid (Bz w W1):=((sqN _ _)).trans (hb.mono (by simp));have bA:Hid (Blk W1 w.heap.size #[.int .i64 9,.int .i64 nx,.string tx,.string mx,.slice (some ⟨g,off,none⟩) 2 cap,.slice q m cap'] 108):=(Blk.new (w:=w)).next hb;obtain ⟨xa0,xa1,xa2,xa3,xa4,xa5⟩:=sqB6 bA.out;clear hb;have ya0:=HCA.out _ B1.out 0 (by omega);have ya1:=HCA.out _ B1.out 1 (by omega);have ya2:=HCA.out _ B1.out 2 (by omega);have ya3:=HCA.out _ B1.out 3 (by omega);have ya4:=HCA.out _ B1.out 4 (by omega);have ya5:=HCA.out _ B1.out 5 (by omega);simp at ya0 ya1 ya2 ya3 ya4 ya5;go_wp2_with fail;refine (h0 _ _ xa true (deep+1) (HT.out.below B1.out) (EA _ B1.out) (by omega) (by omega)).mono ?_;rintro e w3 ⟨rfl,hb3⟩;rw [HCV.out];have B3:=hid (B1.out.trans (hb3.mono B1.out.size));have hbk:=bA.out.next hb3;clear xa0 xa1 xa2 xa3 xa4 xa5 ya0 ya1 ya2 ya3 ya4 ya5;have xa4:=hbk.cell 4 _ rfl;have yb0:=HCB.out _ B3.out 0 (by omega);have yb1:=HCB.out _ B3.out 1 (by omega);have yb2:=HCB.out _ B3.out 2 (by omega);have yb3:=HCB.out _ B3.out 3 (by omega);have yb4:=HCB.out _ B3.out 4 (by omega);have yb5:=HCB.out _ B3.out 5 (by omega);simp at yb0 yb1 yb2 yb3 yb4 yb5;clear hb3 hbk;go_wp2_with fail;refine (h0 _ _ xb false (deep+1) (HT.out.below B3.out) (EB _ B3.out) (by omega) (by omega)).mono ?_;rintro e w4 ⟨rfl,hb4⟩;have B4:=hid (B3.out.trans (hb4.mono B3.out.size));clear hb4;go_wp2;go_ret;exact ⟨by simp,B4.out⟩
   obtain rfl:kx=10:=by omega
   have HV:Hid ((true && (Zaz (λy q=>exOk d y q (40 - (deep+1))) ks (false || decide ((10:Int)=9)) false && cl.all (λc=>clB (λy q=>exOk d y q (40 - (deep+1))) c 1)))=(ks.all (λy=>exOk d y false (40 - (deep+1))) && cl.all (λc=>clB (λy q=>exOk d y q (40 - (deep+1))) c 1))):=by
    show _=_;have e9:(false || decide ((10:Int)=9))=false:=(by decide);rw [e9,ZcY,Bool.true_and]
   clear nocl g0 g1 g2 g3;rw [HV.out]
   cases hca:ks.all (λy=>exOk d y false (40 - (deep+1))) with
   | false =>
    go_enter func126,ntmps126;go_wp2_with fail;refine (ZS _ _ _ _ _ _ _ _ _ _ _ hts hms hnb hmb (HT.out.below (BL.out _ _))).mono ?_;rintro e W1 ⟨rfl,hb⟩;rw [hpl];have B1:Hid (Bz w W1):=((sqN _ _)).trans (hb.mono (by simp));have bA:Hid (Blk W1 w.heap.size #[.int .i64 10,.int .i64 nx,.string tx,.string mx,.slice p n cap,.slice q m cap'] 108):=(Blk.new (w:=w)).next hb;obtain ⟨xa0,xa1,xa2,xa3,xa4,xa5⟩:=sqB6 bA.out;clear hb;go_wp2_with fail;refine (h1 _ _ ks false (deep+1) (HT.out.below B1.out) (F0 _ B1.out) (by omega) (by omega)).mono ?_;rintro e w3 ⟨rfl,hb3⟩;rw [hca];have B3:=hid (B1.out.trans (hb3.mono B1.out.size));clear hb3;go_wp2;go_ret;exact ⟨by simp,B3.out⟩
   | true =>
    go_enter func126,ntmps126;go_wp2_with fail;refine (ZS _ _ _ _ _ _ _ _ _ _ _ hts hms hnb hmb (HT.out.below (BL.out _ _))).mono ?_;rintro e W1 ⟨rfl,hb⟩;rw [hpl];have B1:Hid (Bz w W1):=((sqN _ _)).trans (hb.mono (by simp));have bA:Hid (Blk W1 w.heap.size #[.int .i64 10,.int .i64 nx,.string tx,.string mx,.slice p n cap,.slice q m cap'] 108):=(Blk.new (w:=w)).next hb;obtain ⟨xa0,xa1,xa2,xa3,xa4,xa5⟩:=sqB6 bA.out;clear hb;go_wp2_with fail;refine (h1 _ _ ks false (deep+1) (HT.out.below B1.out) (F0 _ B1.out) (by omega) (by omega)).mono ?_;rintro e w3 ⟨rfl,hb3⟩;rw [hca];have B3:=hid (B1.out.trans (hb3.mono B1.out.size));have hbk:=bA.out.next hb3;clear xa0 xa1 xa2 xa3 xa4 xa5;have xa5:=hbk.cell 5 _ rfl;clear hb3 hbk;go_wp2_with fail;refine (h2 _ _ cl (deep+1) (HT.out.below B3.out) (F1 _ B3.out) (by omega) (by omega)).mono ?_;rintro e w4 ⟨rfl,hb4⟩;have B4:=hid (B3.out.trans (hb4.mono B3.out.size));clear hb4;go_wp2;go_ret;exact ⟨by simp,B4.out⟩
theorem Zdz:∀ d,XpC d
 | 0=>λw cs x pat deep _ h _ _=>h.elim
 | d+1=>ZjX (Zdz d) (ZeW (Zdz d)) (Zh4 (Zeq (ZeW (Zdz d))))
theorem Zf9 (d:Nat):KcC d:=Zeq (ZeW (Zdz d))
theorem Zeu (w:World) (g cap:Nat) (ss:List ByteArray) (s:ByteArray) (hl:ss.length<=1000) (h:∀ i x,ss[i]?=some x->w.cell? ⟨g,i,none⟩=some (.string x)) :
 Calls prog 56 #[.slice (some ⟨g,0,none⟩) ss.length cap,.string s] w λe w'=>e=.returned (.bool (ss.any λx=>x.toList == s.toList))/\w'=w:=by
 have HH:=hid h;generalize hn:ss.length=n at *;have HN:=hid hn;clear h hn;go_enter func56,ntmps56;go_wp2
 go_loop [5] (λiv=>∃ k:Nat,k<=n/\iv=.int .i64 k/\Hid ((ss.take k).any (λx=>x.toList == s.toList)=false)) (λiv=>n - (intOf iv).toNat)
 case atStart=>exact ⟨0,Nat.zero_le _,rfl,by show _=_;simp⟩
 case round =>
  obtain ⟨k,hk,rfl,hno⟩:=hrel;by_cases hlt:k<n
  . obtain ⟨x,hxk⟩:=sqA (l:=ss) (k:=k) HN.out hlt
    have a0:=HH.out k x hxk;have hki:(k:Int)<(n:Int):=(by omega);have hk0:=sqI k
    cases hq:(x.toList == s.toList) with
    | true =>
     have HS:Hid ((ss.any λx=>x.toList == s.toList)=true):=ZhP _ ss k x hxk hq;go_wp2;go_ret;exact ⟨by rw [HS.out];rfl,rfl⟩
    | false =>
     have HS:Hid ((ss.take (k+1)).any (λx=>x.toList == s.toList)=false):=ZdM _ ss k x hxk hno.out hq;go_wp2
     go_round
     case rel=>exact ⟨k+1,by omega,by go_num,HS⟩
     case measure=>simp [intOf];omega
  . have HS:Hid ((ss.any λx=>x.toList == s.toList)=false):=by
     have:=hno.out
     rwa [List.take_of_length_le (by rw [HN.out];omega)] at this
    go_wp2;go_ret;exact ⟨by rw [HS.out];rfl,rfl⟩
def opsL:List ByteArray:=[⟨#[61,61]⟩,⟨#[60]⟩,⟨#[43]⟩,⟨#[45]⟩,⟨#[42]⟩]
theorem ZgM (t:ByteArray):(opsL.any λx=>x.toList == t.toList)=opB t:=by
 have h:∀ l:List UInt8,(l == t.toList)=(t.toList == l):=λl=>by rw [Bool.eq_iff_iff];simp;exact eq_comm
 have e0:(⟨#[61,61]⟩:ByteArray).toList = [61,61]:=(by rw [ByteArray.toList_eq]);have e1:(⟨#[60]⟩:ByteArray).toList = [60]:=(by rw [ByteArray.toList_eq]);have e2:(⟨#[43]⟩:ByteArray).toList = [43]:=(by rw [ByteArray.toList_eq]);have e3:(⟨#[45]⟩:ByteArray).toList = [45]:=(by rw [ByteArray.toList_eq]);have e4:(⟨#[42]⟩:ByteArray).toList = [42]:=(by rw [ByteArray.toList_eq]);simp only [opsL,List.any_cons,List.any_nil,Bool.or_false,opB,e0,e1,e2,e3,e4,h,Bool.or_assoc]
end
end Go.Proofs.YtacioihbhkcdcaaGreatDoor
