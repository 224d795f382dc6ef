/-
  NameMath6
-/
import Derived.Test.YtbdhpganbbandaaGreatDoorP17
import Derived.Test.YtbdhpganbbandaaGreatDoorP11
set_option maxHeartbeats 16000000
set_option linter.unusedVariables false
set_option maxRecDepth 100000
namespace Go.Proofs.YtbdhpganbbandaaGreatDoor
open Go.ChangeShapes Go.WideShapes Go.ChangeAt Go.RowKit
def stepS (d:Nat) (x:Ex) (S:List UInt8->Prop):List UInt8->Prop:=λz=>inK z (freeV d x [])\/(S z/\¬ inK z (bndV d x))
theorem stepS_list (d:Nat) (S:List UInt8->Prop) (z:List UInt8):∀ (ks:List Ex),ks.foldr (stepS d) S z ↔ inK z (listV (freeV d) (bndV d) [] ks)\/(S z/\¬ ∃ y ∈ ks,inK z (bndV d y))
 | []=>by
  have:=inK_nil (z:=z);simp [listV_nil,this]
 | x :: xs=>by
  have ih:=stepS_list d S z xs;rw [List.foldr_cons,listV_back (bndV d) (freeV_takes d)];unfold stepS at ih ⊢;rw [ih];simp only [List.mem_cons,exists_eq_or_imp,not_or]
  by_cases a:inK z (freeV d x []) <;> by_cases b:inK z (bndV d x) <;> simp [a,b]
theorem bndV_two' (d:Nat) (n:Int) (t m:ByteArray) (a b:Ex) (cs:List Cl):bndV (d+1) (.mk 9 n t m [a,b] cs)=onceS (bndV d b) (patV d a):=rfl
theorem bndV_else' (d:Nat) (k n:Int) (t m:ByteArray) (ks:List Ex) (cs:List Cl) (h9:¬ (k=9/\ks.length=2)):bndV (d+1) (.mk k n t m ks cs)=foldV (bndV d) [] ks:=by
 conv=>lhs;unfold bndV
 split
 . simp at h9
 . rfl
theorem exOk_parts {d:Nat} {k n:Int} {t m:ByteArray} {ks:List Ex} {cs:List Cl} {pat:Bool} {deep:Int} (h:exOk (d+1) (.mk k n t m ks cs) pat deep=true) :
 (k≠10->cs = [])/\(k=2->ks = [])/\(k=9->∃ a b,ks = [a,b]/\exOk d a true (deep - 1)=true/\∃ p,exOk d b p (deep - 1)=true)/\(pat=true->k<=6) /\
 (∀ y ∈ ks,∃ p,(pat=true->p=true)/\exOk d y p (deep - 1)=true)/\(∀ c ∈ cs,(∀ y ∈ c.1,exOk d y true (deep - 1)=true)/\∀ y ∈ c.2,exOk d y false (deep - 1)=true):=by
 rw [exOk_eq] at h;simp only [Bool.and_eq_true,decide_eq_true_eq] at h;obtain ⟨h0,hp,hpat,hk,hc⟩:=h;unfold plainB at hp;simp only [Bool.and_eq_true] at hp;obtain ⟨hr,-,-,-,hnk,hnc⟩:=hp;simp [inB] at hr hnk hnc
 have hkid:∀ y ∈ ks,∃ p,(pat=true->p=true)/\exOk d y p (deep - 1)=true:=by
  cases ks with
  | nil=>simp
  | cons x xs =>
   simp only [kidsB,Bool.and_eq_true,List.all_eq_true] at hk;intro y hy
   rcases List.mem_cons.1 hy with rfl | hy
   . exact ⟨_,λe=>by rw [e];rfl,hk.1⟩
   . exact ⟨_,λe=>e,hk.2 y hy⟩
 refine ⟨λh=>?_,λh=>?_,λh=>?_,λh=>?_,hkid,λc hcs=>?_⟩
 . have:clsHi k=0:=by unfold clsHi;rw [if_neg h]
   rw [this] at hnc;exact List.length_eq_zero_iff.1 (by omega)
 . subst h
   have:kidHi 2=0:=rfl;rw [this] at hnk;exact List.length_eq_zero_iff.1 (by omega)
 . subst h
   have h1:kidHi 9=2:=rfl;have h2:kidLo 9=2:=rfl;rw [h1,h2] at hnk
   obtain ⟨a,b,rfl⟩:∃ a b,ks = [a,b]:=by
    have hl:ks.length=2:=by omega
    match ks,hl with
    | [a,b],_=>exact ⟨a,b,rfl⟩
   refine ⟨a,b,rfl,?_,?_⟩
   . simp only [kidsB,Bool.and_eq_true] at hk
     have:=hk.1
     simpa using this
   . obtain ⟨p,-,hb⟩:=hkid b (by simp)
     exact ⟨p,hb⟩
 . subst h
   simpa [patB] using hpat
 . rw [List.all_eq_true] at hc
   have:=hc c hcs;unfold clB at this;simp only [Bool.and_eq_true,List.all_eq_true] at this;exact ⟨this.2.2.1,this.2.2.2⟩
theorem pat_vars:∀ (d:Nat) (x:Ex) (deep:Int),exOk d x true deep=true->∀ z,z ∈ varL d x ↔ inK z (patV d x)
 | 0,_,_,h,_=>by simp [exOk] at h
 | d+1,.mk k n t m ks cs,deep,h,z=>by
  obtain ⟨h1,h2,h3,h4,h5,h6⟩:=exOk_parts h;have hk:=h4 rfl;have hcs:cs = []:=h1 (by omega);subst hcs;have hv:varL (d+1) (.mk k n t m ks [])=(if k=2 then [keyS t] else []) ++ (ks.flatMap (varL d) ++ []):=rfl;have hp:patV (d+1) (.mk k n t m ks [])=foldV (patV d) (if k=2 then [t] else []) ks:=rfl;rw [hv,hp,inK_fold,List.append_nil,List.mem_append,List.mem_flatMap]
  have ih:∀ y ∈ ks,(z ∈ varL d y ↔ inK z (patV d y)):=λy hy=>by
   obtain ⟨p,e,hy'⟩:=h5 y hy;rw [e rfl] at hy';exact pat_vars d y _ hy' z
  have e1:(∃ a,a ∈ ks/\z ∈ varL d a) ↔ ∃ y,y ∈ ks/\inK z (patV d y):=by
   constructor
   . rintro ⟨y,hy,h⟩;exact ⟨y,hy,(ih y hy).1 h⟩
   . rintro ⟨y,hy,h⟩;exact ⟨y,hy,(ih y hy).2 h⟩
  rw [e1];by_cases hk2:k=2
  . simp [hk2,inK]
  . simp [hk2,inK]
theorem clause_step (d:Nat) (c:Cl) (deep:Int) (hp:∀ y ∈ c.1,exOk d y true deep=true) (z:List UInt8) :
 (c.2.foldr (stepS d) (λ_=>False) z/\z ∉ c.1.flatMap (varL d)) ↔ inK z (listV (freeV d) (bndV d) (foldV (patV d) [] c.1) c.2):=by
 rw [stepS_list,clause_in]
 have e1:z ∈ c.1.flatMap (varL d) ↔ ∃ y ∈ c.1,inK z (patV d y):=by
  rw [List.mem_flatMap]
  constructor
  . rintro ⟨y,hy,h⟩;exact ⟨y,hy,(pat_vars d y deep (hp y hy) z).1 h⟩
  . rintro ⟨y,hy,h⟩;exact ⟨y,hy,(pat_vars d y deep (hp y hy) z).2 h⟩
 rw [e1];simp
theorem step_var (d:Nat) (n:Int) (t m:ByteArray) (cs:List Cl) (S:List UInt8->Prop) (z:List UInt8):(S z\/z=t.data.toList) ↔ stepS (d+1) (.mk 2 n t m [] cs) S z:=by
 unfold stepS;rw [freeV_var,bndV_else' _ _ _ _ _ _ _ (by simp)];have h0:hasS [] t=false:=rfl
 have h1:inK z [t] ↔ z=t.data.toList:=by
  unfold inK;simp [keyS,ByteArray.toList_eq]
 have h2:¬ inK z (foldV (bndV d) [] []):=inK_nil;rw [h0];simp only [Bool.false_eq_true,if_false,h1,h2,not_false_eq_true,and_true];exact Or.comm
theorem step_two (d:Nat) (n:Int) (t m:ByteArray) (a b:Ex) (cs:List Cl) (deep:Int) (ha:exOk d a true deep=true) (S:List UInt8->Prop) (z:List UInt8) :
 stepS d b (λz=>S z/\z ∉ varL d a) z ↔ stepS (d+1) (.mk 9 n t m [a,b] cs) S z:=by
 unfold stepS;have hp:=pat_vars d a deep ha z;rw [freeV_two,bndV_two',inK_once];show _\/((S z/\¬ z ∈ varL d a)/\_) ↔ _;rw [hp];simp only [not_or]
 constructor
 . rintro (h | ⟨⟨h1,h2⟩,h3⟩)
   . exact .inl h
   . exact .inr ⟨h1,h3,h2⟩
 . rintro (h | ⟨h1,h2,h3⟩)
   . exact .inl h
   . exact .inr ⟨⟨h1,h3⟩,h2⟩
theorem step_else (d:Nat) (k n:Int) (t m:ByteArray) (ks:List Ex) (cs:List Cl) (h2:k≠2) (h9:¬ (k=9/\ks.length=2)) (S:List UInt8->Prop) (z:List UInt8) :
 ks.foldr (stepS d) (λz=>S z\/∃ c ∈ cs,inK z (listV (freeV d) (bndV d) (foldV (patV d) [] c.1) c.2)) z ↔ stepS (d+1) (.mk k n t m ks cs) S z:=by
 have e:=freeV_back d k n t m ks cs h2 h9 z;rw [stepS_list];unfold stepS;rw [e,bndV_else' d k n t m ks cs h9,inK_fold];have:=inK_nil (z:=z);simp only [this,false_or]
 constructor
 . rintro (h | ⟨h | h,h'⟩)
   . exact .inl (.inl h)
   . exact .inr ⟨h,h'⟩
   . exact .inl (.inr ⟨h,h'⟩)
 . rintro ((h | ⟨h,h'⟩) | ⟨h,h'⟩)
   . exact .inl h
   . exact .inr ⟨.inr h,h'⟩
   . exact .inr ⟨.inl h,h'⟩
end Go.Proofs.YtbdhpganbbandaaGreatDoor
