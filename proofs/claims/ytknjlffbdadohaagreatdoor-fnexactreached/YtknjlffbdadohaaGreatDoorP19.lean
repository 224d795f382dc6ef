/-
  NameMath5 RefRow
-/
import Derived.Test.YtknjlffbdadohaaGreatDoorP18
import Derived.Test.YtknjlffbdadohaaGreatDoorP13
set_option maxHeartbeats 16000000
set_option linter.unusedVariables false
set_option maxRecDepth 100000
namespace Go.Proofs.YtknjlffbdadohaaGreatDoor
open Go.ChangeShapes Go.WideShapes Go.ChangeAt Go.RowKit
def inK (z:List UInt8) (l:List ByteArray):Prop:=z ∈ l.map keyS
theorem inK_nil {z:List UInt8}:¬ inK z []:=by simp [inK]
theorem inK_once {z:List UInt8} {l ys:List ByteArray}:inK z (onceS l ys) ↔ inK z l\/inK z ys:=by
 constructor
 . intro h
   obtain ⟨s,hs,rfl⟩:=List.mem_map.1 h
   rcases onceS_mem l ys s hs with h | h
   . exact .inl (List.mem_map.2 ⟨s,h,rfl⟩)
   . exact .inr (List.mem_map.2 ⟨s,h,rfl⟩)
 . rintro (h | h)
   . exact onceS_left _ _ _ h
   . exact onceS_right _ _ _ h
theorem inK_fold {α:Type} {z:List UInt8} (f:α->List ByteArray):∀ (ks:List α) (l:List ByteArray),inK z (foldV f l ks) ↔ inK z l\/∃ y ∈ ks,inK z (f y)
 | [],l=>by simp [foldV]
 | y :: ys,l=>by
  have h:=inK_fold (z:=z) f ys (onceS l (f y));have e:foldV f l (y :: ys)=foldV f (onceS l (f y)) ys:=rfl;rw [e,h,inK_once];simp only [List.mem_cons,exists_eq_or_imp,or_assoc]
theorem runL_in (f:Ex->List ByteArray->List ByteArray) (bn:Ex->List ByteArray) {z:List UInt8}:∀ (ks:List Ex) (o B:List ByteArray),inK z (ks.foldl (stepL f bn) (o,B)).1 ↔ inK z o\/inK z (listV f bn B ks)
 | [],o,B=>by simp [listV,inK]
 | x :: xs,o,B=>by
  have h1:=runL_in f bn (z:=z) xs (onceS o (f x B)) (onceS B (bn x));have h2:=runL_in f bn (z:=z) xs (onceS [] (f x B)) (onceS B (bn x));have e1:(x :: xs).foldl (stepL f bn) (o,B)=xs.foldl (stepL f bn) (onceS o (f x B),onceS B (bn x)):=rfl;have e2:listV f bn B (x :: xs)=(xs.foldl (stepL f bn) (onceS [] (f x B),onceS B (bn x))).1:=rfl;rw [e1,e2,h1,h2,inK_once,inK_once];have:=inK_nil (z:=z);simp only [this,false_or,or_assoc]
theorem listV_cons (f:Ex->List ByteArray->List ByteArray) (bn:Ex->List ByteArray) {z:List UInt8} (B:List ByteArray) (x:Ex) (xs:List Ex):inK z (listV f bn B (x :: xs)) ↔ inK z (f x B)\/inK z (listV f bn (onceS B (bn x)) xs):=by
 have h:=runL_in f bn (z:=z) xs (onceS [] (f x B)) (onceS B (bn x));have e:listV f bn B (x :: xs)=(xs.foldl (stepL f bn) (onceS [] (f x B),onceS B (bn x))).1:=rfl;rw [e,h,inK_once];have:=inK_nil (z:=z);simp only [this,false_or]
def Takes (f:Ex->List ByteArray->List ByteArray):Prop:=∀ x B z,inK z (f x B) ↔ inK z (f x [])/\¬ inK z B
theorem listV_takes {f:Ex->List ByteArray->List ByteArray} (bn:Ex->List ByteArray) (hf:Takes f) {z:List UInt8}:∀ (ks:List Ex) (B:List ByteArray),inK z (listV f bn B ks) ↔ inK z (listV f bn [] ks)/\¬ inK z B
 | [],B=>by simp [listV,inK]
 | x :: xs,B=>by
  have h1:=listV_takes bn hf (z:=z) xs (onceS B (bn x));have h2:=listV_takes bn hf (z:=z) xs (onceS [] (bn x));have h3:=hf x B z;have:=inK_nil (z:=z);rw [listV_cons,listV_cons,h1,h2,h3,inK_once,inK_once];simp only [this,false_or]
  by_cases a:inK z (f x []) <;> by_cases b:inK z B <;> by_cases c:inK z (bn x) <;> simp [a,b,c]
theorem listV_back {f:Ex->List ByteArray->List ByteArray} (bn:Ex->List ByteArray) (hf:Takes f) {z:List UInt8} (x:Ex) (xs:List Ex):inK z (listV f bn [] (x :: xs)) ↔ inK z (f x [])\/(inK z (listV f bn [] xs)/\¬ inK z (bn x)):=by
 have h:=listV_takes bn hf (z:=z) xs (onceS [] (bn x));rw [listV_cons,h,inK_once];have:=inK_nil (z:=z);simp only [this,false_or]
theorem clF_in (f:Ex->List ByteArray->List ByteArray) (bn pt:Ex->List ByteArray) (B:List ByteArray) {z:List UInt8}:∀ (cs:List Cl) (l:List ByteArray),inK z (cs.foldl (clF f bn pt B) l) ↔ inK z l\/∃ c ∈ cs,inK z (listV f bn (foldV pt B c.1) c.2)
 | [],l=>by simp
 | c :: cs,l=>by
  have h:=clF_in f bn pt B (z:=z) cs (clF f bn pt B l c);rw [List.foldl_cons,h];unfold clF;rw [inK_once];simp only [List.mem_cons,exists_eq_or_imp,or_assoc]
theorem hasS_in {B:List ByteArray} {t:ByteArray}:hasS B t=true ↔ inK (keyS t) B:=hasS_mem B t
theorem freeV_takes:∀ d,Takes (freeV d)
 | 0,x,B,z=>by simp [freeV,inK]
 | d+1,.mk k n t m ks cs,B,z=>by
  have ih:=freeV_takes d;by_cases h2:k=2
  . subst h2
    rw [freeV_var,freeV_var];have h0:hasS [] t=false:=rfl;rw [h0];by_cases hb:hasS B t=true
    . have hb':=hasS_in.1 hb
      simp only [hb,if_true,Bool.false_eq_true,if_false]
      constructor
      . intro h;exact absurd h inK_nil
      . rintro ⟨h,h'⟩
        have:z=keyS t:=(by simpa [inK] using h);subst this;exact absurd hb' h'
    . have hb':¬ inK (keyS t) B:=λh=>hb (hasS_in.2 h)
      simp only [hb,Bool.false_eq_true,if_false]
      constructor
      . intro h
        have:z=keyS t:=(by simpa [inK] using h);subst this;exact ⟨h,hb'⟩
      . exact λh=>h.1
  . by_cases h9:k=9/\ks.length=2
    . obtain ⟨rfl,hl⟩:=h9
      match ks,hl with
      | [a,b],_=>rw [freeV_two,freeV_two];exact ih b B z
    . rw [freeV_else d k n t m ks cs B h2 h9,freeV_else d k n t m ks cs [] h2 h9,clF_in,clF_in,listV_takes (bndV d) ih ks B]
      have hc:∀ (B:List ByteArray) (c:Cl),inK z (listV (freeV d) (bndV d) (foldV (patV d) (foldV (bndV d) B ks) c.1) c.2) ↔ inK z (listV (freeV d) (bndV d) [] c.2)/\¬ (inK z B\/(∃ y ∈ ks,inK z (bndV d y))\/∃ y ∈ c.1,inK z (patV d y)):=λB c=>by
       rw [listV_takes (bndV d) ih,inK_fold,inK_fold,or_assoc]
      simp only [hc];have:=inK_nil (z:=z);simp only [this,false_or]
      constructor
      . rintro (⟨h,h'⟩ | ⟨c,hc,h,h'⟩)
        . exact ⟨.inl h,h'⟩
        . exact ⟨.inr ⟨c,hc,h,λe=>h' (.inr e)⟩,λe=>h' (.inl e)⟩
      . rintro ⟨h | ⟨c,hc,h,h'⟩,hb⟩
        . exact .inl ⟨h,hb⟩
        . refine .inr ⟨c,hc,h,λe=>?_⟩
          rcases e with e | e
          . exact hb e
          . exact h' e
theorem clause_in (d:Nat) (c:Cl) (z:List UInt8):inK z (listV (freeV d) (bndV d) (foldV (patV d) [] c.1) c.2) ↔ inK z (listV (freeV d) (bndV d) [] c.2)/\¬ ∃ y ∈ c.1,inK z (patV d y):=by
 rw [listV_takes (bndV d) (freeV_takes d),inK_fold];have:=inK_nil (z:=z);simp only [this,false_or]
theorem freeV_back (d:Nat) (k n:Int) (t m:ByteArray) (ks:List Ex) (cs:List Cl) (h2:k≠2) (h9:¬ (k=9/\ks.length=2)) (z:List UInt8) :
 inK z (freeV (d+1) (.mk k n t m ks cs) []) ↔ inK z (listV (freeV d) (bndV d) [] ks)\/((∃ c ∈ cs,inK z (listV (freeV d) (bndV d) (foldV (patV d) [] c.1) c.2))/\¬ ∃ y ∈ ks,inK z (bndV d y)):=by
 rw [freeV_else d k n t m ks cs [] h2 h9,clF_in];simp only [listV_takes (bndV d) (freeV_takes d) _ (foldV _ _ _),inK_fold];have:=inK_nil (z:=z);simp only [this,false_or]
 constructor
 . rintro (h | ⟨c,hc,h,h'⟩)
   . exact .inl h
   . exact .inr ⟨⟨c,hc,h,λe=>h' (.inr e)⟩,λe=>h' (.inl e)⟩
 . rintro (h | ⟨⟨c,hc,h,h'⟩,hb⟩)
   . exact .inl h
   . refine .inr ⟨c,hc,h,λe=>?_⟩
     rcases e with e | e
     . exact hb e
     . exact h' e
def refs (l:List Rf):List Value:=l.flatMap λr=>[.string r.name,.int .i64 r.arity]
theorem refs_append (a b:List Rf):refs (a ++ b)=refs a ++ refs b:=by simp [refs]
theorem refs_at:∀ (l:List Rf) (i:Nat) (r:Rf),l[i]?=some r->∀ j,j<2->(refs l)[i * 2+j]? = [Value.string r.name,.int .i64 r.arity][j]?
 | [],i,r,h,_,_=>by simp at h
 | x :: xs,0,r,h,j,hj=>by
  simp at h;subst h;have e:refs (x :: xs) = [.string x.name,.int .i64 x.arity] ++ refs xs:=rfl;rw [e,Nat.zero_mul,Nat.zero_add,List.getElem?_append_left (by simpa using hj)]
 | x :: xs,i+1,r,h,j,hj=>by
  have e:refs (x :: xs) = [.string x.name,.int .i64 x.arity] ++ refs xs:=rfl;simp at h;rw [e,List.getElem?_append_right (by simp;omega),<-refs_at xs i r h j hj]
  congr 1
  simp;omega
theorem refs_oneCell (l:List Rf):∀ u ∈ refs l,u.oneCell'=true:=by
 intro u hu;simp only [refs,List.mem_flatMap] at hu;obtain ⟨b,_,hu⟩:=hu;simp at hu
 rcases hu with rfl | rfl <;> rfl
theorem info_ref:(Tryz.prog.info? 45).map (λi=>(i.zero,i.size,i.bytes))=some (some (.agg #[.string ⟨#[]⟩,.int .i64 0]),2,24):=by kernel_rfl
def OwnR (w:World) (B:Nat) (v:Value) (l:List Rf):Prop:=w.ownsRow B 45 2 v l.length (refs l)/\B<=w.heap.size
theorem OwnR.next {w w':World} {B:Nat} {v:Value} {l:List Rf} (h:OwnR w B v l) (hb:Bz w w'):OwnR w' B v l:=by
 refine ⟨⟨h.1.1,?_⟩,Nat.le_trans h.2 hb.size⟩
 rcases h.1.2 with hn | ⟨g,cap,cur,hv,hB,hg,hr⟩
 . exact .inl hn
 . exact .inr ⟨g,cap,cur,hv,hB,(hb.block g (Array.getElem?_eq_some_iff.1 hg).1).trans hg,hr⟩
theorem OwnR.off {w:World} {B:Nat} {v:Value} {l:List Rf} (h:OwnR w B v l) {b:Nat} (hb:v.ownBlock=some b):B<=b/\b<w.heap.size:=by
 rcases h.1.2 with hn | ⟨g',cap',cur,hv',hB,hg,hr⟩
 . rw [hn.1] at hb;cases hb
 . rw [hv'] at hb
   simp [Value.ownBlock] at hb;subst hb;exact ⟨hB,(Array.getElem?_eq_some_iff.1 hg).1⟩
theorem OwnR.below {w w':World} {B:Nat} {v:Value} {l:List Rf} (h:OwnR w B v l) (hg:w.grownBy w' v.ownBlock):Below B w w' :=
 ⟨hg.os,hg.tape,hg.output,hg.size,λj hj=>hg.block j (by have:=h.2;omega) (λe=>by have:=(h.off e.symm).1;omega)⟩
theorem OwnR.of {w':World} {B n:Nat} {v:Value} {l m:List Rf} {xs:List Value} (h:w'.ownsRow B 45 2 v n xs) (hn:n=(l ++ m).length) (hx:xs=refs l ++ refs m) (hB:B<=w'.heap.size):OwnR w' B v (l ++ m):=by
 subst hn;subst hx;rw [<-refs_append] at h;exact ⟨h,hB⟩
theorem OwnR.base {w:World} {B B':Nat} {v:Value} {l:List Rf} (h:OwnR w B v l) (hB:B'<=B):OwnR w B' v l:=by
 refine ⟨⟨h.1.1,?_⟩,Nat.le_trans hB h.2⟩
 rcases h.1.2 with hn | ⟨g,cap,cur,hv,hb,hr⟩
 . exact .inl hn
 . exact .inr ⟨g,cap,cur,hv,Nat.le_trans hB hb,hr⟩
theorem OwnR.fresh {w:World}:OwnR (w.alloc (.cells #[] 45)) w.heap.size (.slice (some ⟨w.heap.size,0,none⟩) 0 0) []:=by
 refine ⟨⟨by simp [refs],.inr ⟨w.heap.size,0,#[],rfl,Nat.le_refl _,?_,Nat.le_refl _,Nat.zero_le _,rfl,rfl⟩⟩,by simp⟩;exact Blk.new (w:=w) (cs:=#[]) (t:=45)
theorem one_ref {w:World} {s:ByteArray} {n:Int}:∀ j u,(refs [⟨s,n⟩])[j]?=some u->(w.alloc (.cells #[.string s,.int .i64 n] 45)).cell? ((⟨w.heap.size,0,none⟩:Addr).add j)=some u:=by
 intro j u h;have hb:=Blk.new (w:=w) (cs:=#[.string s,.int .i64 n]) (t:=45);have e:refs [⟨s,n⟩] = [.string s,.int .i64 n]:=rfl;rw [e] at h
 match j,h with
 | 0,h=>simp at h;subst h;exact hb.cell 0 _ rfl
 | 1,h=>simp at h;subst h;exact hb.cell 1 _ rfl
 | j+2,h=>simp at h
def OwnT {α:Type} (O:World->Value->α->List Nat->Prop) (w:World) (B C:Nat) (v:Value) (x:α):Prop :=
 ∃ fp,O w v x fp/\fp.Nodup/\(∀ a ∈ fp,B<=a/\a<C)/\B<=C/\C<=w.heap.size
structure OffR (B C:Nat) (w w':World):Prop where
 os:w'.os=w.os
 tape:w'.tape=w.tape
 output:w'.output=w.output
 size:w.heap.size<=w'.heap.size
 block:∀ a,a<w.heap.size->(a<B\/C<=a)->w'.heap[a]?=w.heap[a]?
theorem OffR.of {B C:Nat} {fp:List Nat} {w w':World} (h:Off fp w w') (hr:∀ a ∈ fp,B<=a/\a<C):OffR B C w w' :=
 ⟨h.os,h.tape,h.output,h.size,λa ha hb=>h.block a ha (λhm=>by have:=hr a hm;omega)⟩
theorem OffR.below {B C N:Nat} {w w':World} (h:OffR B C w w') (hN:N<=B) (hs:N<=w.heap.size):Below N w w' :=
 ⟨h.os,h.tape,h.output,h.size,λa ha=>h.block a (by omega) (.inl (by omega))⟩
def ORs (w:World) (v:Value) (l:List Rf) (fp:List Nat):Prop:=ORows w 45 2 (ORf w 0) v l fp
theorem ORs.rows {w:World} {B C:Nat} {v:Value} {l:List Rf} (h:OwnT ORs w B C v l):Rows w All 2 HRf v l:=by
 obtain ⟨fp,h1,-⟩:=h;exact ORows.rows h1 (λ_ _=>trivial) (λcs x f _ hs h=>h.1)
theorem OwnR.tree {w:World} {B:Nat} {v:Value} {l:List Rf} (h:OwnR w B v l) (hl:∀ r ∈ l,okS r.name/\okI r.arity):OwnT ORs w B w.heap.size v l:=by
 obtain ⟨h,hB⟩:=h
 rcases h.2 with ⟨rfl,hn⟩ | ⟨g,cap,cur,rfl,hb,hg,h1,h2,h3,h4⟩
 . obtain rfl:=List.length_eq_zero_iff.1 hn
   exact ⟨[],.inl ⟨rfl,rfl,_,_,rfl,Nat.zero_le _⟩,by simp,λa ha=>by simp at ha,hB,Nat.le_refl _⟩
 . by_cases hne:l = []
   . subst hne
     exact ⟨[],.inl ⟨rfl,rfl,_,_,rfl,h2⟩,by simp,λa ha=>by simp at ha,hB,Nat.le_refl _⟩
   . have hgl:g<w.heap.size:=(Array.getElem?_eq_some_iff.1 hg).1
     refine ⟨[g],.inr ⟨hne,refs l,g,cap,l.map (λ_=>[]),⟨h.1,.inr ⟨g,cap,cur,rfl,Nat.zero_le _,hg,h1,h2,h3,h4⟩⟩,rfl,by simp,?_,λi x f hi hf=>?_⟩,by simp,λa ha=>?_,hB,Nat.le_refl _⟩
     . have:(l.map λ_=>([]:List Nat)).flatten = []:=by
        rw [List.flatten_eq_nil_iff];intro x hx;simp at hx;exact hx.2
       rw [this]
     . rw [List.getElem?_map,hi] at hf
       simp at hf;subst hf;exact ⟨_,rfl,λj hj=>refs_at l i x hi j hj,⟨rfl,hl x (List.mem_of_getElem? hi)⟩,rfl⟩
     . simp at ha;subst ha;exact ⟨hb,hgl⟩
end Go.Proofs.YtknjlffbdadohaaGreatDoor
