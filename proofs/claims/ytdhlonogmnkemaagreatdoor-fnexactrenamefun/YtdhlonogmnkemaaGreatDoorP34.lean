/-
  RfMath RfMem RfSpecB
-/
import Derived.Test.YtdhlonogmnkemaaGreatDoorP27
import Derived.Test.YtdhlonogmnkemaaGreatDoorP31
import Derived.Test.YtdhlonogmnkemaaGreatDoorP33
set_option maxHeartbeats 16000000
set_option linter.unusedVariables false
set_option maxRecDepth 100000
namespace Go.Proofs.YtdhlonogmnkemaaGreatDoor
open Go.ChangeShapes Go.WideShapes Go.ChangeAt Go.RowKit
theorem Zig {l rs:List Rf} (hs:l.Pairwise (λa b=>Zat b a=false)) (hp:l.Perm rs):Zdq rs=l:=by
 refine List.Perm.eq_of_pairwise (le:=λx y:Rf=>Zat y x=false) (λa b _ _ h1 h2=>totR a b h2 h1) ?_ hs ((List.mergeSort_perm rs _).trans hp.symm)
 have:=List.pairwise_mergeSort (le:=λx y:Rf=>!(ltOf ZbQ) y x) (λa b c h1 h2=>by
  simp only [Bool.not_eq_true'] at h1 h2 ⊢
  exact swoR.ntrans c b a h2 h1) (λa b=>by
  cases hab:ltOf ZbQ b a with
  | false=>simp
  | true=>simp [Go.Sort.SWO.asym swoR hab]) rs
 exact this.imp (fun {a b} h=>by have h':ltOf ZbQ b a=false:=(by simpa using h);exact h')
theorem ZbX {a b:Rf} (h:Zat a b=true):Zat b a=false:=Go.Sort.SWO.asym swoR h
theorem ZeR {a b c:Rf} (h:Zat a b=true) (k:Zat b c=true):Zat a c=true:=swoR.trans a b c h k
theorem Zli {a b:Rf} (h:Zat a b=true):a≠b:=λe=>by
 subst e;have:=swoR.irrefl a;rw [show ltOf ZbQ a a=Zat a a from rfl,h] at this
 cases this
theorem Zlj {es:List Rf} (h:rfsB es=true) {j:Nat} {b:Rf}:∀ {i:Nat} {a:Rf},i<j->es[i]?=some a->es[j]?=some b->Zat a b=true:=by
 intro i a hij hi hj
 have hall:∀ k,k<es.length->Zba es k=true:=by
  simp only [rfsB,List.all_eq_true] at h;exact λk hk=>h k (List.mem_range.2 hk)
 induction j generalizing b with
 | zero=>omega
 | succ j ih =>
  have hl:=(List.getElem?_eq_some_iff.1 hj).1;obtain ⟨c,hc⟩:∃ c,es[j]?=some c:=⟨es[j]'(by omega),List.getElem?_eq_getElem _⟩;have h1:=hall (j+1) hl;rw [ZdG (by omega) (by simpa using hc) hj,Bool.and_eq_true] at h1;by_cases hij':i=j
  . subst hij'
    obtain rfl:=Option.some.inj (hc.symm.trans hi);exact h1.2
  . exact ZeR (ih (by omega) hc) h1.2
theorem Zmi {es:List Rf} (h:rfsB es=true):es.Pairwise (λa b=>Zat a b=true):=by
 rw [List.pairwise_iff_getElem];intro i j hi hj hij;exact Zlj h hij (List.getElem?_eq_getElem hi) (List.getElem?_eq_getElem hj)
theorem Zbl {s:ByteArray} {n:Int} {x:Rf}:Z4 s n x=true ↔ x=⟨s,n⟩:=by
 obtain ⟨t,k⟩:=x;unfold Z4;simp only [Bool.and_eq_true,beq_iff_eq,Rf.mk.injEq]
 constructor
 . rintro ⟨h1,h2⟩
   exact ⟨Classical.byContradiction λe=>by have:=ZfC e;rw [h1] at this;simp at this,h2⟩
 . rintro ⟨rfl,rfl⟩;exact ⟨rfl,rfl⟩
theorem Zkb (old:Rf) (tv:ByteArray):Zbc old tv old=⟨tv,old.arity⟩:=by
 unfold Zbc renN;simp
theorem ZdU {old x:Rf} {tv:ByteArray} (h:x≠old):Zbc old tv x=x:=by
 unfold Zbc renN;have:¬ (x.name.toList == old.name.toList && x.arity == old.arity)=true:=λe=>h (Zbl.1 e);rw [if_neg this]
theorem Zg0 (r:Rf) (rs:List Rf):(putR r rs).Perm (r :: rs):=by
 unfold putR;refine List.perm_middle.trans ?_;rw [List.takeWhile_append_dropWhile]
theorem Zih {r:Rf}:∀ {rs:List Rf},rs.Pairwise (λa b=>Zat a b=true)->(putR r rs).Pairwise (λa b=>Zat b a=false)
 | [],_=>by simp [putR]
 | x :: rs,h=>by
  rw [List.pairwise_cons] at h
  cases hx:Zat x r with
  | true =>
   have ih:=Zih (r:=r) h.2;have e:putR r (x :: rs)=x :: putR r rs:=(by simp [putR,hx]);rw [e,List.pairwise_cons];refine ⟨λa ha=>?_,ih⟩
   rcases List.mem_cons.1 ((Zg0 r rs).mem_iff.1 ha) with rfl | ha
   . exact ZbX hx
   . exact ZbX (h.1 a ha)
  | false =>
   have e:putR r (x :: rs)=r :: x :: rs:=(by simp [putR,hx]);rw [e,List.pairwise_cons,List.pairwise_cons];refine ⟨λa ha=>?_,λa ha=>ZbX (h.1 a ha),h.2.imp ZbX⟩
   rcases List.mem_cons.1 ha with rfl | ha
   . exact hx
   . cases hb:Zat a r with
     | false=>rfl
     | true=>rw [ZeR (h.1 a ha) hb] at hx;cases hx
theorem Zii {old:Rf} {tv:ByteArray}:∀ {es:List Rf},es.Pairwise (λa b=>Zat a b=true)->old ∈ es->((⟨tv,old.arity⟩:Rf) :: dropR old es).Perm (es.map (Zbc old tv))
 | [],_,h=>by simp at h
 | x :: es,h,hm=>by
  rw [List.pairwise_cons] at h;by_cases hx:x=old
  . subst hx
    have hn:∀ y ∈ es,y≠x:=λy hy=>Ne.symm (Zli (h.1 y hy))
    have e1:dropR x (x :: es)=es:=by
     unfold dropR;rw [List.filter_cons];have:Z4 x.name x.arity x=true:=Zbl.2 rfl;simp only [this,Bool.not_true,Bool.false_eq_true,if_false];rw [List.filter_eq_self];intro y hy;simp only [Bool.not_eq_true']
     cases hs:Z4 x.name x.arity y with
     | false=>rfl
     | true=>exact absurd (Zbl.1 hs) (hn y hy)
    have e2:(x :: es).map (Zbc x tv)=⟨tv,x.arity⟩ :: es:=by
     rw [List.map_cons,Zkb]
     congr 1
     conv=>rhs;rw [<-List.map_id es]
     exact List.map_congr_left λy hy=>ZdU (hn y hy)
    rw [e1,e2]
  . have ho:old ∈ es:=by
     rcases List.mem_cons.1 hm with e | e
     . exact absurd e.symm hx
     . exact e
    have ih:=Zii (tv:=tv) h.2 ho
    have e1:dropR old (x :: es)=x :: dropR old es:=by
     unfold dropR;rw [List.filter_cons]
     have:Z4 old.name old.arity x=false:=by
      cases hs:Z4 old.name old.arity x with
      | false=>rfl
      | true=>exact absurd (Zbl.1 hs) hx
     simp [this]
    rw [e1,List.map_cons,ZdU hx];exact (List.Perm.swap _ _ _).trans (ih.cons x)
def expT (q:Pl) (tv:ByteArray) (m:Md):List Rf:=if hasX m q.name q.arity=true then putR ⟨tv,q.arity⟩ (dropR ⟨q.name,q.arity⟩ m.exports) else m.exports
theorem Zkc {q:Pl} {tv:ByteArray} {m:Md} (h:rfsB m.exports=true):expT q tv m=Zdq (m.exports.map (Zbc ⟨q.name,q.arity⟩ tv)):=by
 have ha:=Zmi h;unfold expT
 split
 . rename_i hx
   unfold hasX at hx;rw [List.any_eq_true] at hx;obtain ⟨x,hm,hs⟩:=hx;rw [Zbl] at hs;subst hs;refine (Zig ?_ ?_).symm
   . refine Zih ?_
     unfold dropR;exact ha.filter _
   . exact (Zg0 _ _).trans (Zii ha hm)
 . rename_i hx
   have e:m.exports.map (Zbc ⟨q.name,q.arity⟩ tv)=m.exports:=by
    conv=>rhs;rw [<-List.map_id m.exports]
    refine List.map_congr_left λy hy=>ZdU λe=>hx ?_;unfold hasX;rw [List.any_eq_true];exact ⟨y,hy,Zbl.2 e⟩
   rw [e];exact (Zig (ha.imp ZbX) (List.Perm.refl _)).symm
theorem ZeS {q:Pl} {near:Bool} {tv:ByteArray}:∀ (d:Nat) (x:Ex) (deep:Int),exOk d x true deep=true->mapX (fT (ftN q near tv)) d x=x
 | 0,_,_,h=>by simp [exOk] at h
 | d+1,.mk k n t m ks cs,deep,h=>by
  obtain ⟨h1,h2,h3,h4,h5,h6⟩:=Zbj h;have hk:=h4 rfl;have hcs:cs = []:=h1 (by omega);subst hcs
  have ek:ks.map (mapX (fT (ftN q near tv)) d)=ks:=by
   conv=>rhs;rw [<-List.map_id ks]
   refine List.map_congr_left λy hy=>?_;obtain ⟨p,e,hy'⟩:=h5 y hy;rw [e rfl] at hy';exact ZeS d y _ hy'
  rw [CpV.mapX_mk rfl,ek]
  have:ftN q near tv k t m ks.length=t:=by
   unfold ftN ZkS;rw [decide_eq_false (by omega:¬ k=8)]
   rfl
  rw [this]
  rfl
theorem ZeT {q:Pl} {near:Bool} {tv:ByteArray}:∀ (d:Nat) (x:Ex) (p:Bool) (deep:Int),exOk d x p deep=true->mapX (fT (ftN q near tv)) d x=mapY (fT (ftN q near tv)) d x
 | 0,_,_,_,h=>by simp [exOk] at h
 | d+1,.mk k n t m ks cs,p,deep,h=>by
  obtain ⟨h1,h2,h3,h4,h5,h6⟩:=Zbj h;rw [CpV.mapX_mk rfl,CpC.mapY_mk rfl]
  have ek:ks.map (mapX (fT (ftN q near tv)) d)=ks.map (mapY (fT (ftN q near tv)) d):=List.map_congr_left λy hy=>by
   obtain ⟨p,-,hy'⟩:=h5 y hy;exact ZeT d y p _ hy'
  have ec:cs.map (mapC (fT (ftN q near tv)) d)=cs.map (Zao (fT (ftN q near tv)) d):=List.map_congr_left λc hc=>by
   obtain ⟨hp,hb⟩:=h6 c hc;unfold mapC Zao
   have e1:c.1.map (mapX (fT (ftN q near tv)) d)=c.1:=by
    conv=>rhs;rw [<-List.map_id c.1]
    exact List.map_congr_left λy hy=>ZeS d y _ (hp y hy)
   have e2:c.2.map (mapX (fT (ftN q near tv)) d)=c.2.map (mapY (fT (ftN q near tv)) d):=List.map_congr_left λy hy=>ZeT d y _ _ (hb y hy);rw [e1,e2]
  rw [ek,ec]
theorem Zkd {q:Pl} {near:Bool} {tv:ByteArray} {d:Nat} {m:Md} (h:mdOk d m=true):allM (Zao (fT (ftN q near tv)) d) m=mapM (fT (ftN q near tv)) d m:=by
 have hc:=Zcs h;unfold allM mapM
 congr 1
 refine List.map_congr_left λf hf=>?_;unfold allF mapF
 congr 1
 refine List.map_congr_left λc hcm=>?_;obtain ⟨hp,hb⟩:=hc f hf c hcm;unfold mapC Zao
 have e1:c.1.map (mapX (fT (ftN q near tv)) d)=c.1:=by
  conv=>rhs;rw [<-List.map_id c.1]
  exact List.map_congr_left λy hy=>ZeS d y _ (hp y hy)
 have e2:c.2.map (mapX (fT (ftN q near tv)) d)=c.2.map (mapY (fT (ftN q near tv)) d):=List.map_congr_left λy hy=>ZeT d y _ _ (hb y hy);rw [e1,e2]
def newM (q:Pl) (tv:ByteArray) (m:Md) (j:Nat) (f:Fn'):Md:=⟨m.name,expT q tv m,m.funs.set j ⟨tv,f.arity,f.clauses⟩⟩
theorem Zke {d:Nat} {m:Md} (h:mdOk d m=true) {j b:Nat} {f g:Fn'} (hj:m.funs[j]?=some f) (hb:m.funs[b]?=some g) (hne:b≠j) (r:Rf) (hf:ZF r f=true):ZF r g=false:=by
 cases hg:ZF r g with
 | false=>rfl
 | true =>
  exfalso
  unfold mdOk fnsB at h;simp only [Bool.and_eq_true,List.all_eq_true] at h;have hall:=h.2.2.2
  have key:∀ (a c:Nat) (x y:Fn'),a<c->m.funs[a]?=some x->m.funs[c]?=some y->ZF r x=true->ZF r y=true->False:=by
   intro a c x y hac ha hc hx hy;have h1:=hall c (List.mem_range.2 (List.getElem?_eq_some_iff.1 hc).1);rw [ZfH hc,Bool.and_eq_true] at h1;have h2:(m.funs.take c).any (ZF ⟨y.name,y.arity⟩)=false:=(by simpa using h1.2);rw [List.any_eq_false] at h2;refine h2 x (List.mem_of_getElem? (i:=a) (by rw [List.getElem?_take,if_pos hac];exact ha)) ?_;unfold ZF at hx hy ⊢;simp only [Bool.and_eq_true,beq_iff_eq] at hx hy ⊢;exact ⟨hx.1.trans hy.1.symm,hx.2.trans hy.2.symm⟩
  rcases Nat.lt_or_gt_of_ne hne with h' | h'
  . exact key b j g f h' hb hj hg hf
  . exact key j b f g h' hj hb hf hg
theorem Zmj {d:Nat} {q:Pl} {tv:ByteArray} {m:Md} {j:Nat} {f:Fn'} (h:mdOk d m=true) (hn:named q.mod m=true) (hj:m.funs[j]?=some f) (hf:ZF ⟨q.name,q.arity⟩ f=true) :
 allM (Zao (fT (ftN q (m.name.toList == q.mod.toList) tv)) d) (newM q tv m j f)=renM d q tv m:=by
 have hr:rfsB m.exports=true:=by
  unfold mdOk at h;simp only [Bool.and_eq_true] at h;exact h.2.1.2
 have ha:=Zkd (q:=q) (near:=(m.name.toList == q.mod.toList)) (tv:=tv) h;unfold renM;rw [if_pos (show (m.name.toList == q.mod.toList)=true from hn),Zh2,<-ha];unfold Zf5 newM allM;simp only;rw [Zkc hr]
 congr 1
 apply List.ext_getElem?
 intro b;have hjl:=(List.getElem?_eq_some_iff.1 hj).1;rw [List.getElem?_map,List.getElem?_map,List.getElem?_map];by_cases hbj:b=j
 . subst hbj
   rw [List.getElem?_set_self hjl,hj];simp only [Option.map_some];have:renN ⟨q.name,q.arity⟩ tv f.name f.arity=tv:=(by exact if_pos hf);unfold Zcy allF;simp only [this]
 . rw [List.getElem?_set_ne (λe=>hbj e.symm)]
   cases hb:m.funs[b]? with
   | none=>rfl
   | some g =>
    have hg:=Zke h hj hb hbj _ hf;simp only [Option.map_some]
    have:renN ⟨q.name,q.arity⟩ tv g.name g.arity=g.name:=by
     unfold renN;rw [if_neg];intro e;have e2:ZF ⟨q.name,q.arity⟩ g=true:=e;rw [hg] at e2
     cases e2
    unfold Zcy allF;simp only [this]
theorem ZmE {d:Nat} {q:Pl} {tv:ByteArray} {ms:List Md} {k j:Nat} {m:Md} {f:Fn'} (hpg:pgOk d ms=true) (hk:ms[k]?=some m) (hn:named q.mod m=true) (hj:m.funs[j]?=some f) (hf:ZF ⟨q.name,q.arity⟩ f=true) :
 (ms.set k (newM q tv m j f)).map (λx=>allM (Zao (fT (ftN q (x.name.toList == q.mod.toList) tv)) d) x)=ms.map (renM d q tv):=by
 apply List.ext_getElem?
 intro a;have hkl:=(List.getElem?_eq_some_iff.1 hk).1;rw [List.getElem?_map,List.getElem?_map];by_cases hak:a=k
 . subst hak
   rw [List.getElem?_set_self hkl,hk];simp only [Option.map_some]
   congr 1
   exact Zmj (Zdo hpg m (List.mem_of_getElem? hk)) hn hj hf
 . rw [List.getElem?_set_ne (λe=>hak e.symm)]
   cases hx:ms[a]? with
   | none=>rfl
   | some x =>
    simp only [Option.map_some]
    congr 1
    have hno:named q.mod x=false:=by
     cases e:named q.mod x with
     | false=>rfl
     | true =>
      exfalso
      have key:∀ (b c:Nat) (y z:Md),b<c->ms[b]?=some y->ms[c]?=some z->named q.mod y=true->named q.mod z=true->False:=λb c y z hbc hb hc hy hz=>by
       have h1:=Zgx hpg hbc hb hc;unfold named at hy hz;simp only [beq_iff_eq] at hy hz;rw [hy,hz,ZeB] at h1
       cases h1
      rcases Nat.lt_or_gt_of_ne hak with h' | h'
      . exact key a k x m h' hx hk e hn
      . exact key k a m x h' hk hx hn e
    rw [Zkd (Zdo hpg x (List.mem_of_getElem? hx))];unfold renM;rw [if_neg (show ¬ (x.name.toList == q.mod.toList)=true from λe=>by rw [show (x.name.toList == q.mod.toList)=named q.mod x from rfl,hno] at e;cases e),Zh2]
theorem Zlk {d:Nat} {q:Pl} {tv:ByteArray} {m:Md} {j:Nat} {f:Fn'} (h:mdOk d m=true) (hj:m.funs[j]?=some f) (hf:ZF ⟨q.name,q.arity⟩ f=true):newM q tv m j f=Zf5 ⟨q.name,q.arity⟩ tv m:=by
 have hr:rfsB m.exports=true:=by
  unfold mdOk at h;simp only [Bool.and_eq_true] at h;exact h.2.1.2
 unfold Zf5 newM;rw [Zkc hr]
 congr 1
 apply List.ext_getElem?
 intro b;have hjl:=(List.getElem?_eq_some_iff.1 hj).1;rw [List.getElem?_map];by_cases hbj:b=j
 . subst hbj
   rw [List.getElem?_set_self hjl,hj];simp only [Option.map_some];have:renN ⟨q.name,q.arity⟩ tv f.name f.arity=tv:=if_pos hf;unfold Zcy;simp only [this]
 . rw [List.getElem?_set_ne (λe=>hbj e.symm)]
   cases hb:m.funs[b]? with
   | none=>rfl
   | some g =>
    have hg:=Zke h hj hb hbj _ hf;simp only [Option.map_some]
    have:renN ⟨q.name,q.arity⟩ tv g.name g.arity=g.name:=by
     unfold renN;rw [if_neg];intro e;have e2:ZF ⟨q.name,q.arity⟩ g=true:=e;rw [hg] at e2
     cases e2
    unfold Zcy;simp only [this]
theorem Zmk {d:Nat} {q:Pl} {tv:ByteArray} {m:Md} {j:Nat} {f:Fn'} (h:mdOk d m=true) (hj:m.funs[j]?=some f) (hf:ZF ⟨q.name,q.arity⟩ f=true) (hs:tv.size<=10):wtMd d (newM q tv m j f)<=11 * wtMd d m:=by
 rw [Zlk h hj hf];have e0:wtMd d m=m.name.size+wtS wtRf m.exports+wtS (wtFn d) m.funs:=rfl;have e1:wtMd d (Zf5 ⟨q.name,q.arity⟩ tv m)=m.name.size+wtS wtRf (Zdq (m.exports.map (Zbc ⟨q.name,q.arity⟩ tv)))+wtS (wtFn d) (m.funs.map (Zcy ⟨q.name,q.arity⟩ tv)):=rfl;have h1:wtS wtRf (Zdq (m.exports.map (Zbc ⟨q.name,q.arity⟩ tv)))=wtS wtRf (m.exports.map (Zbc ⟨q.name,q.arity⟩ tv)):=Zif _ (List.mergeSort_perm _ _)
 have h2:=ZaS (Zbc ⟨q.name,q.arity⟩ tv) wtRf 11 (λr=>by
  have:=Zds ⟨q.name,q.arity⟩ tv r.name r.arity hs;show 1+(renN ⟨q.name,q.arity⟩ tv r.name r.arity).size<=11 * (1+r.name.size)
  omega) m.exports
 have h3:=ZaS (Zcy ⟨q.name,q.arity⟩ tv) (wtFn d) 11 (λf=>by
  have h2:=Zds ⟨q.name,q.arity⟩ tv f.name f.arity hs;have e1:wtFn d (Zcy ⟨q.name,q.arity⟩ tv f)=(renN ⟨q.name,q.arity⟩ tv f.name f.arity).size+wtS (wtCl (wtEx d)) f.clauses:=rfl;have e2:wtFn d f=f.name.size+wtS (wtCl (wtEx d)) f.clauses:=rfl
  omega) m.funs
 rw [e1,h1];omega
def parL (A:Md->Md) (xs:List Md) (i:Nat):List Md:=xs.mapIdx λa x=>if a<i then A x else x
theorem Zkf (A:Md->Md) (xs:List Md):parL A xs 0=xs:=by
 apply List.ext_getElem?
 intro i;unfold parL;rw [List.getElem?_mapIdx]
 cases xs[i]? <;> simp
theorem Zll {A:Md->Md} {xs:List Md} {i:Nat} (h:xs.length<=i):parL A xs i=xs.map A:=by
 apply List.ext_getElem?
 intro a;unfold parL;rw [List.getElem?_mapIdx,List.getElem?_map]
 cases hx:xs[a]? with
 | none=>rfl
 | some x =>
  have:=(List.getElem?_eq_some_iff.1 hx).1;simp only [Option.map_some];rw [if_pos (by omega)]
theorem Zml {A:Md->Md} {xs:List Md} {i:Nat} {x:Md} (h:xs[i]?=some x):(parL A xs i)[i]?=some x:=by
 unfold parL;rw [List.getElem?_mapIdx,h];simp
theorem Zlm (A:Md->Md) (xs:List Md) (i:Nat):(parL A xs i).length=xs.length:=by unfold parL;rw [List.length_mapIdx]
theorem Zkg {A:Md->Md} {xs:List Md} {i:Nat} {x:Md} (h:xs[i]?=some x):(parL A xs i).set i (A x)=parL A xs (i+1):=by
 apply List.ext_getElem?
 intro a;have hil:=(List.getElem?_eq_some_iff.1 h).1;by_cases ha:a=i
 . subst ha
   rw [List.getElem?_set_self (by rw [Zlm];exact hil)];unfold parL;rw [List.getElem?_mapIdx,h];simp
 . rw [List.getElem?_set_ne (λe=>ha e.symm)]
   unfold parL;rw [List.getElem?_mapIdx,List.getElem?_mapIdx]
   cases xs[a]? with
   | none=>rfl
   | some y =>
    simp only [Option.map_some];by_cases h1:a<i
    . rw [if_pos h1,if_pos (by omega)]
    . rw [if_neg h1,if_neg (by omega)]
structure Za8 (w wr:World) (d:Nat) (v:Value) (ms:List Md) (P:Array Value):Prop where
 bel:Bz w wr
 pl:Blk wr w.heap.size P 31
 own:∃ fp,Zg wr 63 3 (OMd wr d) v ms fp/\fp.Nodup/\∀ a ∈ fp,w.heap.size+1<=a
theorem Za8.next {w wr w':World} {d:Nat} {v:Value} {ms:List Md} {P:Array Value} (h:Za8 w wr d v ms P) (hb:Bz wr w'):Za8 w w' d v ms P:=by
 obtain ⟨h1,h2,fp,h3,h4,h5⟩:=h;exact ⟨h1.trans (hb.mono h1.size),h2.next hb,fp,ZbO h3 (Zj.below hb (ZaM h3)),h4,h5⟩
theorem Za8.exps {w wr:World} {d:Nat} {v:Value} {ms:List Md} {P:Array Value} {k:Nat} {m:Md} (h:Za8 w wr d v ms P) (hk:ms[k]?=some m) :
 ∃ g c pe ce pf cf,v=.slice (some ⟨g,0,none⟩) ms.length c/\g<wr.heap.size/\w.heap.size+1<=g/\wr.cell? ⟨g,k * 3,none⟩=some (.string m.name)/\wr.cell? ⟨g,k * 3+1,none⟩=some (.slice pe m.exports.length ce)/\wr.cell? ⟨g,k * 3+2,none⟩=some (.slice pf m.funs.length cf)/\(∀ t,wr.frozen? ⟨g,t,none⟩=false) /\
  HMd wr All d [.string m.name,.slice pe m.exports.length ce,.slice pf m.funs.length cf] m/\Rows wr All 2 HRf (.slice pe m.exports.length ce) m.exports /\
  ∀ (w':World) (u:Value) (rs:List Rf) (fq:List Nat),Bz wr w'->Zg w' 84 2 (ORf w' d) u rs fq->fq.Nodup->(∀ a ∈ fq,wr.heap.size<=a)->Za8 w (w'.setCell ⟨g,k * 3+1,none⟩ u) d v (ms.set k ⟨m.name,rs,m.funs⟩) P:=by
 have hh:=h;obtain ⟨h1,h2,fp,h3,h4,h5⟩:=h;obtain ⟨g,c,cs,f,hv,hg,hs,hgf,hnf,hcl,hcs,hr,-⟩:=h3.storeJ h4 hk (j:=1) (by omega);have hT:HMd wr All d cs m:=hr.tree (λ_ _=>trivial);obtain ⟨ev,fv,fa,fb,rfl,rfl,ok1,hev,hfv⟩:=hr;obtain ⟨pe,ce,rfl,-⟩:=hev.shape;obtain ⟨pf,cf,rfl,-⟩:=hfv.shape;obtain ⟨cs0,t0,hp0⟩:=Zbf h3 g hg;obtain ⟨c0,c1,c2⟩:=sqC3 hcs (by omega);simp only [List.getElem?_cons_succ,List.getElem?_cons_zero,Nat.add_zero] at c0 c1 c2;refine ⟨g,c,pe,ce,pf,cf,hv,ZaM h3 g hg,h5 g hg,c0,c1,c2,λt=>Blk.frozen (cs:=cs0) (t:=t0) hp0 _,hT,hev.rows (λ_ _=>trivial) (λcs x f _ hs h=>h.1),λw' u rs fq hb ho hq hrq=>?_⟩;have hlt:=ZaM h3;obtain ⟨b1,b2,-⟩:=hh.next hb;have h3':=ZbO h3 (Zj.below hb hlt);obtain ⟨g',c',cs',f',hv',hg',hs',hgf',hnf',hcl',hcs',hr',step⟩:=h3'.storeJ h4 hk (j:=1) (by omega);obtain ⟨rfl,-⟩:=ZcL (hv.symm.trans hv');obtain ⟨ev',fv',fa',fb',rfl,rfl,ok1',hev',hfv'⟩:=hr';rw [List.nodup_append] at hnf';have hoth:∀ a,a≠g->(w'.setCell ⟨g,k * 3+1,none⟩ u).heap[a]?=w'.heap[a]?:=λa ha=>Below.heap_setCell _ _ _ _ ha
 have hd:∀ a ∈ fq,a ∉ fp:=λa ha hm=>by have:=hlt a hm;have:=hrq a ha;omega
 have kq:Zj fq w' (w'.setCell ⟨g,k * 3+1,none⟩ u):=λa ha=>hoth a (λe=>hd a ha (e ▸ hg'));have kb:Zj fb' w' (w'.setCell ⟨g,k * 3+1,none⟩ u):=λa ha=>hoth a (λe=>hgf' (e ▸ List.mem_append_right _ ha))
 obtain ⟨fp',r1,r2,r3⟩:=step (OMd (w'.setCell ⟨g,k * 3+1,none⟩ u) d) ⟨m.name,rs,m.funs⟩ u (fq ++ fb') fq
  ⟨u,fv',fq,fb',rfl,rfl,ok1',ho.keep kq (λcs x f _ hs h=>h),hfv'.keep kb (λcs x f _ hs h=>h.keep (kb.sub hs))⟩
  (by
   rw [List.nodup_append];refine ⟨hq,hnf'.2.1,λa ha b hb' e=>?_⟩;subst e
   exact hd a ha (hs' a (List.mem_append_right _ hb')))
  (λa ha=>by
   rcases List.mem_append.1 ha with h' | h'
   . exact .inr h'
   . exact .inl (List.mem_append_right _ h')) hd (λcs y fy hg hr=>hr.keep (λa ha=>hoth a (λe=>hg (e ▸ ha))))
 have gge:=h5 g hg;refine ⟨b1.setCell (p:=⟨g,k * 3+1,none⟩) (by show _<=g;omega) _,(hoth _ (by omega)).trans b2,fp',r1,r2,λa ha=>?_⟩
 rcases r3 a ha with h' | h'
 . exact h5 a h'
 . have:=hrq a h'
   have:=h2.lt;omega
theorem Za8.name {w wr:World} {d:Nat} {v:Value} {ms:List Md} {P:Array Value} {k j:Nat} {m:Md} {f:Fn'} (h:Za8 w wr d v ms P) (hk:ms[k]?=some m) (hj:m.funs[j]?=some f) :
 ∃ g c gf cf u,v=.slice (some ⟨g,0,none⟩) ms.length c/\wr.cell? ⟨g,k * 3+2,none⟩=some (.slice (some ⟨gf,0,none⟩) m.funs.length cf)/\wr.cell? ⟨gf,j * 3,none⟩=some u/\wr.frozen? ⟨gf,j * 3,none⟩=false /\
  ∀ tv,okS tv->Za8 w (wr.setCell ⟨gf,j * 3,none⟩ (.string tv)) d v (ms.set k ⟨m.name,m.exports,m.funs.set j ⟨tv,f.arity,f.clauses⟩⟩) P:=by
 obtain ⟨h1,h2,fp,h3,h4,h5⟩:=h;obtain ⟨g,c,cs,fm,hv,hg,hs,hgf,hnf,hcl,hcs,hr,step⟩:=h3.through h4 hk;obtain ⟨ev,fv,fa,fb,rfl,rfl,ok1,hev,hfv⟩:=hr;rw [List.nodup_append] at hnf;obtain ⟨ndA,ndB,dis⟩:=hnf;obtain ⟨gf,cf,cs2,f2,hv2,hg2,hs2,hgf2,hn2,hcl2,hcs2,hr2,step2⟩:=hfv.storeJ ndB hj (j:=0) (by omega);obtain ⟨cv,rfl,ok2,ok3,hcv⟩:=hr2;subst hv2;have c2:=hcs 2 (by omega);have e0:=hcs2 0 (by omega);simp only [List.getElem?_cons_succ,List.getElem?_cons_zero,Nat.add_zero] at c2 e0;have mgf:gf ∈ fp:=hs gf (List.mem_append_right _ hg2);obtain ⟨cs0,t0,hp0⟩:=Zbf h3 gf mgf;refine ⟨g,c,gf,cf,_,hv,c2,e0,Blk.frozen (cs:=cs0) (t:=t0) hp0 _,λtv htv=>?_⟩;have hoth:∀ a,a≠gf->(wr.setCell ⟨gf,j * 3,none⟩ (.string tv)).heap[a]?=wr.heap[a]?:=λa ha=>Below.heap_setCell _ _ _ _ ha;have k2:Zj f2 wr (wr.setCell ⟨gf,j * 3,none⟩ (.string tv)):=λa ha=>hoth a (λe=>hgf2 (e ▸ ha))
 obtain ⟨fp2,r1,r2,r3⟩:=step2 (OFn (wr.setCell ⟨gf,j * 3,none⟩ (.string tv)) d) ⟨tv,f.arity,f.clauses⟩ (.string tv) f2 []
  ⟨cv,rfl,htv,ok3,hcv.keep k2 (λcs x f _ hs h=>OCls.keep h (k2.sub hs))⟩ hn2 (λa ha=>.inl ha) (λa ha=>by simp at ha) (λcs y fy hg hr=>hr.keep (λa ha=>hoth a (λe=>hg (e ▸ ha))))
 simp only [Nat.add_zero] at r1;have ka:Zj fa wr (wr.setCell ⟨gf,j * 3,none⟩ (.string tv)):=λa ha=>hoth a (λe=>dis a ha gf hg2 e)
 obtain ⟨fp1,s1,s2,s3⟩:=step (wr.setCell ⟨gf,j * 3,none⟩ (.string tv)) (OMd (wr.setCell ⟨gf,j * 3,none⟩ (.string tv)) d) ⟨m.name,m.exports,m.funs.set j ⟨tv,f.arity,f.clauses⟩⟩ (fa ++ fp2) [] gf (List.mem_append_right _ hg2) hoth
  ⟨ev,_,fa,fp2,rfl,rfl,ok1,hev.keep ka (λcs x f _ hs h=>h),r1⟩
  (by
   rw [List.nodup_append];refine ⟨ndA,r2,λa ha b hb' e=>?_⟩;subst e
   rcases r3 a hb' with h' | h'
   . exact dis a ha a h' rfl
   . simp at h')
  (λa ha=>by
   rcases List.mem_append.1 ha with h' | h'
   . exact .inl (List.mem_append_left _ h')
   . rcases r3 a h' with h2 | h2
     . exact .inl (List.mem_append_right _ h2)
     . exact .inr h2) (λa ha=>by simp at ha) (λcs y fy hg hr=>hr.keep (λa ha=>hoth a (λe=>hg (e ▸ ha))))
 have gge:=h5 gf mgf;refine ⟨h1.setCell (p:=⟨gf,j * 3,none⟩) (by show _<=gf;omega) _,(hoth _ (by omega)).trans h2,fp1,s1,s2,λa ha=>?_⟩
 rcases s3 a ha with h' | h'
 . exact h5 a h'
 . simp at h'
theorem Za8.calls {w wr:World} {d:Nat} {v:Value} {ms:List Md} {P:Array Value} {k:Nat} {m:Md} (h:Za8 w wr d v ms P) (hk:ms[k]?=some m) :
 ∃ g c pe ce pf cf fm,v=.slice (some ⟨g,0,none⟩) ms.length c/\g≠w.heap.size/\wr.cell? ⟨g,k * 3,none⟩=some (.string m.name)/\wr.cell? ⟨g,k * 3+1,none⟩=some (.slice pe m.exports.length ce)/\wr.cell? ⟨g,k * 3+2,none⟩=some (.slice pf m.funs.length cf)/\(∀ t,wr.frozen? ⟨g,t,none⟩=false) /\
  OMd wr d [.string m.name,.slice pe m.exports.length ce,.slice pf m.funs.length cf] m fm/\fm.Nodup /\
  ∀ (w':World) (x':Md) (f':List Nat),Off fm wr w'->OMd w' d [.string m.name,.slice pe m.exports.length ce,.slice pf m.funs.length cf] x' f'->f'.Nodup->(∀ a ∈ f',a ∈ fm\/wr.heap.size<=a) ->
   Za8 w w' d v (ms.set k x') P/\(∀ t,w'.cell? ⟨g,t,none⟩=wr.cell? ⟨g,t,none⟩)/\(∀ t,w'.frozen? ⟨g,t,none⟩=wr.frozen? ⟨g,t,none⟩)/\Blk w' w.heap.size P 31:=by
 obtain ⟨h1,h2,fp,h3,h4,h5⟩:=h;obtain ⟨g,c,cs,fm,hv,hg,hs,hgf,hnf,hcl,hcs,hr,step⟩:=h3.thru h4 hk;have hr0:=hr;obtain ⟨ev,fv,fa,fb,rfl,rfl,ok1,hev,hfv⟩:=hr;obtain ⟨pe,ce,rfl,-⟩:=hev.shape;obtain ⟨pf,cf,rfl,-⟩:=hfv.shape;obtain ⟨c0,c1,c2⟩:=sqC3 hcs (by omega);simp only [List.getElem?_cons_succ,List.getElem?_cons_zero,Nat.add_zero] at c0 c1 c2;obtain ⟨cs0,t0,hp0⟩:=Zbf h3 g hg;have gge:=h5 g hg;have lp:=h2.lt;have sw:=h1.size;refine ⟨g,c,pe,ce,pf,cf,fa ++ fb,hv,by omega,c0,c1,c2,λt=>Blk.frozen (cs:=cs0) (t:=t0) hp0 _,hr0,hnf,λw' x' f' ho hx hn hr=>?_⟩;have hlt:=ZaM h3;have hbl:∀ a ∈ fp,a ∉ fa ++ fb->w'.heap[a]?=wr.heap[a]?:=λa ha hna=>ho.block a (hlt a ha) hna;have hge:∀ a ∈ fa ++ fb,w.heap.size+1<=a:=λa ha=>h5 a (hs a ha);have hpl:w'.heap[w.heap.size]?=wr.heap[w.heap.size]?:=ho.block _ lp (λhm=>by have:=hge _ hm;omega)
 obtain ⟨fp',r1,r2,r3⟩:=step w' (OMd w' d) x' f' (f'.filter (λa=>decide (wr.heap.size<=a))) hbl hx hn (λa ha=>by
  rcases hr a ha with h' | h'
  . exact .inl h'
  . exact .inr (List.mem_filter.2 ⟨ha,by simpa using h'⟩)) (λa ha hm=>by
  have:=(List.mem_filter.1 ha).2;have:=hlt a hm;simp at *
  omega) (λcs y fy hf hr=>hr.keep (λa ha=>hbl a (hf a ha).1 (hf a ha).2))
 refine ⟨⟨⟨ho.os.trans h1.os,ho.tape.trans h1.tape,ho.output.trans h1.output,Nat.le_trans h1.size ho.size,λa ha=>(ho.block a (by omega) (λhm=>by have:=hge a hm;omega)).trans (h1.block a ha)⟩,hpl.trans h2,fp',r1,r2,λa ha=>?_⟩,λt=>sqK (hbl g hg hgf),λt=>World.frozen?_of_block (hbl g hg hgf),hpl.trans h2⟩
 rcases r3 a ha with h' | h'
 . exact h5 a h'
 . have:=(List.mem_filter.1 h').2
   simp at this;omega
theorem Zln {w:World} {d:Nat} {cs:List Value} {m:Md} {j:Nat} {f:Fn'} (h:HMd w All d cs m) (hj:m.funs[j]?=some f):okI f.arity:=by
 obtain ⟨ev,fv,-,-,-,⟨_,_,_,-,-,hx⟩⟩:=h;obtain ⟨g,off,-,-,-,hat⟩:=hx (by intro e;rw [e] at hj;simp at hj);obtain ⟨cs2,-,-,hf⟩:=hat j f hj;obtain ⟨cv,-,-,h3,-⟩:=hf;exact h3
theorem Zlo {d:Nat} {ms:List Md} {q:Pl} (hpg:pgOk d ms=true) (h:fnOf ms q=none):ms.any (ZcZ q)=false:=by
 rw [List.any_eq_false];intro x hx hq;unfold ZcZ at hq;rw [Bool.and_eq_true] at hq;obtain ⟨k,hk⟩:=List.mem_iff_getElem?.1 hx;have h1:=ZkP hpg q.mod k x hk hq.1
 obtain ⟨f,hf⟩:∃ f,x.funs.find? (ZF ⟨q.name,q.arity⟩)=some f:=by
  cases hff:x.funs.find? (ZF ⟨q.name,q.arity⟩) with
  | some f=>exact ⟨f,rfl⟩
  | none =>
   rw [List.find?_eq_none] at hff;obtain ⟨y,hy,hy2⟩:=List.any_eq_true.1 hq.2;exact absurd hy2 (hff y hy)
 rw [ZlZ h1 hf] at h
 cases h
theorem ZdV (d:Nat) (w:World) (v:Value) (ms:List Md) (q:Pl) (tv:ByteArray) (h:Rows w All 3 (HMd w All d) v ms) (hw:wtS (wtMd d) ms<=lawW) (hst:tv.size<=maxLen) :
 Calls Tryz.prog 14 #[v,.agg #[.string q.mod,.string q.name,.int .i64 q.arity,.int .i64 q.clause],.string tv] w λe w'=>EdE w d (ZaT d ms q tv) e w':=by
 obtain ⟨qm,qn,qa,qc⟩:=q;simp only;have HR:Hid (∀ w',Below w.heap.size w w'->Rows w' All 3 (HMd w' All d) v ms):=λw' hw=>h.mono (Za.of_below hw) sqj (λ_ _ _ h=>h.mono (Za.of_below hw) sqj);have HW:Hid (wtS (wtMd d) ms<=16777216):=Nat.le_trans hw (Nat.le_trans (by unfold lawW;decide) Zf7);have HW2:Hid (11 * wtS (wtMd d) ms<=16777216):=Nat.le_trans (Nat.mul_le_mul_left _ hw) Zf7;have HST:Hid (tv.size<=maxLen):=hst;obtain ⟨W1,hW1⟩:∃ W1,W1=w.alloc (.cells #[.string qm,.string qn,.int .i64 qa,.int .i64 qc] 31):=⟨_,rfl⟩;have bA:Hid (Blk W1 w.heap.size #[.string qm,.string qn,.int .i64 qa,.int .i64 qc] 31):=(by show Blk _ _ _ _;rw [hW1];exact Blk.new);have B1:Hid (Below w.heap.size w W1):=(by show Below _ _ _;rw [hW1];exact (sqN _ _));have S1:Hid (W1.heap.size=w.heap.size+1):=(by show _=_;rw [hW1,Zb]);have HW1:Hid (W1=w.alloc (.cells #[.string qm,.string qn,.int .i64 qa,.int .i64 qc] 31)):=hW1;have HRV:Hid (ZaT d ms ⟨qm,qn,qa,qc⟩ tv=if renFCode d ms ⟨qm,qn,qa,qc⟩ tv=0 then finM d ms (ms.map (renM d ⟨qm,qn,qa,qc⟩ tv)) else (ms,renFCode d ms ⟨qm,qn,qa,qc⟩ tv)):=rfl;have HRC:Hid (renFCode d ms ⟨qm,qn,qa,qc⟩ tv=if Za4 d ms=false then 1 else if ms.any (ZcZ ⟨qm,qn,qa,qc⟩)=false then 2 else if Zas tv=false then 3 else if Za5 ms qm tv qa=true then 4 else 0):=rfl;obtain ⟨p,cap,rfl,-⟩:=h;generalize hRR:ZaT d ms ⟨qm,qn,qa,qc⟩ tv=RR at *;clear hRR hW1 hw hst;go_enter Tryz.func14,Tryz.ntmps14;go_wp2_with fail;rw [<-HW1.out];refine (ZeN d W1 _ ms (HR.out _ B1.out) HW.out).mono ?_;rintro e w2 ⟨u,fpo,rfl,ho,hnd,hrg,hb⟩;obtain ⟨po,co,hu,-⟩:=ho.shape;subst hu;have ST2:Hid (Za8 w w2 d (.slice po ms.length co) ms #[.string qm,.string qn,.int .i64 qa,.int .i64 qc]):=⟨B1.out.trans (hb.mono B1.out.size),bA.out.next hb,fpo,ho,hnd,λa ha=>by have:=(hrg a ha).1;have:=S1.out;omega⟩
 have ANS:Hid (∀ w',Below w2.heap.size w2 w'->∀ c:Int,RR=(ms,c)->EdE w d RR (.returned (.tuple #[.slice po ms.length co,.int .i64 c])) w'):=λw' hb c hc=>by
  obtain ⟨b1,-,fp,o1,n1,r1⟩:=ST2.out.next hb;rw [hc];exact ⟨_,fp,rfl,o1,n1,λa ha=>⟨by have:=r1 a ha;omega,ZaM o1 a ha⟩,b1⟩
 obtain ⟨y0,y1,y2,y3⟩:=sqB4 ST2.out.pl;clear ho hnd hrg hb;go_wp2_with fail;refine (Zhu d w2 _ ms ⟨qm,qn,qa,qc⟩ (HR.out _ ST2.out.bel)).mono ?_;rintro e w3 ⟨⟨a,b,ok,rfl,hfr⟩,hb3⟩;have K3:Hid (Below w2.heap.size w2 w3):=hb3;have HFR:Hid (Zjl ms ⟨qm,qn,qa,qc⟩ a b ok):=hfr;clear hfr hb3 y0 y1 y2 y3;go_wp2_with fail;refine (Zea d w3 _ ms (HR.out _ (ST2.out.next K3.out).bel) HW.out).mono ?_;rintro e w4 ⟨rfl,hb4⟩;have K4:Hid (Below w2.heap.size w2 w4):=K3.out.trans (hb4.mono K3.out.size);clear hb4
 cases hG:Za4 d ms with
 | false =>
  have FIN:=ANS.out w4 K4.out 1 (by rw [HRV.out,HRC.out,hG];rfl);have HFIN:Hid (EdE w d RR (.returned (.tuple #[.slice po ms.length co,.int .i64 1])) w4):=FIN;clear FIN hG;go_wp2_with fail;exact bodyPost_ret (v:=.tuple #[.slice po ms.length co,.int .i64 1]) (by simp [results,Tryz.results14,go_sem]) rfl HFIN.out
 | true =>
  have HPG:Hid (Za4 d ms=true/\pgOk d ms=true):=⟨hG,by unfold Za4 at hG;simp only [Bool.and_eq_true] at hG;exact hG.1⟩;clear hG
  rcases HFR.out with ⟨rfl,hno⟩ | ⟨rfl,k,j,m,f,rfl,rfl,hk,hkf,hj,hjf,hbk,hbj⟩
  . have HFIN:Hid (EdE w d RR (.returned (.tuple #[.slice po ms.length co,.int .i64 2])) w4):=ANS.out w4 K4.out 2 (by rw [HRV.out,HRC.out,HPG.out.1,Zlo HPG.out.2 hno];rfl)
    clear hno HFR;go_wp2_with fail;exact bodyPost_ret (v:=.tuple #[.slice po ms.length co,.int .i64 2]) (by simp [results,Tryz.results14,go_sem]) rfl HFIN.out
  . have HAT:Hid (ms.any (ZcZ ⟨qm,qn,qa,qc⟩)=true):=by
     show _=_;rw [List.any_eq_true];refine ⟨m,List.mem_of_getElem? hk,?_⟩;unfold ZcZ;rw [Bool.and_eq_true];exact ⟨List.find?_some hkf,List.any_eq_true.2 ⟨f,List.mem_of_getElem? hj,List.find?_some hjf⟩⟩
    have HM:Hid (ms[k]?=some m/\ms.find? (named qm)=some m/\named qm m=true/\m.funs[j]?=some f/\ZF ⟨qn,qa⟩ f=true):=⟨hk,hkf,List.find?_some hkf,hj,List.find?_some hjf⟩;have hkl:(k:Int)<(ms.length:Int):=(by have:=(List.getElem?_eq_some_iff.1 hk).1;omega);have hjl:(j:Int)<(m.funs.length:Int):=(by have:=(List.getElem?_eq_some_iff.1 hj).1;omega);have hk0:=sqI k;have hj0:=sqI j;clear hk hkf hj hjf hbk hbj HFR;go_wp2_with fail;refine (Zk tv w4 HST.out).mono ?_;rintro e w5 ⟨rfl,rfl⟩
    cases hA:Zas tv with
    | false =>
     have HFIN:Hid (EdE w d RR (.returned (.tuple #[.slice po ms.length co,.int .i64 3])) w5):=ANS.out w5 K4.out 3 (by rw [HRV.out,HRC.out,HPG.out.1,HAT.out,hA];rfl);clear hA;go_wp2_with fail;exact bodyPost_ret (v:=.tuple #[.slice po ms.length co,.int .i64 3]) (by simp [results,Tryz.results14,go_sem]) rfl HFIN.out
    | true =>
     have HA:Hid (Zas tv=true):=hA;have ST5:Hid (Za8 w w5 d (.slice po ms.length co) ms #[.string qm,.string qn,.int .i64 qa,.int .i64 qc]):=ST2.out.next K4.out
     obtain ⟨gp,off,cs,hpp,hgl,hcs,hmd⟩:∃ gp off cs,p=some ⟨gp,off,none⟩/\gp<w5.heap.size/\(∀ t,t<3->w5.cell? ⟨gp,off+k * 3+t,none⟩=cs[t]?)/\HMd w5 All d cs m:=by
      obtain ⟨p',cap',hv,-,-,hx⟩:=HR.out w5 ST5.out.bel;obtain ⟨g,off,hp,-,hl,hat⟩:=hx (by intro e;have:=HM.out.1;rw [e] at this;simp at this);obtain ⟨cs,-,h2,h3⟩:=hat k m HM.out.1;simp only [Value.slice.injEq] at hv;exact ⟨g,off,cs,hv.1.trans hp,hl,h2,h3⟩
     subst hpp;have HMD:Hid (HMd w5 All d cs m):=hmd;obtain ⟨ev,fv,rfl,-,⟨pe,ce,rfl,-⟩,⟨pf,cf,rfl,-⟩⟩:=hmd;have a0:=hcs 0 (by omega);have a1:=hcs 1 (by omega);have a2:=hcs 2 (by omega);simp only [List.getElem?_cons_succ,List.getElem?_cons_zero,Nat.add_zero] at a0 a1 a2;have y2:=ST5.out.pl.cell 2 _ rfl
     have TK:Hid (Calls Tryz.prog 41 #[.agg #[.string m.name,.slice pe m.exports.length ce,.slice pf m.funs.length cf],.string tv,.int .i64 qa] w5.drew λe w'=>e=.returned (.bool (Za5 ms qm tv qa))/\Below w5.drew.heap.size w5.drew w'):=by
      have e:Za5 ms qm tv qa=(hasF m tv qa || (hasX m tv qa || isPutB tv qa)):=by
       unfold Za5 Zch;rw [HM.out.2.1]
       rfl
      rw [e];exact ZgV d w5.drew _ m tv qa (HMD.out.mono (Za.of_below (Below.refl _ _).drew) sqj)
     have CE:Hid (∀ w',Below w5.heap.size w5 w'->w'.cell? ⟨gp,off+k * 3,none⟩=some (.string m.name)/\w'.cell? ⟨gp,off+k * 3+1,none⟩=some (.slice pe m.exports.length ce)/\w'.cell? ⟨gp,off+k * 3+2,none⟩=some (.slice pf m.funs.length cf)/\w'.cell? ⟨w.heap.size,2,none⟩=some (.int .i64 qa)):=λw' hb=>⟨Zd hb a0,Zd hb a1,Zd hb a2,Zd hb y2⟩;clear hA hcs;go_wp2_with fail
     go_region_held3 (λw'=>w'.cell? ⟨gp,off+k * 3,none⟩=some (.string m.name)/\w'.cell? ⟨gp,off+k * 3+1,none⟩=some (.slice pe m.exports.length ce)/\w'.cell? ⟨gp,off+k * 3+2,none⟩=some (.slice pf m.funs.length cf)/\w'.cell? ⟨w.heap.size,2,none⟩=some (.int .i64 qa))
      (first | with_reducible exact CE.out _ K6.out | with_reducible exact CE.out _ (Below.refl _ _).drew)
      (first | (go_at_call 41;refine TK.out.mono ?_;rintro e w6 ⟨rfl,hb6⟩;have K6:Hid (Below w5.heap.size w5 w6):=Z5 hb6;clear hb6))
     go_split_ands;clear a0 a1 a2 y2 CE TK HMD
     cases hT:Za5 ms qm tv qa with
     | true =>
      have HFIN:Hid (EdE w d RR (.returned (.tuple #[.slice po ms.length co,.int .i64 4])) w6):=ANS.out w6 (K4.out.trans (K6.out.mono K4.out.size)) 4 (by rw [HRV.out,HRC.out,HPG.out.1,HAT.out,HA.out,hT];rfl);clear hT;go_wp2_with fail;exact bodyPost_ret (v:=.tuple #[.slice po ms.length co,.int .i64 4]) (by simp [results,Tryz.results14,go_sem]) rfl HFIN.out
     | false =>
      have HX:Hid (RR=finM d ms (ms.map (renM d ⟨qm,qn,qa,qc⟩ tv))):=by show _=_;rw [HRV.out,HRC.out,HPG.out.1,HAT.out,HA.out,hT];rfl
      have HNX:Hid (hasX m tv qa=false):=by
       show _=_;unfold Za5 Zch at hT;rw [HM.out.2.1] at hT;simp only [Option.getD_some,Bool.or_eq_false_iff] at hT;exact hT.2.1
      have ST6:Hid (Za8 w w6 d (.slice po ms.length co) ms #[.string qm,.string qn,.int .i64 qa,.int .i64 qc]):=ST5.out.next K6.out;obtain ⟨W7,hW7⟩:∃ W7,W7=w6.alloc (.cells #[.string qn,.int .i64 qa] 84):=⟨_,rfl⟩;have HW7:Hid (W7=w6.alloc (.cells #[.string qn,.int .i64 qa] 84)):=hW7;have ST7:Hid (Za8 w W7 d (.slice po ms.length co) ms #[.string qm,.string qn,.int .i64 qa,.int .i64 qc]):=ST6.out.next (by rw [hW7];exact (sqN _ _));have R7:Hid (Blk W7 w6.heap.size #[.string qn,.int .i64 qa] 84):=(by show Blk _ _ _ _;rw [hW7];exact Blk.new);have y1:=ST6.out.pl.cell 1 _ rfl;have y2:=ST6.out.pl.cell 2 _ rfl;clear hT hW7
      go_upto_region 12 with (rw [<-HW7.out])
      obtain ⟨g0,c0,pe',ce',pf',cf',hv0,hg0,hgw,b0,b1,b2,hfz,hmd0,hrr0,hst0⟩:=ST7.out.exps HM.out.1;obtain ⟨g6,c6,_,_,_,_,hv6,hg6,-⟩:=ST6.out.exps HM.out.1;obtain ⟨rfl,-⟩:=ZcL (hv0.symm.trans hv6);simp only [Value.slice.injEq] at hv0;obtain ⟨rfl,-,rfl⟩:=hv0;clear hv6;have HGG:Hid (g0<w6.heap.size/\w.heap.size+1<=g0/\W7.frozen? ⟨g0,k * 3+1,none⟩=false):=⟨hg6,hgw,hfz _⟩;have HMD0:Hid (HMd W7 All d [.string m.name,.slice pe' m.exports.length ce',.slice pf' m.funs.length cf'] m):=hmd0;have HRR0:Hid (Rows W7 All 2 HRf (.slice pe' m.exports.length ce') m.exports):=hrr0;have HST0:Hid (∀ (w':World) (u:Value) (rs:List Rf) (fq:List Nat),Below W7.heap.size W7 w'->Zg w' 84 2 (ORf w' d) u rs fq->fq.Nodup->(∀ a ∈ fq,W7.heap.size<=a)->Za8 w (w'.setCell ⟨g0,k * 3+1,none⟩ u) d (.slice (some ⟨g0,0,none⟩) ms.length co) (ms.set k ⟨m.name,rs,m.funs⟩) #[.string qm,.string qn,.int .i64 qa,.int .i64 qc]):=hst0;obtain ⟨r0,r1⟩:=sqB2 R7.out;have y2':=ST7.out.pl.cell 2 _ rfl
      have EX:Hid (Calls Tryz.prog 42 #[.agg #[.string m.name,.slice pe' m.exports.length ce',.slice pf' m.funs.length cf'],.agg #[.string qn,.int .i64 qa]] W7.drew λe w'=>e=.returned (.bool (hasX m qn qa))/\Below W7.drew.heap.size W7.drew w') :=
       Zay d W7.drew _ m qn qa (HMD0.out.mono (Za.of_below (Below.refl _ _).drew) sqj)
      have CE:Hid (∀ w',Below W7.heap.size W7 w'->w'.cell? ⟨g0,k * 3,none⟩=some (.string m.name)/\w'.cell? ⟨g0,k * 3+1,none⟩=some (.slice pe' m.exports.length ce')/\w'.cell? ⟨g0,k * 3+2,none⟩=some (.slice pf' m.funs.length cf')/\w'.cell? ⟨w6.heap.size,0,none⟩=some (.string qn)/\w'.cell? ⟨w6.heap.size,1,none⟩=some (.int .i64 qa)):=λw' hb=>⟨Zd hb b0,Zd hb b1,Zd hb b2,Zd hb r0,Zd hb r1⟩;clear y1 y2 hmd0 hrr0 hst0
      go_region_held3 (λw'=>w'.cell? ⟨g0,k * 3,none⟩=some (.string m.name)/\w'.cell? ⟨g0,k * 3+1,none⟩=some (.slice pe' m.exports.length ce')/\w'.cell? ⟨g0,k * 3+2,none⟩=some (.slice pf' m.funs.length cf')/\w'.cell? ⟨w6.heap.size,0,none⟩=some (.string qn)/\w'.cell? ⟨w6.heap.size,1,none⟩=some (.int .i64 qa))
       (first | with_reducible exact CE.out _ K8.out | with_reducible exact CE.out _ (Below.refl _ _).drew)
       (first | (go_at_call 42;refine EX.out.mono ?_;rintro e w8 ⟨rfl,hb8⟩;have K8:Hid (Below W7.heap.size W7 w8):=Z5 hb8;clear hb8))
      go_split_ands;generalize hB:hasX m qn qa=B;have HB:Hid (hasX m qn qa=B):=hB;clear hB EX CE
      go_upto_if 57 with fail
      go_cut [] (λwx=>Hid (Za8 w wx d (.slice (some ⟨g0,0,none⟩) ms.length co) (ms.set k ⟨m.name,expT ⟨qm,qn,qa,qc⟩ tv m,m.funs⟩) #[.string qm,.string qn,.int .i64 qa,.int .i64 qc]))
      case first =>
       cases B with
       | false =>
        have HE:Hid (ms.set k ⟨m.name,expT ⟨qm,qn,qa,qc⟩ tv m,m.funs⟩=ms):=by
         show _=_;have e:expT ⟨qm,qn,qa,qc⟩ tv m=m.exports:=(by unfold expT;rw [show hasX m qn qa=false from HB.out];rfl);rw [e]
         apply List.ext_getElem?
         intro a;by_cases ha:a=k
         . subst ha
           have:=HM.out.1;rw [List.getElem?_set_self (List.getElem?_eq_some_iff.1 this).1,this]
         . rw [List.getElem?_set_ne (λe=>ha e.symm)]
        go_wp2_with fail
        go_meet
        case rel=>rw [HE.out];exact ST7.out.next K8.out
       | true =>
        have HQA:Hid (okI qa):=by
         show okI qa;have h1:=Zln HMD0.out HM.out.2.2.2.1;have h2:=HM.out.2.2.2.2;unfold ZF at h2;simp only [Bool.and_eq_true,beq_iff_eq] at h2;rw [<-h2.2];exact h1
        have HNO:Hid (∀ x ∈ dropR ⟨qn,qa⟩ m.exports,Z4 tv qa x=false):=λx hx=>by
         have h1:=HNX.out;unfold hasX at h1;rw [List.any_eq_false] at h1;have:=h1 x (List.mem_filter.1 hx).1
         simpa using this
        have h20:m.exports.length<=20:=by
         have:=Zdo HPG.out.2 m (List.mem_of_getElem? HM.out.1);unfold mdOk at this;simp only [Bool.and_eq_true,decide_eq_true_eq] at this;exact this.2.1.1
        have HLN:Hid ((dropR ⟨qn,qa⟩ m.exports).length+1<=16777216):=by
         show _<=_;have:(dropR ⟨qn,qa⟩ m.exports).length<=m.exports.length:=List.length_filter_le _ _;omega
        have WO:Hid (Calls Tryz.prog 44 #[.slice pe' m.exports.length ce',.agg #[.string qn,.int .i64 qa]] w8.drew (ResO w8.drew λw' u fp=>Zg w' 84 2 (ORf w' d) u (dropR ⟨qn,qa⟩ m.exports) fp)) :=
         Ze0 d w8.drew _ m.exports ⟨qn,qa⟩ (HRR0.out.mono (Za.of_below K8.out.drew) sqj (λ_ _ _ h=>h)) (by omega)
        have x1:=Zd K8.out b1;have x2:=ZaG K8.out b1 HGG.out.2.2;have CF:Hid (∀ w',Below w8.heap.size w8 w'->w'.cell? ⟨w6.heap.size,0,none⟩=some (.string qn)/\w'.cell? ⟨w6.heap.size,1,none⟩=some (.int .i64 qa)/\w'.cell? ⟨w.heap.size,2,none⟩=some (.int .i64 qa)):=λw' hb=>⟨Zd hb (Zd K8.out r0),Zd hb (Zd K8.out r1),Zd hb (Zd K8.out y2')⟩
        have CG:Hid (∀ w',Below w8.heap.size w8 w'->∀ v,(w'.setCell ⟨g0,k * 3+1,none⟩ v).cell? ⟨w6.heap.size,0,none⟩=some (.string qn)/\(w'.setCell ⟨g0,k * 3+1,none⟩ v).cell? ⟨w6.heap.size,1,none⟩=some (.int .i64 qa)/\(w'.setCell ⟨g0,k * 3+1,none⟩ v).cell? ⟨w.heap.size,2,none⟩=some (.int .i64 qa)):=λw' hb v=>by
         obtain ⟨h1,h2,-⟩:=HGG.out;obtain ⟨d0,d1,d2⟩:=CF.out w' hb;exact ⟨(CpC.cellS (p:=⟨w6.heap.size,0,none⟩) (by show w6.heap.size≠g0;omega)).trans d0,(CpC.cellS (p:=⟨w6.heap.size,1,none⟩) (by show w6.heap.size≠g0;omega)).trans d1,(CpC.cellS (p:=⟨w.heap.size,2,none⟩) (by show w.heap.size≠g0;omega)).trans d2⟩
        have xb:w8.drew.cell? ⟨g0,k * 3+1,none⟩=some (.slice pe' m.exports.length ce'):=x1;clear h20;go_wp2_with fail;refine wp_region_noPanic ?_;refine wp_region_held_drew (S:=(λw'=>w'.cell? ⟨w6.heap.size,0,none⟩=some (.string qn)/\w'.cell? ⟨w6.heap.size,1,none⟩=some (.int .i64 qa)/\w'.cell? ⟨w.heap.size,2,none⟩=some (.int .i64 qa))) (by kernel_rfl) (CF.out _ (Below.refl _ _).drew) (λhHeld=>?_);refine tkH 0 ?_
        try simp only [sqP]
        refine tkH 1 ?_
        try simp only [sqP]
        refine tkH 2 ?_
        try simp only [sqP]
        refine tkH 3 ?_
        try simp only [sqP]
        refine tkH 4 ?_
        try simp only [sqP]
        refine tkH 5 ?_
        try simp only [sqP]
        refine tkH 7 ?_
        try simp only [sqP]
        refine tkH 9 ?_
        try simp only [sqP]
        refine tkH 10 ?_
        try simp only [sqP]
        refine tkH 11 ?_
        try simp only [sqP]
        refine tkH 12 ?_
        try simp only [sqP]
        refine oneH 6 (λK hK=>?_)
        go_simp
        refine hK.out _ _ (CF.out _ (Below.refl _ _).drew) (λhHeld=>?_);clear hK K
        try simp only [sqP]
        refine oneH 8 (λK hK=>?_)
        go_simp
        go_at_call 44
        refine WO.out.mono ?_;rintro e w9 ⟨u9,f9,rfl,ho9,hn9,hr9,hb9⟩;obtain ⟨p9,c9,hu9,-⟩:=ho9.shape;generalize hl9:(dropR ⟨qn,qa⟩ m.exports).length=n9 at hu9;subst hu9;have K9:Hid (Below w8.heap.size w8 w9):=Z5 hb9;have PU:Hid (Calls Tryz.prog 43 #[.slice p9 n9 c9,.agg #[.string tv,.int .i64 qa]] w9 (ResO w9 λw' u fp=>Zg w' 84 2 (ORf w' d) u (putR ⟨tv,qa⟩ (dropR ⟨qn,qa⟩ m.exports)) fp)):=ZiP d w9 _ _ ⟨tv,qa⟩ (ho9.rows (λ_ _=>trivial) (λcs x f _ hs h=>h.1)) ⟨HST.out,HQA.out⟩ HNO.out HLN.out;clear ho9 hn9 hr9 hb9 hl9;refine hK.out _ _ (CF.out _ K9.out) (λhHeld=>?_);clear hK K
        try simp only [sqP]
        refine oneH 13 (λK hK=>?_)
        go_simp
        go_at_call 43
        refine PU.out.mono ?_;rintro e w10 ⟨u10,f10,rfl,ho10,hn10,hr10,hb10⟩;obtain ⟨p10,c10,hu10,-⟩:=ho10.shape;generalize hl10:(putR ⟨tv,qa⟩ (dropR ⟨qn,qa⟩ m.exports)).length=n10 at hu10;subst hu10;have K10:Hid (Below w8.heap.size w8 w10):=K9.out.trans (hb10.mono K9.out.size);have U10:Hid (Zg w10 84 2 (ORf w10 d) (.slice p10 n10 c10) (putR ⟨tv,qa⟩ (dropR ⟨qn,qa⟩ m.exports)) f10/\f10.Nodup/\∀ a ∈ f10,w9.heap.size<=a):=⟨ho10,hn10,λa ha=>(hr10 a ha).1⟩;have z2:=Zd K10.out x1;have z3:=ZaG K10.out x1 x2;clear ho10 hn10 hr10 hb10 hl10;refine hK.out _ _ (CF.out _ K10.out) (λhHeld=>?_);clear hK K
        try simp only [sqP]
        refine tkH 14 ?_
        try simp only [sqP]
        refine tkH 15 ?_
        try simp only [sqP]
        refine oneH 16 (λK hK=>?_)
        go_simp
        refine hK.out _ _ (CG.out _ K10.out _) (λhHeld=>?_);clear hK K
        try simp only [sqP]
        refine wpAnyH_done (by kernel_rfl) ?_ _;refine NoPanic.normal ?_
        have HN:Hid (Za8 w (w10.setCell ⟨g0,k * 3+1,none⟩ (.slice p10 n10 c10)) d (.slice (some ⟨g0,0,none⟩) ms.length co) (ms.set k ⟨m.name,expT ⟨qm,qn,qa,qc⟩ tv m,m.funs⟩) #[.string qm,.string qn,.int .i64 qa,.int .i64 qc]):=by
         have e:expT ⟨qm,qn,qa,qc⟩ tv m=putR ⟨tv,qa⟩ (dropR ⟨qn,qa⟩ m.exports):=(by unfold expT;rw [show hasX m qn qa=true from HB.out];rfl);show Za8 _ _ _ _ _ _;rw [e];have k9:=K9.out.size;have k8:=K8.out.size;exact HST0.out w10 _ _ f10 (K8.out.trans (K10.out.mono K8.out.size)) U10.out.1 U10.out.2.1 (λa ha=>by have:=U10.out.2.2 a ha;omega)
        clear z2 z3 hHeld xb x1 x2;go_wp2_with fail
        go_meet
        case rel=>exact HN
      case rest =>
       have HC:=hcut;clear hcut;have HS1:Hid ((ms.set k ⟨m.name,expT ⟨qm,qn,qa,qc⟩ tv m,m.funs⟩)[k]?=some ⟨m.name,expT ⟨qm,qn,qa,qc⟩ tv m,m.funs⟩):=List.getElem?_set_self (List.getElem?_eq_some_iff.1 HM.out.1).1;obtain ⟨g1,c1,gf,cf1,u1,hv1,t0,t1,t2,hst1⟩:=HC.out.name HS1.out HM.out.2.2.2.1;obtain ⟨rfl,-⟩:=ZcL hv1
       have HN:Hid (Za8 w (wc.setCell ⟨gf,j * 3,none⟩ (.string tv)) d (.slice (some ⟨g0,0,none⟩) ms.length co) (ms.set k (newM ⟨qm,qn,qa,qc⟩ tv m j f)) #[.string qm,.string qn,.int .i64 qa,.int .i64 qc]):=by
        have h9:=hst1 tv HST.out;rw [List.set_set] at h9;exact h9
       simp only at t0;clear hst1 hv1 b0 b1 b2 r0 r1 y2' HB;go_wp2_with fail;revert HN;generalize wc.setCell ⟨gf,j * 3,none⟩ (.string tv)=V0;intro HN;obtain ⟨msN,hmsN⟩:∃ msN,msN=ms.set k (newM ⟨qm,qn,qa,qc⟩ tv m j f):=⟨_,rfl⟩;rw [<-hmsN] at HN;have HEQ:Hid (msN.map (λx=>allM (Zao (fT (ftN ⟨qm,qn,qa,qc⟩ (x.name.toList == qm.toList) tv)) d) x)=ms.map (renM d ⟨qm,qn,qa,qc⟩ tv)):=(by show _=_;rw [hmsN];exact ZmE HPG.out.2 HM.out.1 HM.out.2.2.1 HM.out.2.2.2.1 HM.out.2.2.2.2);have HLEN:Hid (msN.length=ms.length):=(by show _=_;rw [hmsN,List.length_set])
       have HWN:Hid (∀ (i:Nat) (x:Md),msN[i]?=some x->wtMd d x<=16777216):=by
        intro i x hx;have hw:=HW2.out;rw [hmsN] at hx;by_cases hik:i=k
        . subst hik
          rw [List.getElem?_set_self (List.getElem?_eq_some_iff.1 HM.out.1).1] at hx;obtain rfl:=Option.some.inj hx;have h1:=Zmk (tv:=tv) (q:=⟨qm,qn,qa,qc⟩) (Zdo HPG.out.2 m (List.mem_of_getElem? HM.out.1)) HM.out.2.2.2.1 HM.out.2.2.2.2 (Zdr HA.out);have h2:=Zdb (wtMd d) ms i m HM.out.1;omega
        . rw [List.getElem?_set_ne (λe=>hik e.symm)] at hx
          have h2:=Zdb (wtMd d) ms i x hx;omega
       have HFW:Hid (wtS (wtMd d) (ms.map (renM d ⟨qm,qn,qa,qc⟩ tv))<=16777216):=Nat.le_trans (Zf6 d ⟨qm,qn,qa,qc⟩ tv (Zdr HA.out) ms) HW2.out;have hnb:ms.length<=16777216:=(by have:=HW.out;unfold wtS at this;omega);clear hmsN t0 t1 t2 HC
       go_loopw [13] (λiv wr=>∃ (i:Nat),i<=ms.length/\iv=.int .i64 i/\Hid (Za8 w wr d (.slice (some ⟨g0,0,none⟩) ms.length co) (parL (λx=>allM (Zao (fT (ftN ⟨qm,qn,qa,qc⟩ (x.name.toList == qm.toList) tv)) d) x) msN i) #[.string qm,.string qn,.int .i64 qa,.int .i64 qc])) (λiv _=>ms.length - (intOf iv).toNat)
       case atStart=>exact ⟨0,Nat.zero_le _,rfl,by rw [Zkf];exact HN.out⟩
       case round =>
        obtain ⟨i,hi,rfl,HS⟩:=hrel;have hi0:=sqI i;by_cases hlt:i<ms.length
        . obtain ⟨x,hx⟩:∃ x,msN[i]?=some x:=⟨msN[i]'(by rw [HLEN.out];exact hlt),List.getElem?_eq_getElem _⟩
          obtain ⟨g2,c2,qe,de,qf,df,fm,hv2,hgn,d0,d1,d2,hfz2,hom,hnm,hcall⟩:=HS.out.calls (Zml hx);obtain ⟨rfl,-⟩:=ZcL hv2;have HOM:Hid (OMd wr.drew d [.string x.name,.slice qe x.exports.length de,.slice qf x.funs.length df] x fm):=hom.keep (λ_ _=>rfl)
          have HCALL:Hid (∀ (w':World) (x':Md) (f':List Nat),Off fm wr w'->OMd w' d [.string x.name,.slice qe x.exports.length de,.slice qf x.funs.length df] x' f'->f'.Nodup->(∀ a ∈ f',a ∈ fm\/wr.heap.size<=a) ->
           Za8 w w' d (.slice (some ⟨g0,0,none⟩) ms.length co) ((parL (λx=>allM (Zao (fT (ftN ⟨qm,qn,qa,qc⟩ (x.name.toList == qm.toList) tv)) d) x) msN i).set i x') #[.string qm,.string qn,.int .i64 qa,.int .i64 qc]/\(∀ t,w'.cell? ⟨g0,t,none⟩=wr.cell? ⟨g0,t,none⟩)/\(∀ t,w'.frozen? ⟨g0,t,none⟩=wr.frozen? ⟨g0,t,none⟩)/\Blk w' w.heap.size #[.string qm,.string qn,.int .i64 qa,.int .i64 qc] 31):=hcall
          have HFZ:Hid (∀ t,wr.frozen? ⟨g0,t,none⟩=false):=hfz2;have HSTEP:Hid ((parL (λx=>allM (Zao (fT (ftN ⟨qm,qn,qa,qc⟩ (x.name.toList == qm.toList) tv)) d) x) msN i).set i ((λx=>allM (Zao (fT (ftN ⟨qm,qn,qa,qc⟩ (x.name.toList == qm.toList) tv)) d) x) x)=parL (λx=>allM (Zao (fT (ftN ⟨qm,qn,qa,qc⟩ (x.name.toList == qm.toList) tv)) d) x) msN (i+1)):=Zkg hx
          have LC:Hid (Calls Tryz.prog 45 #[.agg #[.string x.name,.slice qe x.exports.length de,.slice qf x.funs.length df],.agg #[.string qm,.string qn,.int .i64 qa,.int .i64 qc],.string qm,.string tv] wr.drew λe w'=>e=.returned (.agg #[.string x.name,.slice qe x.exports.length de,.slice qf x.funs.length df])/\Hid (Off fm wr.drew w'/\∃ fp',OMd w' d [.string x.name,.slice qe x.exports.length de,.slice qf x.funs.length df] (allM (Zao (fT (ftN ⟨qm,qn,qa,qc⟩ (x.name.toList == qm.toList) tv)) d) x) fp'/\fp'.Nodup/\∀ a ∈ fp',a ∈ fm\/wr.drew.heap.size<=a)) :=
           ZgE d wr.drew [.string x.name,.slice qe x.exports.length de,.slice qf x.funs.length df] x ⟨qm,qn,qa,qc⟩ tv fm HOM.out hnm (HWN.out i x hx) HST.out
          obtain ⟨p0,p1,p2,p3⟩:=sqB4 HS.out.pl;have hii:(i:Int)<(ms.length:Int):=(by omega);have CE:Hid (wr.drew.cell? ⟨g0,i * 3,none⟩=some (.string x.name)/\wr.drew.cell? ⟨g0,i * 3+1,none⟩=some (.slice qe x.exports.length de)/\wr.drew.cell? ⟨g0,i * 3+2,none⟩=some (.slice qf x.funs.length df)/\wr.drew.cell? ⟨w.heap.size,0,none⟩=some (.string qm)/\wr.drew.cell? ⟨w.heap.size,1,none⟩=some (.string qn)/\wr.drew.cell? ⟨w.heap.size,2,none⟩=some (.int .i64 qa)/\wr.drew.cell? ⟨w.heap.size,3,none⟩=some (.int .i64 qc)):=⟨d0,d1,d2,p0,p1,p2,p3⟩;clear hv2 hom hnm hcall hfz2 hx;go_wp2_with fail
          go_region_held3 (λw'=>w'.cell? ⟨g0,i * 3,none⟩=some (.string x.name)/\w'.cell? ⟨g0,i * 3+1,none⟩=some (.slice qe x.exports.length de)/\w'.cell? ⟨g0,i * 3+2,none⟩=some (.slice qf x.funs.length df)/\w'.cell? ⟨w.heap.size,0,none⟩=some (.string qm)/\w'.cell? ⟨w.heap.size,1,none⟩=some (.string qn)/\w'.cell? ⟨w.heap.size,2,none⟩=some (.int .i64 qa)/\w'.cell? ⟨w.heap.size,3,none⟩=some (.int .i64 qc))
           (first | (rw [SID.out];with_reducible exact C7.out) | with_reducible exact C7.out | with_reducible exact CE.out)
           (first | (go_at_call 45;refine LC.out.mono ?_;rintro e w7 ⟨rfl,h7⟩;have H7:Hid (Za8 w w7 d (.slice (some ⟨g0,0,none⟩) ms.length co) (parL (λx=>allM (Zao (fT (ftN ⟨qm,qn,qa,qc⟩ (x.name.toList == qm.toList) tv)) d) x) msN (i+1)) #[.string qm,.string qn,.int .i64 qa,.int .i64 qc]/\(∀ t,w7.cell? ⟨g0,t,none⟩=wr.cell? ⟨g0,t,none⟩)/\(∀ t,w7.frozen? ⟨g0,t,none⟩=wr.frozen? ⟨g0,t,none⟩)/\Blk w7 w.heap.size #[.string qm,.string qn,.int .i64 qa,.int .i64 qc] 31):=(by
            obtain ⟨ho,fp',k1,k2,k3⟩:=h7.out;have:=HCALL.out w7 _ fp' ⟨ho.os,ho.tape,ho.output,ho.size,ho.block⟩ k1 k2 k3;show Za8 _ _ _ _ _ _/\_;rw [<-HSTEP.out]
            exact this);have C7:Hid (w7.cell? ⟨g0,i * 3,none⟩=some (.string x.name)/\w7.cell? ⟨g0,i * 3+1,none⟩=some (.slice qe x.exports.length de)/\w7.cell? ⟨g0,i * 3+2,none⟩=some (.slice qf x.funs.length df)/\w7.cell? ⟨w.heap.size,0,none⟩=some (.string qm)/\w7.cell? ⟨w.heap.size,1,none⟩=some (.string qn)/\w7.cell? ⟨w.heap.size,2,none⟩=some (.int .i64 qa)/\w7.cell? ⟨w.heap.size,3,none⟩=some (.int .i64 qc)):=(by
            obtain ⟨-,h1,-,h2⟩:=H7.out
            exact ⟨(h1 _).trans CE.out.1,(h1 _).trans CE.out.2.1,(h1 _).trans CE.out.2.2.1,h2.cell 0 _ rfl,h2.cell 1 _ rfl,h2.cell 2 _ rfl,h2.cell 3 _ rfl⟩);have SID:Hid (((w7.setCell ⟨g0,i * 3,none⟩ (.string x.name)).setCell ⟨g0,i * 3+1,none⟩ (.slice qe x.exports.length de)).setCell ⟨g0,i * 3+2,none⟩ (.slice qf x.funs.length df)=w7):=(by
            show _=_;obtain ⟨e0,e1,e2,-⟩:=C7.out
            rw [Zdy e0,Zdy e1,Zdy e2]);have z0:=C7.out.1;have z1:=C7.out.2.1;have z2:=C7.out.2.2.1;have f0:w7.frozen? ⟨g0,i * 3,none⟩=false:=(H7.out.2.2.1 _).trans (HFZ.out _);have f1:w7.frozen? ⟨g0,i * 3+1,none⟩=false:=(H7.out.2.2.1 _).trans (HFZ.out _);have f2:w7.frozen? ⟨g0,i * 3+2,none⟩=false:=(H7.out.2.2.1 _).trans (HFZ.out _);clear h7))
          go_split_ands;rw [SID.out];clear SID z0 z1 z2 f0 f1 f2 C7 CE d0 d1 d2 p0 p1 p2 p3 HCALL LC HOM;go_wp2_with fail;exact ⟨⟨i+1,by omega,by go_num,H7.out.1⟩,by simp [intOf];omega⟩
        . obtain ⟨n,hn⟩:∃ n,n=ms.length:=⟨_,rfl⟩
          have HI:Hid (i=ms.length):=(by show _=_;omega);obtain ⟨b9,-,fp9,o9,n9,r9⟩:=HS.out;rw [Zll (by rw [HLEN.out,HI.out];exact Nat.le_refl _),HEQ.out] at o9;have FIN:=ZhP d w wr (.slice (some ⟨gp,off,none⟩) ms.length cap) (.slice (some ⟨g0,0,none⟩) ms.length co) ms (ms.map (renM d ⟨qm,qn,qa,qc⟩ tv)) fp9 (HR.out _ b9) o9 n9 (λa ha=>by have:=r9 a ha;omega) b9 HW.out HFW.out;rw [<-HX.out] at FIN;have HFIN:Hid (Calls Tryz.prog 25 #[.slice (some ⟨gp,off,none⟩) ms.length cap,.slice (some ⟨g0,0,none⟩) ms.length co] wr λe w'=>EdE w d RR e w'):=FIN;have hii:¬ (i:Int)<(ms.length:Int):=(by omega);clear o9 n9 r9 b9 FIN hn;go_wp2_with fail;refine HFIN.out.mono ?_;rintro e w13 ⟨u,fpz,rfl,hz⟩;have HZ:Hid (EdE w d RR (.returned (.tuple #[u,.int .i64 RR.2])) w13):=⟨u,fpz,rfl,hz⟩;obtain ⟨pz,cz,hpz,-⟩:=hz.1.shape;subst hpz;clear hz;go_wp2_with fail;exact bodyPost_ret (v:=.tuple #[_,.int .i64 RR.2]) (by simp [results,Tryz.results14,go_sem]) rfl HZ.out
end Go.Proofs.YtdhlonogmnkemaaGreatDoor
