/-
  EachGen EachCall OwnSet Size ModsSz
-/
import Derived.Test.YtbdhpganbbandaaGreatDoorP03
set_option maxHeartbeats 16000000
set_option linter.unusedVariables false
set_option maxRecDepth 100000
namespace Go.Proofs.YtbdhpganbbandaaGreatDoor
open Go.ChangeShapes Go.WideShapes Go.ChangeAt Go.RowKit
section
def preX:Nat->Ex->List Ex
 | 0,_=>[]
 | d+1,x=>x :: (x.kids.flatMap (preX d) ++ x.clauses.flatMap λc=>c.1.flatMap (preX d) ++ c.2.flatMap (preX d))
structure Mv (M M':Nat->Prop) (w w':World):Prop where
 os:w'.os=w.os
 tape:w'.tape=w.tape
 output:w'.output=w.output
 size:w.heap.size<=w'.heap.size
 block:∀ g,g<w.heap.size->¬ M g->w'.heap[g]?=w.heap[g]?
 more:∀ g,M' g->M g\/w.heap.size<=g
theorem Mv.refl (M:Nat->Prop) (w:World):Mv M M w w:=⟨rfl,rfl,rfl,Nat.le_refl _,λ_ _ _=>rfl,λ_ h=>Or.inl h⟩
theorem Mv.trans {M M' M'':Nat->Prop} {a b c:World} (h:Mv M M' a b) (k:Mv M' M'' b c):Mv M M'' a c :=
 ⟨k.os.trans h.os,k.tape.trans h.tape,k.output.trans h.output,Nat.le_trans h.size k.size,λg hg hm=>by
  refine (k.block g (Nat.lt_of_lt_of_le hg h.size) (λe=>?_)).trans (h.block g hg hm)
  rcases h.more g e with e | e
  . exact hm e
  . omega,λg hg=>by
  rcases k.more g hg with e | e
  . exact h.more g e
  . exact Or.inr (Nat.le_trans h.size e)⟩
theorem Mv.of_below {M:Nat->Prop} {a b:World} (h:Bz a b):Mv M M a b:=⟨h.os,h.tape,h.output,h.size,λg hg _=>h.block g hg,λ_ h=>Or.inl h⟩
theorem Mv.below {M M':Nat->Prop} {a b:World} {N:Nat} (h:Mv M M' a b) (hM:∀ g,M g->N<=g) (hN:N<=a.heap.size):Below N a b :=
 ⟨h.os,h.tape,h.output,h.size,λg hg=>h.block g (by omega) (λe=>by have:=hM g e;omega)⟩
theorem Mv.sameOn {M M' S:Nat->Prop} {a b:World} (h:Mv M M' a b) (hS:∀ g,S g->¬ M g):SameOn S a b:=⟨h.size,λg hs hg=>h.block g hg (hS g hs)⟩
theorem Mv.blk {M M':Nat->Prop} {a b:World} {g:Nat} {cs:Array Value} {t:TypeId} (h:Mv M M' a b) (hb:Blk a g cs t) (hM:¬ M g):Blk b g cs t:=(h.block g hb.lt hM).trans hb
section
variable {σ:Type}
def Runs (ok:σ->Ex->Prop) (st:σ->Ex->σ):σ->List Ex->Prop
 | _,[]=>True
 | s,x :: l=>ok s x/\Runs ok st (st s x) l
theorem Runs.append {ok:σ->Ex->Prop} {st:σ->Ex->σ}:∀ {s:σ} {a b:List Ex},Runs ok st s (a ++ b) ↔ Runs ok st s a/\Runs ok st (a.foldl st s) b
 | s,[],b=>by simp [Runs]
 | s,x :: a,b=>by simp [Runs,Runs.append (s:=st s x) (a:=a) (b:=b),and_assoc]
theorem Runs.take {ok:σ->Ex->Prop} {st:σ->Ex->σ} {s:σ} {α:Type} {f:α->List Ex} {l:List α} (k:Nat) (x:α) (h:Runs ok st s (l.flatMap f)) (hk:l[k]?=some x) :
 Runs ok st (((l.take k).flatMap f).foldl st s) (f x)/\(((l.take (k+1)).flatMap f).foldl st s)=(f x).foldl st (((l.take k).flatMap f).foldl st s):=by
 have e1:(l.take (k+1)).flatMap f=(l.take k).flatMap f ++ f x:=(by rw [List.take_add_one,hk];simp);have e2:l.flatMap f=(l.take (k+1)).flatMap f ++ (l.drop (k+1)).flatMap f:=(by rw [<-List.flatMap_append,List.take_append_drop]);rw [e2,e1,List.append_assoc,Runs.append,Runs.append] at h;exact ⟨h.2.1,by rw [e1,List.foldl_append]⟩
structure Tells (F:FuncId) (tb:Nat) (I:World->(Nat->Prop)->σ->Prop) (ok:σ->Ex->Prop) (st:σ->Ex->σ) (S:Nat->Prop):Prop where
 off:∀ w M s,I w M s->(∀ g,S g->¬ M g)/\(∀ g,M g->g<w.heap.size)/\(∀ g,S g->g<w.heap.size)
 next:∀ w w' M s,I w M s->Bz w w'->I w' M s
 call:∀ w M s d cs x,I w M s->HEx w S d cs x->ok s x->Calls Tryz.prog F #[.agg cs.toArray,.pointer (some ⟨tb,0,none⟩)] w λe w'=>e=.returned (.tuple #[])/\∃ M',I w' M' (st s x)/\Mv M M' w w'
end
end
section
open Go.Proofs.Tryz
section
variable {σ:Type} {tb:Nat} {I:World->(Nat->Prop)->σ->Prop} {ok:σ->Ex->Prop} {st:σ->Ex->σ} {S:Nat->Prop}
abbrev FVC (tb:Nat):Value:=.func (.func 172) #[] #[.pointer (some ⟨tb,0,none⟩)]
theorem shapeC {w:World} {S:Nat->Prop} {d:Nat} {cs:List Value} {x:Ex} (h:HEx w S d cs x):∃ sk sn st se p1 n1 q1 p2 n2 q2,cs = [.int .i64 sk,.int .i64 sn,.string st,.string se,.slice p1 n1 q1,.slice p2 n2 q2]:=by
 cases d with
 | zero=>exact h.elim
 | succ d =>
  obtain ⟨kv,cv,rfl,_,_,_,_,⟨p1,c1,rfl,_⟩,⟨p2,c2,rfl,_⟩⟩:=h;exact ⟨_,_,_,_,_,_,_,_,_,_,rfl⟩
def EeTC (tb:Nat) (I:World->(Nat->Prop)->σ->Prop) (ok:σ->Ex->Prop) (st:σ->Ex->σ) (S:Nat->Prop) (d:Nat):Prop:=∀ (w:World) (M:Nat->Prop) (s:σ) (cs:List Value) (x:Ex),HEx w S d cs x->I w M s->Runs ok st s (preX d x) ->
 Calls prog 177 #[.agg cs.toArray,FVC tb] w λe w'=>e=.returned (.tuple #[])/\∃ M',I w' M' ((preX d x).foldl st s)/\Mv M M' w w'
def EoTC (tb:Nat) (I:World->(Nat->Prop)->σ->Prop) (ok:σ->Ex->Prop) (st:σ->Ex->σ) (S:Nat->Prop) (d:Nat):Prop:=∀ (w:World) (M:Nat->Prop) (s:σ) (v:Value) (es:List Ex),Rows w S 6 (HEx w S d) v es->I w M s->Runs ok st s (es.flatMap (preX d)) ->
 Calls prog 171 #[v,FVC tb] w λe w'=>e=.returned (.tuple #[])/\∃ M',I w' M' ((es.flatMap (preX d)).foldl st s)/\Mv M M' w w'
theorem eachOfC_of (T:Tells 172 tb I ok st S) {d:Nat} (hE:EeTC tb I ok st S d):EoTC tb I ok st S d:=by
 intro w M s v es hr hv hK;obtain ⟨p,cap,rfl,hcl,hcm,hx⟩:=hr;have hnb:=sqM hcl hcm;have HX:=hid hx;have HV:=hid hv;have HK:=hid hK;have HOF:Hid (∀ g,S g->¬ M g):=(T.off w M s hv).1;generalize hn:es.length=n at *;have HN:=hid hn;clear hx hv hK hn;go_enter func171,ntmps171;go_wp2_with fail
 go_loopw [8] (λiv wr=>∃ k:Nat,k<=n/\iv=.int .i64 k/\Hid (∃ M',I wr M' (((es.take k).flatMap (preX d)).foldl st s)/\Mv M M' w wr)) (λiv _=>n - (intOf iv).toNat)
 case atStart=>exact ⟨0,Nat.zero_le _,rfl,⟨M,by simpa using HV.out,Mv.refl _ _⟩⟩
 case round =>
  obtain ⟨k,hk,rfl,HVk⟩:=hrel;obtain ⟨Mk,ik,mk⟩:=HVk.out;have IK:=hid ik;have MK:=hid mk;clear HVk ik mk;by_cases hlt:k<n
  . obtain ⟨x,hxk⟩:=sqA (l:=es) (k:=k) HN.out hlt
    obtain ⟨g,off,rfl,hgm,hgl,hat⟩:=HX.out (sqE hxk);obtain ⟨cs,hcsl,hcs,r1⟩:=hat k x hxk;have SK:=hid (MK.out.sameOn HOF.out);have E1:=hid (r1.mono SK.out sqj);obtain ⟨c0,c1,c2,c3,c4,c5,rfl⟩:=len6 hcsl;have hge:wr.heap[g]?=w.heap[g]?:=SK.out.2 g hgm hgl;have a0:=(sqK (a:=⟨g,off+k * 6+0,none⟩) hge).trans (hcs 0 (by omega));have a1:=(sqK (a:=⟨g,off+k * 6+1,none⟩) hge).trans (hcs 1 (by omega));have a2:=(sqK (a:=⟨g,off+k * 6+2,none⟩) hge).trans (hcs 2 (by omega));have a3:=(sqK (a:=⟨g,off+k * 6+3,none⟩) hge).trans (hcs 3 (by omega));have a4:=(sqK (a:=⟨g,off+k * 6+4,none⟩) hge).trans (hcs 4 (by omega));have a5:=(sqK (a:=⟨g,off+k * 6+5,none⟩) hge).trans (hcs 5 (by omega));simp at a0 a1 a2 a3 a4 a5;obtain ⟨hr1,hj1⟩:=Runs.take k x HK.out hxk;have HR1:=hid hr1;have HJ1:=hid hj1;generalize ((es.take k).flatMap (preX d)).foldl st s=sk at *;have hki:(k:Int)<(n:Int):=(by omega);have hk0:=sqI k;clear hat hcs hcsl r1 hge hr1 hj1;obtain ⟨sk',sn,st0,se,p1,n1,q1,p2,n2,q2,hsh⟩:=shapeC E1.out;simp only [List.cons.injEq,and_true] at hsh;obtain ⟨rfl,rfl,rfl,rfl,rfl,rfl⟩:=hsh;have HBA:Hid (Bz wr (wr.alloc (.cells #[.int .i64 sk',.int .i64 sn,.string st0,.string se,.slice p1 n1 q1,.slice p2 n2 q2] 74))):=(sqN _ _);go_wp2_with fail;refine (hE _ Mk sk _ x (E1.out.mono (sqO HBA.out) sqj) (T.next _ _ _ _ IK.out HBA.out) HR1.out).mono ?_;rintro e w1 ⟨rfl,M1,i1,m1⟩;have HI1:Hid (∃ M',I w1 M' (((es.take (k+1)).flatMap (preX d)).foldl st s)/\Mv M M' w w1):=⟨M1,by rw [HJ1.out];exact i1,(MK.out.trans (Mv.of_below HBA.out)).trans m1⟩;clear i1 m1;go_wp2_with fail;exact ⟨⟨k+1,by omega,by go_num,HI1⟩,by simp [intOf];omega⟩
  . have HS:Hid (∃ M',I wr M' ((es.flatMap (preX d)).foldl st s)/\Mv M M' w wr):=⟨Mk,by
     have:=IK.out
     rwa [show es.take k=es from List.take_of_length_le (by rw [HN.out];omega)] at this,MK.out⟩
    go_wp2;go_end0;exact ⟨rfl,HS.out⟩
theorem eachExpC_of (T:Tells 172 tb I ok st S) {d:Nat} (hO:EoTC tb I ok st S d):EeTC tb I ok st S (d+1):=by
 intro w M s cs x h hv hK;have HEX:=hid h;obtain ⟨kv,cv,rfl,-,-,-,-,f0,f1⟩:=h;have hpre:preX (d+1) x=x :: (x.kids.flatMap (preX d) ++ x.clauses.flatMap λc=>c.1.flatMap (preX d) ++ c.2.flatMap (preX d)):=rfl;rw [hpre] at hK ⊢;simp only [List.foldl_cons,List.foldl_append];obtain ⟨hk0,hK⟩:=hK;rw [Runs.append] at hK;have HK0:=hid hk0;have HK1:=hid hK.1;have HK2:=hid hK.2;have HX0:Hid (∀ w' d',HEx w' S d' [.int .i64 x.kind,.int .i64 x.n,.string x.text,.string x.mod,kv,cv] x->True):=λ_ _ _=>trivial;have HOF:Hid ((∀ g,S g->¬ M g)/\(∀ g,M g->g<w.heap.size)):=⟨(T.off w M s hv).1,(T.off w M s hv).2.1⟩;have F0:=hid f0;obtain ⟨p,cap,rfl,-⟩:=id f0;obtain ⟨pc,capc,rfl,hcl',hcm',hxc⟩:=f1;have hnc:=sqM hcl' hcm';have HXC:=hid hxc;generalize hx1:x.kind=kx at *;generalize hx2:x.n=nx at *;generalize hx3:x.text=tx at *;generalize hx4:x.mod=mx at *;generalize hx5:x.kids=ks at *;generalize hx6:x.clauses=cl at *;clear hx1 hx2 hx3 hx4 hx5 hx6 HX0;generalize hm:cl.length=nc at *;have HNC:=hid hm;have HBA:Hid (Bz w (w.alloc (.cells #[.int .i64 kx,.int .i64 nx,.string tx,.string mx,.slice p ks.length cap,.slice pc nc capc] 74))):=(sqN _ _);have HV:=hid (T.next _ _ _ _ hv HBA.out);have bA:Hid (Blk (w.alloc (.cells #[.int .i64 kx,.int .i64 nx,.string tx,.string mx,.slice p ks.length cap,.slice pc nc capc] 74)) w.heap.size #[.int .i64 kx,.int .i64 nx,.string tx,.string mx,.slice p ks.length cap,.slice pc nc capc] 74):=Blk.new
 have nA:Hid (¬ M w.heap.size):=λe=>by have:=HOF.out.2 _ e;omega
 clear f0 hxc hm hpre hv hK hk0;go_enter func177,ntmps177;go_wp2_with fail;refine (T.call _ M s (d+1) _ x HV.out (HEX.out.mono (sqO HBA.out) sqj) HK0.out).mono ?_;rintro e w1 ⟨rfl,M1,i1,m1⟩;have HV1:=hid i1;have HM1:Hid (Mv M M1 w w1):=(Mv.of_below HBA.out).trans m1;have b1:=hid (m1.blk bA.out nA.out)
 have n1':Hid (¬ M1 w.heap.size):=λe=>by
  rcases m1.more _ e with e | e
  . exact nA.out e
  . rw [alloc_hs] at e;omega
 have x4:=b1.out.cell 4 _ rfl;clear i1 m1 HV bA;go_wp2_with fail;refine (hO _ M1 (st s x) _ ks (Rows.mono F0.out (HM1.out.sameOn HOF.out.1) sqj (λ_ _ _ h=>h.mono (HM1.out.sameOn HOF.out.1) sqj)) HV1.out HK1.out).mono ?_;rintro e w2 ⟨rfl,M2,i2,m2⟩;have HV2:=hid i2;have HM2:=hid (HM1.out.trans m2);have b2:=hid (m2.blk b1.out n1'.out);have x5:=b2.out.cell 5 _ rfl;clear i2 m2 x4 b1 HV1 HM1 n1';generalize hs2:(ks.flatMap (preX d)).foldl st (st s x)=s2 at *;have HS2:=hid hs2;clear hs2;go_wp2_with fail
 go_loopw [16] (λiv wr=>∃ k:Nat,k<=nc/\iv=.int .i64 k/\Hid (∃ M',I wr M' (((cl.take k).flatMap λc=>c.1.flatMap (preX d) ++ c.2.flatMap (preX d)).foldl st s2)/\Mv M M' w wr)) (λiv _=>nc - (intOf iv).toNat)
 case atStart=>exact ⟨0,Nat.zero_le _,rfl,⟨M2,by simpa using HV2.out,HM2.out⟩⟩
 case round =>
  obtain ⟨k,hk,rfl,HVk⟩:=hrel;obtain ⟨Mk,ik,mk⟩:=HVk.out;have IK:=hid ik;have MK:=hid mk;clear x5 HV2 HM2 b2 HVk ik mk;by_cases hlt:k<nc
  . obtain ⟨c,hck⟩:∃ c,cl[k]?=some c:=⟨cl[k]'(by rw [HNC.out];exact hlt),List.getElem?_eq_getElem _⟩
    obtain ⟨g,off,rfl,hgm,hgl,hat⟩:=HXC.out (sqE hck);obtain ⟨cs,hcsl,hcs,pv,bv,rfl,rp,rb⟩:=hat k c hck;have SK:=hid (MK.out.sameOn HOF.out.1);have RP:=hid (Rows.mono rp SK.out sqj (λ_ _ _ h=>h.mono SK.out sqj));have RB:=hid (Rows.mono rb SK.out sqj (λ_ _ _ h=>h.mono SK.out sqj));obtain ⟨pp,capp,rfl,-⟩:=rp;obtain ⟨pb,capb,rfl,-⟩:=rb;have hge:wr.heap[g]?=w.heap[g]?:=SK.out.2 g hgm hgl;have a0:=(sqK (a:=⟨g,off+k * 2+0,none⟩) hge).trans (hcs 0 (by omega));have a1:=(sqK (a:=⟨g,off+k * 2+1,none⟩) hge).trans (hcs 1 (by omega));simp at a0 a1;obtain ⟨hr1,hj1⟩:=Runs.take k c HK2.out hck;rw [Runs.append] at hr1;rw [List.foldl_append] at hj1;generalize ((cl.take k).flatMap λc=>c.1.flatMap (preX d) ++ c.2.flatMap (preX d)).foldl st s2=sk at *;have HR1:=hid hr1.1;have HR2:=hid hr1.2;have HJ1:=hid hj1;have hki:(k:Int)<(nc:Int):=(by omega);have hk0:=sqI k;have HOK:Hid ((∀ g,S g->¬ Mk g)/\¬ Mk wr.heap.size):=⟨(T.off wr Mk sk IK.out).1,λe=>by have:=(T.off wr Mk sk IK.out).2.1 _ e;omega⟩;have HBC:Hid (Bz wr (wr.alloc (.cells #[.slice pp c.1.length capp,.slice pb c.2.length capb] 44))):=(sqN _ _);have bC:Hid (Blk (wr.alloc (.cells #[.slice pp c.1.length capp,.slice pb c.2.length capb] 44)) wr.heap.size #[.slice pp c.1.length capp,.slice pb c.2.length capb] 44):=Blk.new;clear hat hcs hcsl hge hr1 hj1;go_wp2_with fail;refine (hO _ Mk sk _ c.1 (Rows.mono RP.out (sqO HBC.out) sqj (λ_ _ _ h=>h.mono (sqO HBC.out) sqj)) (T.next _ _ _ _ IK.out HBC.out) HR1.out).mono ?_;rintro e w3 ⟨rfl,M3,i3,m3⟩;have HV3:=hid i3;have HM3:Hid (Mv Mk M3 wr w3):=(Mv.of_below HBC.out).trans m3;have b3:Blk w3 wr.heap.size #[.slice pp c.1.length capp,.slice pb c.2.length capb] 44:=m3.blk bC.out HOK.out.2;have y1:=b3.cell 1 _ rfl;clear i3 m3 bC b3 a0 a1;go_wp2_with fail;refine (hO _ M3 ((c.1.flatMap (preX d)).foldl st sk) _ c.2 (Rows.mono RB.out (HM3.out.sameOn HOK.out.1) sqj (λ_ _ _ h=>h.mono (HM3.out.sameOn HOK.out.1) sqj)) HV3.out HR2.out).mono ?_;rintro e w4 ⟨rfl,M4,i4,m4⟩;have HI4:Hid (∃ M',I w4 M' (((cl.take (k+1)).flatMap λc=>c.1.flatMap (preX d) ++ c.2.flatMap (preX d)).foldl st s2)/\Mv M M' w w4):=⟨M4,by rw [HJ1.out];exact i4,(MK.out.trans HM3.out).trans m4⟩;clear i4 m4;go_wp2_with fail;exact ⟨⟨k+1,by omega,by go_num,HI4⟩,by simp [intOf];omega⟩
  . have HS:Hid (∃ M',I wr M' ((cl.flatMap λc=>c.1.flatMap (preX d) ++ c.2.flatMap (preX d)).foldl st s2)/\Mv M M' w wr):=⟨Mk,by
     have:=IK.out
     rwa [show cl.take k=cl from List.take_of_length_le (by rw [HNC.out];omega)] at this,MK.out⟩
    go_wp2;go_end0;exact ⟨rfl,by rw [HS2.out];exact HS.out⟩
theorem eachExpC_all (T:Tells 172 tb I ok st S):∀ d,EeTC tb I ok st S d
 | 0=>λw M s cs x h _ _=>h.elim
 | d+1=>eachExpC_of T (eachOfC_of T (eachExpC_all T d))
theorem eachOfC_all (T:Tells 172 tb I ok st S) (d:Nat):EoTC tb I ok st S d:=eachOfC_of T (eachExpC_all T d)
end
end
theorem flat_set {fps:List (List Nat)} {i g:Nat} {f f' fq:List Nat} (hnd:(g :: fps.flatten).Nodup) (hf:fps[i]?=some f) (hn':f'.Nodup) (hs:∀ a ∈ f',a ∈ f\/a ∈ fq) (hd:∀ a ∈ fq,a ∉ g :: fps.flatten) :
 (g :: (fps.set i f').flatten).Nodup/\∀ a ∈ g :: (fps.set i f').flatten,a ∈ g :: fps.flatten\/a ∈ fq:=by
 obtain ⟨h1,h2⟩:=nodup_parts hnd
 have hmem:∀ a ∈ (fps.set i f').flatten,(∃ j fj,j≠i/\fps[j]?=some fj/\a ∈ fj)\/a ∈ f':=by
  intro a ha;obtain ⟨x,hx,hax⟩:=List.mem_flatten.1 ha;obtain ⟨j,hj⟩:=List.mem_iff_getElem?.1 hx;by_cases hji:j=i
  . subst hji
    rw [List.getElem?_set_self (List.getElem?_eq_some_iff.1 hf).1] at hj;obtain rfl:=Option.some.inj hj;exact .inr hax
  . rw [List.getElem?_set_ne (λh=>hji h.symm)] at hj
    exact .inl ⟨j,x,hji,hj,hax⟩
 have hin:∀ a ∈ f,a ∈ g :: fps.flatten:=λa ha=>List.mem_cons_of_mem _ (List.mem_flatten.2 ⟨f,List.mem_of_getElem? hf,ha⟩);refine ⟨?_,λa ha=>?_⟩
 . rw [List.nodup_cons]
   refine ⟨λhg=>?_,?_⟩
   . rcases hmem g hg with ⟨j,fj,hj,hfj,hgj⟩ | hgf
     . exact (h1 fj (List.mem_of_getElem? hfj)).1 hgj
     . rcases hs g hgf with h | h
       . exact (h1 f (List.mem_of_getElem? hf)).1 h
       . exact hd g h (by simp)
   . unfold List.Nodup
     rw [List.pairwise_flatten];refine ⟨λx hx=>?_,?_⟩
     . obtain ⟨j,hj⟩:=List.mem_iff_getElem?.1 hx
       by_cases hji:j=i
       . subst hji
         rw [List.getElem?_set_self (List.getElem?_eq_some_iff.1 hf).1] at hj;obtain rfl:=Option.some.inj hj;exact hn'
       . rw [List.getElem?_set_ne (λh=>hji h.symm)] at hj
         exact (h1 x (List.mem_of_getElem? hj)).2
     . rw [List.pairwise_iff_getElem]
       intro p q hp hq hpq a ha b hb hab;subst hab;obtain ⟨X,e1,ha⟩:∃ X,(fps.set i f')[p]?=some X/\a ∈ X:=⟨_,List.getElem?_eq_getElem hp,ha⟩;obtain ⟨Y,e2,hb⟩:∃ Y,(fps.set i f')[q]?=some Y/\a ∈ Y:=⟨_,List.getElem?_eq_getElem hq,hb⟩
       have key:∀ (u:Nat) fu,u≠i->fps[u]?=some fu->a ∈ fu->a ∈ f'->False:=by
        intro u fu hu hfu hau haf
        rcases hs a haf with h | h
        . exact h2 u i fu f hu hfu hf a hau h
        . exact hd a h (List.mem_cons_of_mem _ (List.mem_flatten.2 ⟨fu,List.mem_of_getElem? hfu,hau⟩))
       have hlen:=(List.getElem?_eq_some_iff.1 hf).1;by_cases hpi:p=i
       . have hqi:q≠i:=by omega
         rw [hpi,List.getElem?_set_self hlen] at e1;rw [List.getElem?_set_ne (λh=>hqi h.symm)] at e2;obtain rfl:=Option.some.inj e1;exact key q _ hqi e2 hb ha
       . rw [List.getElem?_set_ne (λh=>hpi h.symm)] at e1
         by_cases hqi:q=i
         . rw [hqi,List.getElem?_set_self hlen] at e2
           obtain rfl:=Option.some.inj e2;exact key p _ hpi e1 ha hb
         . rw [List.getElem?_set_ne (λh=>hqi h.symm)] at e2
           exact h2 p q _ _ (by omega) e1 e2 a ha hb
 . rcases List.mem_cons.1 ha with rfl | ha
   . exact .inl (by simp)
   . rcases hmem a ha with ⟨j,fj,hj,hfj,haj⟩ | haf
     . exact .inl (List.mem_cons_of_mem _ (List.mem_flatten.2 ⟨fj,List.mem_of_getElem? hfj,haj⟩))
     . rcases hs a haf with h | h
       . exact .inl (hin a h)
       . exact .inr h
theorem ORows.through {α:Type} {w:World} {e:TypeId} {c:Nat} {R:List Value->α->List Nat->Prop} {v:Value} {xs:List α} {fp:List Nat} (h:ORows w e c R v xs fp) (hnd:fp.Nodup) {i:Nat} {x:α} (hi:xs[i]?=some x) :
 ∃ g cap cs f,v=.slice (some ⟨g,0,none⟩) xs.length cap/\g ∈ fp/\(∀ a ∈ f,a ∈ fp)/\g ∉ f/\f.Nodup/\cs.length=c/\(∀ j,j<c->w.cell? ⟨g,i * c+j,none⟩=cs[j]?)/\R cs x f /\
  ∀ (w':World) (R':List Value->α->List Nat->Prop) (x':α) (f' fq:List Nat) (b:Nat),b ∈ f->(∀ a,a≠b->w'.heap[a]?=w.heap[a]?)->R' cs x' f'->f'.Nodup->(∀ a ∈ f',a ∈ f\/a ∈ fq)->(∀ a ∈ fq,a ∉ fp) ->
   (∀ cs y fy,b ∉ fy->R cs y fy->R' cs y fy)->∃ fp',ORows w' e c R' v (xs.set i x') fp'/\fp'.Nodup/\∀ a ∈ fp',a ∈ fp\/a ∈ fq:=by
 have hil:i<xs.length:=(List.getElem?_eq_some_iff.1 hi).1
 rcases h with ⟨rfl,_⟩ | ⟨hne,cells,g,cap,fps,ho,hv,hl,rfl,hat⟩
 . simp at hil
 obtain ⟨f,hf⟩:∃ f,fps[i]?=some f:=⟨fps[i]'(by rw [hl];exact hil),List.getElem?_eq_getElem _⟩;obtain ⟨cs,hcl,hcs,hr⟩:=hat i x f hi hf;obtain ⟨n1,n2⟩:=nodup_parts hnd;have hfm:=List.mem_of_getElem? hf;refine ⟨g,cap,cs,f,hv,by simp,λa ha=>List.mem_cons_of_mem _ (List.mem_flatten.2 ⟨f,hfm,ha⟩),(n1 f hfm).1,(n1 f hfm).2,hcl,λj hj=>?_,hr,?_⟩
 . rw [<-hcs j hj]
   rw [hv] at ho;refine ho.cellAt (i * c+j) ?_;have:i * c+c<=xs.length * c:=(by rw [<-Nat.succ_mul];exact Nat.mul_le_mul_right c hil);omega
 . intro w' R' x' f' fq b hb hk hr' hn' hs hd hR
   have hgb:g≠b:=λe=>(n1 f hfm).1 (e ▸ hb);obtain ⟨m1,m2⟩:=flat_set hnd hf hn' hs hd;refine ⟨g :: (fps.set i f').flatten,.inr ⟨λh=>hne (by cases xs with | nil=>rfl | cons a l=>cases i <;> simp at h),cells,g,cap,fps.set i f',?_,by rw [List.length_set];exact hv,by rw [List.length_set,List.length_set];exact hl,rfl,λj y fy hj hfy=>?_⟩,m1,m2⟩
   . rw [List.length_set]
     exact owns_block ho hv (hk g hgb)
   . by_cases hji:j=i
     . subst hji
       rw [List.getElem?_set_self hil] at hj;obtain rfl:=Option.some.inj hj;rw [List.getElem?_set_self (List.getElem?_eq_some_iff.1 hf).1] at hfy;obtain rfl:=Option.some.inj hfy;exact ⟨cs,hcl,hcs,hr'⟩
     . rw [List.getElem?_set_ne (λh=>hji h.symm)] at hj hfy
       obtain ⟨cs2,k1,k2,k3⟩:=hat j y fy hj hfy;exact ⟨cs2,k1,k2,hR cs2 y fy (λhbf=>n2 i j f fy (λh=>hji h.symm) hf hfy b hb hbf) k3⟩
theorem ORows.store2 {α:Type} {w:World} {e:TypeId} {R:List Value->α->List Nat->Prop} {v:Value} {xs:List α} {fp:List Nat} (h:ORows w e 2 R v xs fp) (hnd:fp.Nodup) {i:Nat} {x:α} (hi:xs[i]?=some x) :
 ∃ g cap,v=.slice (some ⟨g,0,none⟩) xs.length cap/\g ∈ fp /\
  ∀ (R':List Value->α->List Nat->Prop) (x':α) (d0 d1:Value) (fq:List Nat),R' [d0,d1] x' fq->fq.Nodup->(∀ a ∈ fq,a ∉ fp)->(∀ cs y fy,g ∉ fy->R cs y fy->R' cs y fy) ->
   ∃ fp',ORows ((w.setCell ⟨g,i * 2,none⟩ d0).setCell ⟨g,i * 2+1,none⟩ d1) e 2 R' v (xs.set i x') fp'/\fp'.Nodup/\∀ a ∈ fp',a ∈ fp\/a ∈ fq:=by
 have hil:i<xs.length:=(List.getElem?_eq_some_iff.1 hi).1
 rcases h with ⟨rfl,_⟩ | ⟨hne,cells,g,cap,fps,ho,hv,hl,rfl,hat⟩
 . simp at hil
 obtain ⟨f,hf⟩:∃ f,fps[i]?=some f:=⟨fps[i]'(by rw [hl];exact hil),List.getElem?_eq_getElem _⟩;obtain ⟨n1,n2⟩:=nodup_parts hnd;have hfm:=List.mem_of_getElem? hf;refine ⟨g,cap,hv,by simp,?_⟩;intro R' x' d0 d1 fq hr' hn' hd hR;obtain ⟨m1,m2⟩:=flat_set hnd hf hn' (λa ha=>.inr ha) hd;have ho2:=ho;rw [hv] at ho2;have sd:=stored2 ho2 (i * 2) d0 d1;have hlen:cells.length=xs.length * 2:=ho.1;refine ⟨g :: (fps.set i fq).flatten,.inr ⟨λh=>hne (by cases xs with | nil=>rfl | cons a l=>cases i <;> simp at h),(cells.set (i * 2) d0).set (i * 2+1) d1,g,cap,fps.set i fq,?_,by rw [List.length_set];exact hv,by rw [List.length_set,List.length_set];exact hl,rfl,λj y fy hj hfy=>?_⟩,m1,m2⟩
 . rw [List.length_set,hv]
   exact sd.1
 . by_cases hji:j=i
   . subst hji
     rw [List.getElem?_set_self hil] at hj;obtain rfl:=Option.some.inj hj;rw [List.getElem?_set_self (List.getElem?_eq_some_iff.1 hf).1] at hfy;obtain rfl:=Option.some.inj hfy;exact ⟨[d0,d1],rfl,λp hp=>set2_self (by omega) p hp,hr'⟩
   . rw [List.getElem?_set_ne (λh=>hji h.symm)] at hj hfy
     obtain ⟨cs2,k1,k2,k3⟩:=hat j y fy hj hfy;refine ⟨cs2,k1,λp hp=>?_,hR cs2 y fy (λhg=>(n1 fy (List.mem_of_getElem? hfy)).1 hg) k3⟩;rw [<-k2 p hp];rw [List.getElem?_set_ne (by omega),List.getElem?_set_ne (by omega)]
section
open Go.Proofs.Tryz
variable {N:Nat}
theorem szExpS_of {d:Nat} (hE:SzC 182 (λw v e=>∃ cs,v=.agg cs.toArray/\HEx w (λg=>g<N) d cs e) (wtEx d)) :
 SzC 159 (λw v es=>Rows w (λg=>g<N) 6 (HEx w (λg=>g<N) d) v es) (wtS (wtEx d)):=by
 intro w v es left h hl;obtain ⟨p,cap,rfl,hcl,hcm,hx⟩:=h;generalize hn:es.length=n at *;have HN:=hid hn;have HX:Hid _:=hx;have hnb:=sqM hcl hcm;clear hx hn;by_cases h0:left<n
 . have hr:leftOf left (wtS (wtEx d) es) = -1:=leftOf_lt (by unfold wtS;rw [HN.out];omega)
   have HR:Hid (leftOf left (wtS (wtEx d) es) = -1):=hr;clear hr;go_enter func159,ntmps159;go_wp2;go_ret;exact ⟨by rw [HR.out];rfl,Below.refl _ _⟩
 . go_enter func159,ntmps159
   go_wp2
   go_loopw [1,5] (λlv iv wr=>∃ k r:Nat,k<=n/\iv=.int .i64 k/\lv=.int .i64 r/\Hid (r+n+((es.take k).map (wtEx d)).sum=left)/\Bz w wr) (λ_ iv _=>n - (intOf iv).toNat)
   case atStart=>exact ⟨0,left - n,Nat.zero_le _,rfl,by go_num,(by show left - n+n+_=left;simp;omega),Below.refl _ _⟩
   case round =>
    obtain ⟨k,r,hk,rfl,rfl,hrs,hb⟩:=hrel;have HB:=hid hb;by_cases hlt:k<n
    . obtain ⟨x,hxk⟩:=sqA (l:=es) (k:=k) HN.out hlt
      obtain ⟨g,off,rfl,hg,hgl,hat⟩:=HX.out (sqE hxk);obtain ⟨cs,hcl6,hcs,hex⟩:=hat k x hxk;have hex':HEx wr (λg=>g<N) d cs x:=hex.mono (sqO hb) sqj;obtain ⟨c0,c1,c2,c3,c4,c5,rfl⟩:=len6 hcl6;obtain ⟨a0,a1,a2,a3,a4,a5⟩:=sqC6 hcs (by omega);rw [<-hb.cell (p:=⟨g,_,none⟩) hgl] at a0 a1 a2 a3 a4 a5;simp at a0 a1 a2 a3 a4 a5;clear hb hcs hat hex hcl6;have hrb:r<=16777216:=(by have:=hrs.out;omega);have hst:=sum_take_succ (wtEx d) es k x hxk;have HST:=hid hst;have hle:=sum_take_le (wtEx d) es (k+1);have HLE:=hid hle;clear hst hle;generalize hwx:wtEx d x=y at *;have HY:=hid hwx;by_cases hy:r<y
      . have hr:leftOf left (wtS (wtEx d) es) = -1:=leftOf_lt (by unfold wtS;have:=hrs.out;have:=HLE.out;have:=HST.out;rw [HN.out];omega)
        have HR:Hid (leftOf left (wtS (wtEx d) es) = -1):=hr;have hr2:leftOf r y = -1:=leftOf_lt hy;clear hr hwx;go_wp2_with (go_at_call 182;go_must (refine (hE _ _ x r ⟨_,rfl,hex'⟩ hrb).mono ?_;rintro e w1 ⟨rfl,hb1⟩;rw [HY.out,hr2];have HB1:Hid _:=hb1;clear hb1));go_ret;exact ⟨by rw [HR.out];rfl,HB.out.trans (HB1.out.mono HB.out.size)⟩
      . have hr2:leftOf r y=((r - y:Nat):Int):=leftOf_ge (by omega)
        clear hwx;go_wp2_with (go_at_call 182;go_must (refine (hE _ _ x r ⟨_,rfl,hex'⟩ hrb).mono ?_;rintro e w1 ⟨rfl,hb1⟩;rw [HY.out,hr2];have HB1:Hid _:=hb1;clear hb1));exact ⟨⟨k+1,r - y,by omega,by go_num,rfl,(by have:=hrs.out;have:=HST.out;show r - y+n+_=left;omega),HB.out.trans (HB1.out.mono HB.out.size)⟩,by simp [intOf];omega⟩
    . have hr:leftOf left (wtS (wtEx d) es)=(r:Int):=by
       have h1:=hrs.out;rw [List.take_of_length_le (by rw [HN.out];omega)] at h1;rw [leftOf_ge (by unfold wtS;rw [HN.out];omega)];unfold wtS;rw [HN.out];omega
      have HR:Hid (leftOf left (wtS (wtEx d) es)=(r:Int)):=hr;clear hr;go_wp2;go_ret;exact ⟨by rw [HR.out];rfl,HB.out⟩
theorem szClauseS_of {d:Nat} (hE:SzC 129 (λw v e=>∃ cs,v=.agg cs.toArray/\HCl w (λg=>g<N) (HEx w (λg=>g<N) d) cs e) (wtCl (wtEx d))) :
 SzC 101 (λw v es=>Rows w (λg=>g<N) 2 (HCl w (λg=>g<N) (HEx w (λg=>g<N) d)) v es) (wtS (wtCl (wtEx d))):=by
 intro w v es left h hl;obtain ⟨p,cap,rfl,hcl,hcm,hx⟩:=h;generalize hn:es.length=n at *;have HN:=hid hn;have HX:Hid _:=hx;have hnb:=sqM hcl hcm;clear hx hn;by_cases h0:left<n
 . have hr:leftOf left (wtS (wtCl (wtEx d)) es) = -1:=leftOf_lt (by unfold wtS;rw [HN.out];omega)
   have HR:Hid (leftOf left (wtS (wtCl (wtEx d)) es) = -1):=hr;clear hr;go_enter func101,ntmps101;go_wp2;go_ret;exact ⟨by rw [HR.out];rfl,Below.refl _ _⟩
 . go_enter func101,ntmps101
   go_wp2
   go_loopw [1,5] (λlv iv wr=>∃ k r:Nat,k<=n/\iv=.int .i64 k/\lv=.int .i64 r/\Hid (r+n+((es.take k).map (wtCl (wtEx d))).sum=left)/\Bz w wr) (λ_ iv _=>n - (intOf iv).toNat)
   case atStart=>exact ⟨0,left - n,Nat.zero_le _,rfl,by go_num,(by show left - n+n+_=left;simp;omega),Below.refl _ _⟩
   case round =>
    obtain ⟨k,r,hk,rfl,rfl,hrs,hb⟩:=hrel;have HB:=hid hb;by_cases hlt:k<n
    . obtain ⟨x,hxk⟩:=sqA (l:=es) (k:=k) HN.out hlt
      obtain ⟨g,off,rfl,hg,hgl,hat⟩:=HX.out (sqE hxk);obtain ⟨cs,hcl6,hcs,hex⟩:=hat k x hxk;have hex':HCl wr (λg=>g<N) (HEx wr (λg=>g<N) d) cs x:=hex.mono (sqO hb) sqj (λ_ _=>HEx.mono (sqO hb) sqj);obtain ⟨c0,c1,rfl⟩:=len2 hcl6;obtain ⟨a0,a1⟩:=sqC2 hcs (by omega);rw [<-hb.cell (p:=⟨g,_,none⟩) hgl] at a0 a1;simp at a0 a1;clear hb hcs hat hex hcl6;have hrb:r<=16777216:=(by have:=hrs.out;omega);have hst:=sum_take_succ (wtCl (wtEx d)) es k x hxk;have HST:=hid hst;have hle:=sum_take_le (wtCl (wtEx d)) es (k+1);have HLE:=hid hle;clear hst hle;generalize hwx:wtCl (wtEx d) x=y at *;have HY:=hid hwx;by_cases hy:r<y
      . have hr:leftOf left (wtS (wtCl (wtEx d)) es) = -1:=leftOf_lt (by unfold wtS;have:=hrs.out;have:=HLE.out;have:=HST.out;rw [HN.out];omega)
        have HR:Hid (leftOf left (wtS (wtCl (wtEx d)) es) = -1):=hr;have hr2:leftOf r y = -1:=leftOf_lt hy;clear hr hwx;go_wp2_with (go_at_call 129;go_must (refine (hE _ _ x r ⟨_,rfl,hex'⟩ hrb).mono ?_;rintro e w1 ⟨rfl,hb1⟩;rw [HY.out,hr2];have HB1:Hid _:=hb1;clear hb1));go_ret;exact ⟨by rw [HR.out];rfl,HB.out.trans (HB1.out.mono HB.out.size)⟩
      . have hr2:leftOf r y=((r - y:Nat):Int):=leftOf_ge (by omega)
        clear hwx;go_wp2_with (go_at_call 129;go_must (refine (hE _ _ x r ⟨_,rfl,hex'⟩ hrb).mono ?_;rintro e w1 ⟨rfl,hb1⟩;rw [HY.out,hr2];have HB1:Hid _:=hb1;clear hb1));exact ⟨⟨k+1,r - y,by omega,by go_num,rfl,(by have:=hrs.out;have:=HST.out;show r - y+n+_=left;omega),HB.out.trans (HB1.out.mono HB.out.size)⟩,by simp [intOf];omega⟩
    . have hr:leftOf left (wtS (wtCl (wtEx d)) es)=(r:Int):=by
       have h1:=hrs.out;rw [List.take_of_length_le (by rw [HN.out];omega)] at h1;rw [leftOf_ge (by unfold wtS;rw [HN.out];omega)];unfold wtS;rw [HN.out];omega
      have HR:Hid (leftOf left (wtS (wtCl (wtEx d)) es)=(r:Int)):=hr;clear hr;go_wp2;go_ret;exact ⟨by rw [HR.out];rfl,HB.out⟩
theorem szFunS_of {d:Nat} (hE:SzC 70 (λw v e=>∃ cs,v=.agg cs.toArray/\HFn w (λg=>g<N) d cs e) (wtFn d)) :
 SzC 38 (λw v es=>Rows w (λg=>g<N) 3 (HFn w (λg=>g<N) d) v es) (wtS (wtFn d)):=by
 intro w v es left h hl;obtain ⟨p,cap,rfl,hcl,hcm,hx⟩:=h;generalize hn:es.length=n at *;have HN:=hid hn;have HX:Hid _:=hx;have hnb:=sqM hcl hcm;clear hx hn;by_cases h0:left<n
 . have hr:leftOf left (wtS (wtFn d) es) = -1:=leftOf_lt (by unfold wtS;rw [HN.out];omega)
   have HR:Hid (leftOf left (wtS (wtFn d) es) = -1):=hr;clear hr;go_enter func38,ntmps38;go_wp2;go_ret;exact ⟨by rw [HR.out];rfl,Below.refl _ _⟩
 . go_enter func38,ntmps38
   go_wp2
   go_loopw [1,5] (λlv iv wr=>∃ k r:Nat,k<=n/\iv=.int .i64 k/\lv=.int .i64 r/\Hid (r+n+((es.take k).map (wtFn d)).sum=left)/\Bz w wr) (λ_ iv _=>n - (intOf iv).toNat)
   case atStart=>exact ⟨0,left - n,Nat.zero_le _,rfl,by go_num,(by show left - n+n+_=left;simp;omega),Below.refl _ _⟩
   case round =>
    obtain ⟨k,r,hk,rfl,rfl,hrs,hb⟩:=hrel;have HB:=hid hb;by_cases hlt:k<n
    . obtain ⟨x,hxk⟩:=sqA (l:=es) (k:=k) HN.out hlt
      obtain ⟨g,off,rfl,hg,hgl,hat⟩:=HX.out (sqE hxk);obtain ⟨cs,hcl6,hcs,hex⟩:=hat k x hxk;have hex':HFn wr (λg=>g<N) d cs x:=hex.mono (sqO hb) sqj;obtain ⟨c0,c1,c2,rfl⟩:=len3 hcl6;obtain ⟨a0,a1,a2⟩:=sqC3 hcs (by omega);rw [<-hb.cell (p:=⟨g,_,none⟩) hgl] at a0 a1 a2;simp at a0 a1 a2;clear hb hcs hat hex hcl6;have hrb:r<=16777216:=(by have:=hrs.out;omega);have hst:=sum_take_succ (wtFn d) es k x hxk;have HST:=hid hst;have hle:=sum_take_le (wtFn d) es (k+1);have HLE:=hid hle;clear hst hle;generalize hwx:wtFn d x=y at *;have HY:=hid hwx;by_cases hy:r<y
      . have hr:leftOf left (wtS (wtFn d) es) = -1:=leftOf_lt (by unfold wtS;have:=hrs.out;have:=HLE.out;have:=HST.out;rw [HN.out];omega)
        have HR:Hid (leftOf left (wtS (wtFn d) es) = -1):=hr;have hr2:leftOf r y = -1:=leftOf_lt hy;clear hr hwx;go_wp2_with (go_at_call 70;go_must (refine (hE _ _ x r ⟨_,rfl,hex'⟩ hrb).mono ?_;rintro e w1 ⟨rfl,hb1⟩;rw [HY.out,hr2];have HB1:Hid _:=hb1;clear hb1));go_ret;exact ⟨by rw [HR.out];rfl,HB.out.trans (HB1.out.mono HB.out.size)⟩
      . have hr2:leftOf r y=((r - y:Nat):Int):=leftOf_ge (by omega)
        clear hwx;go_wp2_with (go_at_call 70;go_must (refine (hE _ _ x r ⟨_,rfl,hex'⟩ hrb).mono ?_;rintro e w1 ⟨rfl,hb1⟩;rw [HY.out,hr2];have HB1:Hid _:=hb1;clear hb1));exact ⟨⟨k+1,r - y,by omega,by go_num,rfl,(by have:=hrs.out;have:=HST.out;show r - y+n+_=left;omega),HB.out.trans (HB1.out.mono HB.out.size)⟩,by simp [intOf];omega⟩
    . have hr:leftOf left (wtS (wtFn d) es)=(r:Int):=by
       have h1:=hrs.out;rw [List.take_of_length_le (by rw [HN.out];omega)] at h1;rw [leftOf_ge (by unfold wtS;rw [HN.out];omega)];unfold wtS;rw [HN.out];omega
      have HR:Hid (leftOf left (wtS (wtFn d) es)=(r:Int)):=hr;clear hr;go_wp2;go_ret;exact ⟨by rw [HR.out];rfl,HB.out⟩
theorem szRefS_of {d:Nat} (hE:SzC 69 (λw v e=>∃ cs,v=.agg cs.toArray/\HRf cs e) (wtRf)) :
 SzC 37 (λw v es=>Rows w (λg=>g<N) 2 (HRf) v es) (wtS (wtRf)):=by
 intro w v es left h hl;obtain ⟨p,cap,rfl,hcl,hcm,hx⟩:=h;generalize hn:es.length=n at *;have HN:=hid hn;have HX:Hid _:=hx;have hnb:=sqM hcl hcm;clear hx hn;by_cases h0:left<n
 . have hr:leftOf left (wtS (wtRf) es) = -1:=leftOf_lt (by unfold wtS;rw [HN.out];omega)
   have HR:Hid (leftOf left (wtS (wtRf) es) = -1):=hr;clear hr;go_enter func37,ntmps37;go_wp2;go_ret;exact ⟨by rw [HR.out];rfl,Below.refl _ _⟩
 . go_enter func37,ntmps37
   go_wp2
   go_loopw [1,5] (λlv iv wr=>∃ k r:Nat,k<=n/\iv=.int .i64 k/\lv=.int .i64 r/\Hid (r+n+((es.take k).map (wtRf)).sum=left)/\Bz w wr) (λ_ iv _=>n - (intOf iv).toNat)
   case atStart=>exact ⟨0,left - n,Nat.zero_le _,rfl,by go_num,(by show left - n+n+_=left;simp;omega),Below.refl _ _⟩
   case round =>
    obtain ⟨k,r,hk,rfl,rfl,hrs,hb⟩:=hrel;have HB:=hid hb;by_cases hlt:k<n
    . obtain ⟨x,hxk⟩:=sqA (l:=es) (k:=k) HN.out hlt
      obtain ⟨g,off,rfl,hg,hgl,hat⟩:=HX.out (sqE hxk);obtain ⟨cs,hcl6,hcs,hex⟩:=hat k x hxk;have hex':HRf cs x:=hex;obtain ⟨c0,c1,rfl⟩:=len2 hcl6;obtain ⟨a0,a1⟩:=sqC2 hcs (by omega);rw [<-hb.cell (p:=⟨g,_,none⟩) hgl] at a0 a1;simp at a0 a1;clear hb hcs hat hex hcl6;have hrb:r<=16777216:=(by have:=hrs.out;omega);have hst:=sum_take_succ (wtRf) es k x hxk;have HST:=hid hst;have hle:=sum_take_le (wtRf) es (k+1);have HLE:=hid hle;clear hst hle;generalize hwx:wtRf x=y at *;have HY:=hid hwx;by_cases hy:r<y
      . have hr:leftOf left (wtS (wtRf) es) = -1:=leftOf_lt (by unfold wtS;have:=hrs.out;have:=HLE.out;have:=HST.out;rw [HN.out];omega)
        have HR:Hid (leftOf left (wtS (wtRf) es) = -1):=hr;have hr2:leftOf r y = -1:=leftOf_lt hy;clear hr hwx;go_wp2_with (go_at_call 69;go_must (refine (hE _ _ x r ⟨_,rfl,hex'⟩ hrb).mono ?_;rintro e w1 ⟨rfl,hb1⟩;rw [HY.out,hr2];have HB1:Hid _:=hb1;clear hb1));go_ret;exact ⟨by rw [HR.out];rfl,HB.out.trans (HB1.out.mono HB.out.size)⟩
      . have hr2:leftOf r y=((r - y:Nat):Int):=leftOf_ge (by omega)
        clear hwx;go_wp2_with (go_at_call 69;go_must (refine (hE _ _ x r ⟨_,rfl,hex'⟩ hrb).mono ?_;rintro e w1 ⟨rfl,hb1⟩;rw [HY.out,hr2];have HB1:Hid _:=hb1;clear hb1));exact ⟨⟨k+1,r - y,by omega,by go_num,rfl,(by have:=hrs.out;have:=HST.out;show r - y+n+_=left;omega),HB.out.trans (HB1.out.mono HB.out.size)⟩,by simp [intOf];omega⟩
    . have hr:leftOf left (wtS (wtRf) es)=(r:Int):=by
       have h1:=hrs.out;rw [List.take_of_length_le (by rw [HN.out];omega)] at h1;rw [leftOf_ge (by unfold wtS;rw [HN.out];omega)];unfold wtS;rw [HN.out];omega
      have HR:Hid (leftOf left (wtS (wtRf) es)=(r:Int)):=hr;clear hr;go_wp2;go_ret;exact ⟨by rw [HR.out];rfl,HB.out⟩
theorem szExp_of {d:Nat} (h1:SzC 159 (λw v es=>Rows w (λg=>g<N) 6 (HEx w (λg=>g<N) d) v es) (wtS (wtEx d))) (h2:SzC 101 (λw v es=>Rows w (λg=>g<N) 2 (HCl w (λg=>g<N) (HEx w (λg=>g<N) d)) v es) (wtS (wtCl (wtEx d)))) :
 SzC 182 (λw v e=>∃ cs,v=.agg cs.toArray/\HEx w (λg=>g<N) (d+1) cs e) (wtEx (d+1)):=by
 intro w v e left h hl;obtain ⟨cs,rfl,kv,cv,rfl,hk,hn,ht,hm,hks,hcs⟩:=h;have hb0:e.text.size<=9223372036854775807:=(by have:=ht;unfold okS maxLen at this;omega);have hb1:e.mod.size<=9223372036854775807:=(by have:=hm;unfold okS maxLen at this;omega);have hal:SameOn (λg=>g<N) w (w.alloc (.cells #[.int .i64 e.kind,.int .i64 e.n,.string e.text,.string e.mod,kv,cv] 241)):=sqO ((sqN _ _))
 replace hks:=hks.mono hal sqj (λ_ _ _=>HEx.mono hal sqj)
 replace hcs:=hcs.mono hal sqj (λ_ _ _ h=>h.mono hal sqj (λ_ _=>HEx.mono hal sqj))
 have HW:Hid (wtEx (d+1) e=e.text.size+e.mod.size+wtS (wtEx d) e.kids+wtS (wtCl (wtEx d)) e.clauses):=rfl;generalize wtEx (d+1) e=W at *;have hx0:∃ x0:Nat,e.text.size=x0:=⟨_,rfl⟩;obtain ⟨x0,hx0⟩:=hx0;rw [hx0] at hb0;have hx1:∃ x1:Nat,e.mod.size=x1:=⟨_,rfl⟩;obtain ⟨x1,hx1⟩:=hx1;rw [hx1] at hb1;generalize hx2:wtS (wtEx d) e.kids=x2 at *;have HX2:=hid hx2;clear hx2;generalize hx3:wtS (wtCl (wtEx d)) e.clauses=x3 at *;have HX3:=hid hx3;clear hx3;by_cases t0:left<x0
 . have HR:Hid (leftOf left W = -1):=by
    have:=HW.out;show leftOf left W=_;exact leftOf_lt (by omega)
   clear HW;go_enter func182,ntmps182;go_wp2;go_ret;exact ⟨by rw [HR.out];first | rfl | (congr 2;omega) | (simp;omega),((sqN _ _))⟩
 by_cases t1:left - x0<x1
 . have HR:Hid (leftOf left W = -1):=by
    have:=HW.out;show leftOf left W=_;exact leftOf_lt (by omega)
   clear HW;go_enter func182,ntmps182;go_wp2;go_ret;exact ⟨by rw [HR.out];first | rfl | (congr 2;omega) | (simp;omega),((sqN _ _))⟩
 by_cases t2:left - x0 - x1<x2
 . have HR:Hid (leftOf left W = -1):=by
    have:=HW.out;show leftOf left W=_;exact leftOf_lt (by omega)
   have hr2:leftOf (left - x0 - x1) x2 = -1:=leftOf_lt t2;clear HW;go_enter func182,ntmps182;go_wp2_with (first | (go_at_call 159;go_must (refine (h1.at (w:=_) (v:=_) e.kids _ (left - x0 - x1) (by omega) hks (by omega)).mono ?_;rintro e w2 ⟨rfl,hb2⟩;rw [HX2.out,hr2];have HB2:Hid _:=hb2;have hk2:=(hb2.cell (p:=⟨w.heap.size,5,none⟩) (by simp)).trans (cell_new _ _ _ 5 cv rfl);clear hb2)) );go_ret;exact ⟨by rw [HR.out];first | rfl | (congr 2;omega) | (simp;omega),(((sqN _ _)).trans (HB2.out.mono ((sqN _ _)).size))⟩
 by_cases t3:left - x0 - x1 - x2<x3
 . have HR:Hid (leftOf left W = -1):=by
    have:=HW.out;show leftOf left W=_;exact leftOf_lt (by omega)
   have hr2:leftOf (left - x0 - x1) x2=((left - x0 - x1 - x2:Nat):Int):=(by rw [leftOf_ge (by omega)]);have hr3:leftOf (left - x0 - x1 - x2) x3 = -1:=leftOf_lt t3;clear HW;go_enter func182,ntmps182;go_wp2_with (first | (go_at_call 101;go_must (refine (h2.at (w:=_) (v:=_) e.clauses _ (left - x0 - x1 - x2) (by omega) (hcs.mono (sqO HB2.out) sqj (λ_ _ _ h=>h.mono (sqO HB2.out) sqj (λ_ _=>HEx.mono (sqO HB2.out) sqj))) (by omega)).mono ?_;rintro e w3 ⟨rfl,hb3⟩;rw [HX3.out,hr3];have HB3:Hid _:=hb3;clear hb3)) | (go_at_call 159;go_must (refine (h1.at (w:=_) (v:=_) e.kids _ (left - x0 - x1) (by omega) hks (by omega)).mono ?_;rintro e w2 ⟨rfl,hb2⟩;rw [HX2.out,hr2];have HB2:Hid _:=hb2;have hk2:=(hb2.cell (p:=⟨w.heap.size,5,none⟩) (by simp)).trans (cell_new _ _ _ 5 cv rfl);clear hb2)) );go_ret;exact ⟨by rw [HR.out];first | rfl | (congr 2;omega) | (simp;omega),((((sqN _ _)).trans (HB2.out.mono ((sqN _ _)).size)).trans (HB3.out.mono (((sqN _ _)).trans (HB2.out.mono ((sqN _ _)).size)).size))⟩
 have HR:Hid (leftOf left W=((left - x0 - x1 - x2 - x3:Nat):Int)):=by
  have:=HW.out;show leftOf left W=_;rw [leftOf_ge (by omega)];omega
 have hr2:leftOf (left - x0 - x1) x2=((left - x0 - x1 - x2:Nat):Int):=(by rw [leftOf_ge (by omega)]);have hr3:leftOf (left - x0 - x1 - x2) x3=((left - x0 - x1 - x2 - x3:Nat):Int):=(by rw [leftOf_ge (by omega)]);clear HW;go_enter func182,ntmps182;go_wp2_with (first | (go_at_call 101;go_must (refine (h2.at (w:=_) (v:=_) e.clauses _ (left - x0 - x1 - x2) (by omega) (hcs.mono (sqO HB2.out) sqj (λ_ _ _ h=>h.mono (sqO HB2.out) sqj (λ_ _=>HEx.mono (sqO HB2.out) sqj))) (by omega)).mono ?_;rintro e w3 ⟨rfl,hb3⟩;rw [HX3.out,hr3];have HB3:Hid _:=hb3;clear hb3)) | (go_at_call 159;go_must (refine (h1.at (w:=_) (v:=_) e.kids _ (left - x0 - x1) (by omega) hks (by omega)).mono ?_;rintro e w2 ⟨rfl,hb2⟩;rw [HX2.out,hr2];have HB2:Hid _:=hb2;have hk2:=(hb2.cell (p:=⟨w.heap.size,5,none⟩) (by simp)).trans (cell_new _ _ _ 5 cv rfl);clear hb2)) );go_ret;exact ⟨by rw [HR.out];first | rfl | (congr 2;omega) | (simp;omega),((((sqN _ _)).trans (HB2.out.mono ((sqN _ _)).size)).trans (HB3.out.mono (((sqN _ _)).trans (HB2.out.mono ((sqN _ _)).size)).size))⟩
theorem szClause_of {d:Nat} (h1:SzC 159 (λw v es=>Rows w (λg=>g<N) 6 (HEx w (λg=>g<N) d) v es) (wtS (wtEx d))) (h2:SzC 159 (λw v es=>Rows w (λg=>g<N) 6 (HEx w (λg=>g<N) d) v es) (wtS (wtEx d))) :
 SzC 129 (λw v e=>∃ cs,v=.agg cs.toArray/\HCl w (λg=>g<N) (HEx w (λg=>g<N) d) cs e) (wtCl (wtEx d)):=by
 intro w v e left h hl;obtain ⟨cs,rfl,kv,cv,rfl,hks,hcs⟩:=h;have hal:SameOn (λg=>g<N) w (w.alloc (.cells #[kv,cv] 178)):=sqO ((sqN _ _))
 replace hks:=hks.mono hal sqj (λ_ _ _=>HEx.mono hal sqj)
 replace hcs:=hcs.mono hal sqj (λ_ _ _=>HEx.mono hal sqj)
 have HW:Hid (wtCl (wtEx d) e=wtS (wtEx d) e.1+wtS (wtEx d) e.2):=rfl;generalize wtCl (wtEx d) e=W at *;generalize hx0:wtS (wtEx d) e.1=x0 at *;have HX0:=hid hx0;clear hx0;generalize hx1:wtS (wtEx d) e.2=x1 at *;have HX1:=hid hx1;clear hx1;by_cases t0:left<x0
 . have HR:Hid (leftOf left W = -1):=by
    have:=HW.out;show leftOf left W=_;exact leftOf_lt (by omega)
   have hr0:leftOf (left) x0 = -1:=leftOf_lt t0;clear HW;go_enter func129,ntmps129;go_wp2_with (first | (go_at_call 159;(refine (h1.at (w:=_) (v:=_) e.1 _ (left) (by omega) hks (by omega)).mono ?_;rintro e w0 ⟨rfl,hb0⟩;rw [HX0.out,hr0];have HB0:Hid _:=hb0;have hk0:=(hb0.cell (p:=⟨w.heap.size,1,none⟩) (by simp)).trans (cell_new _ _ _ 1 cv rfl);clear hb0)) );go_ret;exact ⟨by rw [HR.out];first | rfl | (congr 2;omega) | (simp;omega),(((sqN _ _)).trans (HB0.out.mono ((sqN _ _)).size))⟩
 by_cases t1:left - x0<x1
 . have HR:Hid (leftOf left W = -1):=by
    have:=HW.out;show leftOf left W=_;exact leftOf_lt (by omega)
   have hr0:leftOf (left) x0=((left - x0:Nat):Int):=(by rw [leftOf_ge (by omega)]);have hr1:leftOf (left - x0) x1 = -1:=leftOf_lt t1;clear HW;go_enter func129,ntmps129;go_wp2_with (first | (go_at_call 159;(refine (h2.at (w:=_) (v:=_) e.2 _ (left - x0) (by omega) (hcs.mono (sqO HB0.out) sqj (λ_ _ _=>HEx.mono (sqO HB0.out) sqj)) (by omega)).mono ?_;rintro e w1 ⟨rfl,hb1⟩;rw [HX1.out,hr1];have HB1:Hid _:=hb1;clear hb1)) | (go_at_call 159;(refine (h1.at (w:=_) (v:=_) e.1 _ (left) (by omega) hks (by omega)).mono ?_;rintro e w0 ⟨rfl,hb0⟩;rw [HX0.out,hr0];have HB0:Hid _:=hb0;have hk0:=(hb0.cell (p:=⟨w.heap.size,1,none⟩) (by simp)).trans (cell_new _ _ _ 1 cv rfl);clear hb0)) );go_ret;exact ⟨by rw [HR.out];first | rfl | (congr 2;omega) | (simp;omega),((((sqN _ _)).trans (HB0.out.mono ((sqN _ _)).size)).trans (HB1.out.mono (((sqN _ _)).trans (HB0.out.mono ((sqN _ _)).size)).size))⟩
 have HR:Hid (leftOf left W=((left - x0 - x1:Nat):Int)):=by
  have:=HW.out;show leftOf left W=_;rw [leftOf_ge (by omega)];omega
 have hr0:leftOf (left) x0=((left - x0:Nat):Int):=(by rw [leftOf_ge (by omega)]);have hr1:leftOf (left - x0) x1=((left - x0 - x1:Nat):Int):=(by rw [leftOf_ge (by omega)]);clear HW;go_enter func129,ntmps129;go_wp2_with (first | (go_at_call 159;(refine (h2.at (w:=_) (v:=_) e.2 _ (left - x0) (by omega) (hcs.mono (sqO HB0.out) sqj (λ_ _ _=>HEx.mono (sqO HB0.out) sqj)) (by omega)).mono ?_;rintro e w1 ⟨rfl,hb1⟩;rw [HX1.out,hr1];have HB1:Hid _:=hb1;clear hb1)) | (go_at_call 159;(refine (h1.at (w:=_) (v:=_) e.1 _ (left) (by omega) hks (by omega)).mono ?_;rintro e w0 ⟨rfl,hb0⟩;rw [HX0.out,hr0];have HB0:Hid _:=hb0;have hk0:=(hb0.cell (p:=⟨w.heap.size,1,none⟩) (by simp)).trans (cell_new _ _ _ 1 cv rfl);clear hb0)) );go_ret;exact ⟨by rw [HR.out];first | rfl | (congr 2;omega) | (simp;omega),((((sqN _ _)).trans (HB0.out.mono ((sqN _ _)).size)).trans (HB1.out.mono (((sqN _ _)).trans (HB0.out.mono ((sqN _ _)).size)).size))⟩
theorem szFun_of {d:Nat} (h1:SzC 101 (λw v es=>Rows w (λg=>g<N) 2 (HCl w (λg=>g<N) (HEx w (λg=>g<N) d)) v es) (wtS (wtCl (wtEx d)))) :
 SzC 70 (λw v e=>∃ cs,v=.agg cs.toArray/\HFn w (λg=>g<N) d cs e) (wtFn d):=by
 intro w v e left h hl;obtain ⟨cs,rfl,cv,rfl,ht,hn,hcs⟩:=h;have hb0:e.name.size<=9223372036854775807:=(by have:=ht;unfold okS maxLen at this;omega);have hal:SameOn (λg=>g<N) w (w.alloc (.cells #[.string e.name,.int .i64 e.arity,cv] 117)):=sqO ((sqN _ _))
 replace hcs:=hcs.mono hal sqj (λ_ _ _ h=>h.mono hal sqj (λ_ _=>HEx.mono hal sqj))
 have HW:Hid (wtFn d e=e.name.size+wtS (wtCl (wtEx d)) e.clauses):=rfl;generalize wtFn d e=W at *;have hx0:∃ x0:Nat,e.name.size=x0:=⟨_,rfl⟩;obtain ⟨x0,hx0⟩:=hx0;rw [hx0] at hb0;generalize hx1:wtS (wtCl (wtEx d)) e.clauses=x1 at *;have HX1:=hid hx1;clear hx1;by_cases t0:left<x0
 . have HR:Hid (leftOf left W = -1):=by
    have:=HW.out;show leftOf left W=_;exact leftOf_lt (by omega)
   clear HW;go_enter func70,ntmps70;go_wp2;go_ret;exact ⟨by rw [HR.out];first | rfl | (congr 2;omega) | (simp;omega),((sqN _ _))⟩
 by_cases t1:left - x0<x1
 . have HR:Hid (leftOf left W = -1):=by
    have:=HW.out;show leftOf left W=_;exact leftOf_lt (by omega)
   have hr1:leftOf (left - x0) x1 = -1:=leftOf_lt t1;clear HW;go_enter func70,ntmps70;go_wp2_with (first | (go_at_call 101;go_must (refine (h1.at (w:=_) (v:=_) e.clauses _ (left - x0) (by omega) hcs (by omega)).mono ?_;rintro e w1 ⟨rfl,hb1⟩;rw [HX1.out,hr1];have HB1:Hid _:=hb1;clear hb1)) );go_ret;exact ⟨by rw [HR.out];first | rfl | (congr 2;omega) | (simp;omega),(((sqN _ _)).trans (HB1.out.mono ((sqN _ _)).size))⟩
 have HR:Hid (leftOf left W=((left - x0 - x1:Nat):Int)):=by
  have:=HW.out;show leftOf left W=_;rw [leftOf_ge (by omega)];omega
 have hr1:leftOf (left - x0) x1=((left - x0 - x1:Nat):Int):=(by rw [leftOf_ge (by omega)]);clear HW;go_enter func70,ntmps70;go_wp2_with (first | (go_at_call 101;go_must (refine (h1.at (w:=_) (v:=_) e.clauses _ (left - x0) (by omega) hcs (by omega)).mono ?_;rintro e w1 ⟨rfl,hb1⟩;rw [HX1.out,hr1];have HB1:Hid _:=hb1;clear hb1)) );go_ret;exact ⟨by rw [HR.out];first | rfl | (congr 2;omega) | (simp;omega),(((sqN _ _)).trans (HB1.out.mono ((sqN _ _)).size))⟩
theorem szRef_of {d:Nat}  :
 SzC 69 (λw v e=>∃ cs,v=.agg cs.toArray/\HRf cs e) (wtRf):=by
 intro w v e left h hl;obtain ⟨cs,rfl,rfl,ht,hn⟩:=h;have hb0:e.name.size<=9223372036854775807:=(by have:=ht;unfold okS maxLen at this;omega);have HW:Hid (wtRf e=e.name.size):=rfl;generalize wtRf e=W at *;have hx0:∃ x0:Nat,e.name.size=x0:=⟨_,rfl⟩;obtain ⟨x0,hx0⟩:=hx0;rw [hx0] at hb0;by_cases t0:left<x0
 . have HR:Hid (leftOf left W = -1):=by
    have:=HW.out;show leftOf left W=_;exact leftOf_lt (by omega)
   clear HW;go_enter func69,ntmps69;go_wp2;go_ret;exact ⟨by rw [HR.out];first | rfl | (congr 2;omega) | (simp;omega),((sqN _ _))⟩
 have HR:Hid (leftOf left W=((left - x0:Nat):Int)):=by
  have:=HW.out;show leftOf left W=_;rw [leftOf_ge (by omega)];omega
 clear HW;go_enter func69,ntmps69;go_wp2;go_ret;exact ⟨by rw [HR.out];first | rfl | (congr 2;omega) | (simp;omega),((sqN _ _))⟩
theorem szModule_of {d:Nat} (h1:SzC 37 (λw v es=>Rows w (λg=>g<N) 2 (HRf) v es) (wtS (wtRf))) (h2:SzC 38 (λw v es=>Rows w (λg=>g<N) 3 (HFn w (λg=>g<N) d) v es) (wtS (wtFn d))) :
 SzC 13 (λw v e=>∃ cs,v=.agg cs.toArray/\HMd w (λg=>g<N) d cs e) (wtMd d):=by
 intro w v e left h hl;obtain ⟨cs,rfl,kv,cv,rfl,ht,hks,hcs⟩:=h;have hb0:e.name.size<=9223372036854775807:=(by have:=ht;unfold okS maxLen at this;omega);have hal:SameOn (λg=>g<N) w (w.alloc (.cells #[.string e.name,kv,cv] 40)):=sqO ((sqN _ _))
 replace hks:=hks.mono hal sqj (λ_ _ _ h=>h)
 replace hcs:=hcs.mono hal sqj (λ_ _ _ h=>h.mono hal sqj)
 have HW:Hid (wtMd d e=e.name.size+wtS wtRf e.exports+wtS (wtFn d) e.funs):=rfl;generalize wtMd d e=W at *;have hx0:∃ x0:Nat,e.name.size=x0:=⟨_,rfl⟩;obtain ⟨x0,hx0⟩:=hx0;rw [hx0] at hb0;generalize hx1:wtS wtRf e.exports=x1 at *;have HX1:=hid hx1;clear hx1;generalize hx2:wtS (wtFn d) e.funs=x2 at *;have HX2:=hid hx2;clear hx2;by_cases t0:left<x0
 . have HR:Hid (leftOf left W = -1):=by
    have:=HW.out;show leftOf left W=_;exact leftOf_lt (by omega)
   clear HW;go_enter func13,ntmps13;go_wp2;go_ret;exact ⟨by rw [HR.out];first | rfl | (congr 2;omega) | (simp;omega),((sqN _ _))⟩
 by_cases t1:left - x0<x1
 . have HR:Hid (leftOf left W = -1):=by
    have:=HW.out;show leftOf left W=_;exact leftOf_lt (by omega)
   have hr1:leftOf (left - x0) x1 = -1:=leftOf_lt t1;clear HW;go_enter func13,ntmps13;go_wp2_with (first | (go_at_call 37;go_must (refine (h1.at (w:=_) (v:=_) e.exports _ (left - x0) (by omega) hks (by omega)).mono ?_;rintro e w1 ⟨rfl,hb1⟩;rw [HX1.out,hr1];have HB1:Hid _:=hb1;have hk1:=(hb1.cell (p:=⟨w.heap.size,2,none⟩) (by simp)).trans (cell_new _ _ _ 2 cv rfl);clear hb1)) );go_ret;exact ⟨by rw [HR.out];first | rfl | (congr 2;omega) | (simp;omega),(((sqN _ _)).trans (HB1.out.mono ((sqN _ _)).size))⟩
 by_cases t2:left - x0 - x1<x2
 . have HR:Hid (leftOf left W = -1):=by
    have:=HW.out;show leftOf left W=_;exact leftOf_lt (by omega)
   have hr1:leftOf (left - x0) x1=((left - x0 - x1:Nat):Int):=(by rw [leftOf_ge (by omega)]);have hr2:leftOf (left - x0 - x1) x2 = -1:=leftOf_lt t2;clear HW;go_enter func13,ntmps13;go_wp2_with (first | (go_at_call 38;go_must (refine (h2.at (w:=_) (v:=_) e.funs _ (left - x0 - x1) (by omega) (hcs.mono (sqO HB1.out) sqj (λ_ _ _ h=>h.mono (sqO HB1.out) sqj)) (by omega)).mono ?_;rintro e w2 ⟨rfl,hb2⟩;rw [HX2.out,hr2];have HB2:Hid _:=hb2;clear hb2)) | (go_at_call 37;go_must (refine (h1.at (w:=_) (v:=_) e.exports _ (left - x0) (by omega) hks (by omega)).mono ?_;rintro e w1 ⟨rfl,hb1⟩;rw [HX1.out,hr1];have HB1:Hid _:=hb1;have hk1:=(hb1.cell (p:=⟨w.heap.size,2,none⟩) (by simp)).trans (cell_new _ _ _ 2 cv rfl);clear hb1)) );go_ret;exact ⟨by rw [HR.out];first | rfl | (congr 2;omega) | (simp;omega),((((sqN _ _)).trans (HB1.out.mono ((sqN _ _)).size)).trans (HB2.out.mono (((sqN _ _)).trans (HB1.out.mono ((sqN _ _)).size)).size))⟩
 have HR:Hid (leftOf left W=((left - x0 - x1 - x2:Nat):Int)):=by
  have:=HW.out;show leftOf left W=_;rw [leftOf_ge (by omega)];omega
 have hr1:leftOf (left - x0) x1=((left - x0 - x1:Nat):Int):=(by rw [leftOf_ge (by omega)]);have hr2:leftOf (left - x0 - x1) x2=((left - x0 - x1 - x2:Nat):Int):=(by rw [leftOf_ge (by omega)]);clear HW;go_enter func13,ntmps13;go_wp2_with (first | (go_at_call 38;go_must (refine (h2.at (w:=_) (v:=_) e.funs _ (left - x0 - x1) (by omega) (hcs.mono (sqO HB1.out) sqj (λ_ _ _ h=>h.mono (sqO HB1.out) sqj)) (by omega)).mono ?_;rintro e w2 ⟨rfl,hb2⟩;rw [HX2.out,hr2];have HB2:Hid _:=hb2;clear hb2)) | (go_at_call 37;go_must (refine (h1.at (w:=_) (v:=_) e.exports _ (left - x0) (by omega) hks (by omega)).mono ?_;rintro e w1 ⟨rfl,hb1⟩;rw [HX1.out,hr1];have HB1:Hid _:=hb1;have hk1:=(hb1.cell (p:=⟨w.heap.size,2,none⟩) (by simp)).trans (cell_new _ _ _ 2 cv rfl);clear hb1)) );go_ret;exact ⟨by rw [HR.out];first | rfl | (congr 2;omega) | (simp;omega),((((sqN _ _)).trans (HB1.out.mono ((sqN _ _)).size)).trans (HB2.out.mono (((sqN _ _)).trans (HB1.out.mono ((sqN _ _)).size)).size))⟩
theorem szExp_all:∀ d,SzC 182 (λw v e=>∃ cs,v=.agg cs.toArray/\HEx w (λg=>g<N) d cs e) (wtEx d)
 | 0=>λw v x left ⟨_,_,h⟩ _=>h.elim
 | d+1=>szExp_of (szExpS_of (szExp_all d)) (szClauseS_of (szClause_of (szExpS_of (szExp_all d)) (szExpS_of (szExp_all d))))
theorem szClauseS_all (d:Nat):SzC 101 (λw v es=>Rows w (λg=>g<N) 2 (HCl w (λg=>g<N) (HEx w (λg=>g<N) d)) v es) (wtS (wtCl (wtEx d))) :=
 szClauseS_of (szClause_of (szExpS_of (szExp_all d)) (szExpS_of (szExp_all d)))
theorem szModule_all (d:Nat):SzC 13 (λw v m=>∃ cs,v=.agg cs.toArray/\HMd w (λg=>g<N) d cs m) (wtMd d) :=
 szModule_of (szRefS_of (d:=0) (szRef_of (d:=0))) (szFunS_of (szFun_of (szClauseS_all d)))
end
section
open Go.Proofs.Tryz
section
variable {N:Nat}
theorem szModuleS_of {d:Nat} (hE:SzC 13 (λw v e=>∃ cs,v=.agg cs.toArray/\HMd w (λg=>g<N) d cs e) (wtMd d)) :
 SzC 4 (λw v es=>Rows w (λg=>g<N) 3 (HMd w (λg=>g<N) d) v es) (wtS (wtMd d)):=by
 intro w v es left h hl;obtain ⟨p,cap,rfl,hcl,hcm,hx⟩:=h;generalize hn:es.length=n at *;have HN:=hid hn;have HX:Hid _:=hx;have hnb:=sqM hcl hcm;clear hx hn;by_cases h0:left<n
 . have hr:leftOf left (wtS (wtMd d) es) = -1:=leftOf_lt (by unfold wtS;rw [HN.out];omega)
   have HR:=hid hr;clear hr;go_enter func4,ntmps4;go_wp2;go_ret;exact ⟨by rw [HR.out];rfl,Below.refl _ _⟩
 . go_enter func4,ntmps4
   go_wp2
   go_loopw [1,5] (λlv iv wr=>∃ k r:Nat,k<=n/\iv=.int .i64 k/\lv=.int .i64 r/\Hid (r+n+((es.take k).map (wtMd d)).sum=left)/\Bz w wr) (λ_ iv _=>n - (intOf iv).toNat)
   case atStart=>exact ⟨0,left - n,Nat.zero_le _,rfl,by go_num,(by show left - n+n+_=left;simp;omega),Below.refl _ _⟩
   case round =>
    obtain ⟨k,r,hk,rfl,rfl,hrs,hb⟩:=hrel;have HB:=hid hb;by_cases hlt:k<n
    . obtain ⟨x,hxk⟩:=sqA (l:=es) (k:=k) HN.out hlt
      obtain ⟨g,off,rfl,hg,hgl,hat⟩:=HX.out (sqE hxk);obtain ⟨cs,hcl6,hcs,hex⟩:=hat k x hxk;have hex':HMd wr (λg=>g<N) d cs x:=hex.mono (sqO hb) sqj;obtain ⟨c0,c1,c2,rfl⟩:=len3 hcl6;obtain ⟨a0,a1,a2⟩:=sqC3 hcs (by omega);rw [<-hb.cell (p:=⟨g,_,none⟩) hgl] at a0 a1 a2;simp at a0 a1 a2;clear hb hcs hat hex hcl6;have hrb:r<=16777216:=(by have:=hrs.out;omega);have hst:=sum_take_succ (wtMd d) es k x hxk;have HST:=hid hst;have hle:=sum_take_le (wtMd d) es (k+1);have HLE:=hid hle;clear hst hle;generalize hwx:wtMd d x=y at *;have HY:=hid hwx;by_cases hy:r<y
      . have hr:leftOf left (wtS (wtMd d) es) = -1:=leftOf_lt (by unfold wtS;have:=hrs.out;have:=HLE.out;have:=HST.out;rw [HN.out];omega)
        have HR:=hid hr;have hr2:leftOf r y = -1:=leftOf_lt hy;clear hr hwx;go_wp2_with (go_at_call 13;go_must (refine (hE _ _ x r ⟨_,rfl,hex'⟩ hrb).mono ?_;rintro e w1 ⟨rfl,hb1⟩;rw [HY.out,hr2];have HB1:Hid _:=hb1;clear hb1));go_ret;exact ⟨by rw [HR.out];rfl,HB.out.trans (HB1.out.mono HB.out.size)⟩
      . have hr2:leftOf r y=((r - y:Nat):Int):=leftOf_ge (by omega)
        clear hwx;go_wp2_with (go_at_call 13;go_must (refine (hE _ _ x r ⟨_,rfl,hex'⟩ hrb).mono ?_;rintro e w1 ⟨rfl,hb1⟩;rw [HY.out,hr2];have HB1:Hid _:=hb1;clear hb1));exact ⟨⟨k+1,r - y,by omega,by go_num,rfl,(by have:=hrs.out;have:=HST.out;show r - y+n+_=left;omega),HB.out.trans (HB1.out.mono HB.out.size)⟩,by simp [intOf];omega⟩
    . have hr:leftOf left (wtS (wtMd d) es)=(r:Int):=by
       have h1:=hrs.out;rw [List.take_of_length_le (by rw [HN.out];omega)] at h1;rw [leftOf_ge (by unfold wtS;rw [HN.out];omega)];unfold wtS;rw [HN.out];omega
      have HR:=hid hr;clear hr;go_wp2;go_ret;exact ⟨by rw [HR.out];rfl,HB.out⟩
theorem szModuleS_all (d:Nat):SzC 4 (λw v es=>Rows w (λg=>g<N) 3 (HMd w (λg=>g<N) d) v es) (wtS (wtMd d)):=szModuleS_of (szModule_all d)
end
end
end Go.Proofs.YtbdhpganbbandaaGreatDoor
