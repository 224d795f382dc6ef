/-
  CheckSpecE CheckSpecF CheckImplC CheckImplD
-/
import Derived.Test.YtbdhpganbbandaaGreatDoorP35
import Derived.Test.YtbdhpganbbandaaGreatDoorP27
import Derived.Test.YtbdhpganbbandaaGreatDoorP04
set_option maxHeartbeats 16000000
set_option linter.unusedVariables false
set_option maxRecDepth 100000
namespace Go.Proofs.YtbdhpganbbandaaGreatDoor
open Go.ChangeShapes Go.WideShapes Go.ChangeAt Go.RowKit
section
open Go.Proofs.Tryz
def lsL (b:Bool):List ByteArray:=if b then [cLoose] else []
def funC (ms:List Md) (m:Md) (d:Nat) (f:Fn'):List ByteArray:=(bodiesOf f.clauses).foldl (λo b=>onceS o (codesX ms m d b)) (lsL (looseF d f))
def foldC (ms:List Md) (m:Md) (d:Nat) (l:List Ex) (o:List ByteArray):List ByteArray:=l.foldl (λo b=>onceS o (codesX ms m d b)) o
theorem insC_ne (l:List ByteArray) (s:ByteArray):insS l s≠[]:=by
 cases l with
 | nil=>simp [insS]
 | cons x l =>
  unfold insS
  split
  . simp
  . split <;> simp
theorem sortC_ne {l:List ByteArray} (h:l≠[]):sortS l≠[]:=by
 unfold sortS
 have:∀ (l acc:List ByteArray),acc≠[]->l.foldl insS acc≠[]:=λl=>by
  induction l with
  | nil=>exact λacc h=>h
  | cons x l ih=>exact λacc _=>ih _ (insC_ne acc x)
 cases l with
 | nil=>exact absurd rfl h
 | cons x l=>exact this l _ (insC_ne [] x)
theorem sortC_pos (d:Nat) (c:Cl):decide (0<(sortS (cfV d c)).length)=looseB d c:=by
 have e:looseB d c = !(cfV d c).isEmpty:=rfl;rw [e]
 cases h:cfV d c with
 | nil=>rfl
 | cons x l =>
  have:=sortC_ne (l:=x :: l) (by simp);simp only [List.isEmpty_cons,Bool.not_false,decide_eq_true_eq];exact List.length_pos_iff.2 this
theorem foldCC_len (ms:List Md) (m:Md) (d:Nat):∀ (l:List Ex) (o:List ByteArray),(l.foldl (λo b=>onceS o (codesX ms m d b)) o).length<=o.length+(l.map λy=>1+wtEx d y).sum
 | [],o=>by simp
 | y :: l,o=>by
  have h1:=foldCC_len ms m d l (onceS o (codesX ms m d y));have h2:=onceS_length o (codesX ms m d y);have h3:=codesX_len ms m d y;simp only [List.foldl_cons,List.map_cons,List.sum_cons];omega
theorem foldCC_mem (ms:List Md) (m:Md) (d:Nat):∀ (l:List Ex) (o:List ByteArray),∀ c ∈ l.foldl (λo b=>onceS o (codesX ms m d b)) o,c ∈ o\/c=cCall\/c=cFar
 | [],o=>λc h=>Or.inl h
 | y :: l,o=>λc h=>by
  rcases foldCC_mem ms m d l _ c h with h | h
  . rcases onceS_mem _ _ c h with h | h
    . exact Or.inl h
    . exact Or.inr (codesX_mem ms m d y c h)
  . exact Or.inr h
theorem okS_loose {b:Bool} {c:ByteArray} (h:c ∈ lsL b):okS c:=by
 cases b with
 | true=>simp [lsL] at h;subst h;unfold okS;decide
 | false=>simp [lsL] at h
theorem sumB (d:Nat) (cl:List Cl):((bodiesOf cl).map λy=>1+wtEx d y).sum<=wtS (wtCl (wtEx d)) cl:=by
 have h2:∀ l:List Ex,(l.map λy=>1+wtEx d y).sum=wtS (wtEx d) l:=λl=>by
  unfold wtS
  induction l with
  | nil=>rfl
  | cons y l ih=>simp only [List.map_cons,List.sum_cons,List.length_cons,ih];omega
 rw [h2]
 induction cl with
 | nil=>simp [bodiesOf,wtS]
 | cons c cl ih =>
  have e:bodiesOf (c :: cl)=c.2 ++ bodiesOf cl:=(by simp [bodiesOf]);rw [e];simp only [wtS,List.length_append,List.map_append,List.sum_append,List.length_cons,List.map_cons,List.sum_cons,wtCl] at ih ⊢;omega
theorem OwnS.slice {w:World} {B:Nat} {v:Value} {l:List ByteArray} (h:OwnS w B v l):∃ p q,v=.slice p l.length q:=by
 obtain ⟨p,q,hv,_⟩:=owns_slice h.1;exact ⟨p,q,hv⟩
theorem l05Fun_any (d:Nat) (w:World) (v:Value) (ms:List Md) (mc:List Value) (m:Md) (cs:List Value) (f:Fn') (h:Rows w All 3 (HMd w All d) v ms) (hm:HMd w All d mc m) (hf:HFn w All d cs f) (hw:wtFn d f<=16777216) :
 Calls prog 73 #[v,.agg mc.toArray,.agg cs.toArray] w λe w'=>∃ u,e=.returned u/\OwnS w' w.heap.size u (funC ms m d f)/\Bz w w':=by
 have HMS:Hid (∀ w',Bz w w'->Rows w' All 3 (HMd w' All d) v ms):=λw' hw=>h.mono (sqO hw) sqj (λ_ _ _ h=>h.mono (sqO hw) sqj);have HMM:Hid (∀ w',Bz w w'->HMd w' All d mc m):=λw' hw=>hm.mono (sqO hw) sqj;obtain ⟨sv,pe,ne,ce,pf,nf,cf,rfl⟩:=hm.shape;obtain ⟨cv,rfl,-,-,p1,q1,rfl,hcl,hcm,hx⟩:=hf;obtain ⟨p,cap,rfl,-⟩:=h;have HFC:Hid (funC ms m d f=(bodiesOf f.clauses).foldl (λo b=>onceS o (codesX ms m d b)) (lsL (f.clauses.any (looseB d)))):=rfl;have HWC:Hid (wtS (wtCl (wtEx d)) f.clauses<=16777216):=(by show _<=_;unfold wtFn at hw;omega);have HX:=hid hx;have hnb:=sqM hcl hcm;obtain ⟨i0,hi,hz0,hz1,hz2⟩:=info_parts info_str;generalize f.clauses=cl at *;generalize ms.length=n at *;generalize hnc:cl.length=nc at *;have HNC:=hid hnc;obtain ⟨W2,hW2⟩:∃ W2,W2=(w.alloc (.cells #[.string sv,.slice pe ne ce,.slice pf nf cf] 61)).alloc (.cells #[.string f.name,.int .i64 f.arity,.slice p1 nc q1] 57):=⟨_,rfl⟩;have bM:Hid (Blk W2 w.heap.size #[.string sv,.slice pe ne ce,.slice pf nf cf] 61):=(by show Blk _ _ _ _;rw [hW2];exact Blk.new.alloc)
 have bF:Hid (Blk W2 (w.heap.size+1) #[.string f.name,.int .i64 f.arity,.slice p1 nc q1] 57):=by
  show Blk _ _ _ _;rw [hW2];have:=Blk.new (w:=w.alloc (.cells #[.string sv,.slice pe ne ce,.slice pf nf cf] 61)) (cs:=#[.string f.name,.int .i64 f.arity,.slice p1 nc q1]) (t:=57);simp only [alloc_hs] at this;exact this
 have B2:Hid (Bz w W2):=(by show Below _ _ _;rw [hW2];exact ((sqN _ _)).alloc (by simp only [alloc_hs];omega) _);have S2:Hid (W2.heap.size=w.heap.size+1+1):=(by show _=_;rw [hW2];simp only [alloc_hs]);have HW2:=hid hW2
 have O3:Hid (OwnS (W2.alloc (.cells #[] 9)) (w.heap.size+1+1) (.slice (some ⟨w.heap.size+1+1,0,none⟩) 0 0) []):=by
  have:=OwnS.fresh (w:=W2);rw [S2.out] at this;exact this
 have B3:Hid (Below (w.heap.size+1+1) W2 (W2.alloc (.cells #[] 9))):=(Below.refl _ _).alloc (by rw [S2.out];exact Nat.le_refl _) _;clear hm hw hx hnc hW2;go_enter func73,ntmps73;go_wp2_with fail;rw [<-HW2.out]
 go_loopw [7,8] (λov iv wr=>∃ k:Nat,k<=nc/\iv=.int .i64 k/\Hid (OwnS wr (w.heap.size+1+1) ov (lsL ((cl.take k).any (looseB d))))/\Hid (Below (w.heap.size+1+1) W2 wr)) (λ_ iv _=>nc - (intOf iv).toNat)
 case atStart=>exact ⟨0,Nat.zero_le _,rfl,by show OwnS _ _ _ _;simpa [lsL] using O3.out,B3⟩
 case round =>
  obtain ⟨k,hk,rfl,ho,hb⟩:=hrel;have HB0:=hid (B2.out.trans (hb.out.mono (by omega)));have bFr:=bF.out.below hb.out (by omega);have x2:=bFr.cell 2 _ rfl;have hsw:w.heap.size+1+1<=wr.heap.size:=(by have:=hb.out.size;rw [S2.out] at this;exact this);clear bFr;by_cases hlt:k<nc
  . obtain ⟨c,hck⟩:∃ c,cl[k]?=some c:=⟨cl[k]'(by rw [HNC.out];exact hlt),List.getElem?_eq_getElem _⟩
    obtain ⟨g,off,rfl,-,hgl,hat⟩:=HX.out (sqE hck);obtain ⟨cs,hcsl,hcs,hc⟩:=hat k c hck;have HCC:Hid (∀ w',Bz w w'->HCl w' All (HEx w' All d) cs c):=λw' hw=>hc.mono (sqO hw) sqj (λ_ _=>HEx.mono (sqO hw) sqj);obtain ⟨pv,bv,rfl,-,-⟩:=hc;obtain ⟨a0,a1⟩:=sqC2 hcs (by omega);rw [<-HB0.out.cell (p:=⟨g,_,none⟩) hgl] at a0 a1;simp at a0 a1;have hki:(k:Int)<(nc:Int):=(by omega);have hk0:=sqI k
    have HWK:Hid (wtCl (wtEx d) c<=16777216):=by
     have h1:=HWC.out;have h2:=sum_take_succ (wtCl (wtEx d)) cl k c hck;have h3:=sum_take_le (wtCl (wtEx d)) cl (k+1);unfold wtS at h1;show _<=_;omega
    have HT:Hid ((cl.take (k+1)).any (looseB d)=((cl.take k).any (looseB d) || looseB d c)):=(by show _=_;rw [List.take_add_one,hck];simp);obtain ⟨pu,qu,hu⟩:=ho.out.slice;clear hcs hat hcsl
    cases hbt:(cl.take k).any (looseB d) with
    | true =>
     rw [hbt] at ho hu HT;have HO1:Hid (OwnS wr (w.heap.size+1+1) u7 (lsL ((cl.take (k+1)).any (looseB d)))):=(by show OwnS _ _ _ _;rw [HT.out];simpa using ho.out);have hl:(lsL true).length=1:=rfl;rw [hl] at hu;subst hu;clear ho HT hbt;go_wp2_with fail;exact ⟨⟨k+1,by omega,by go_num,HO1,hb⟩,by simp [intOf];omega⟩
    | false =>
     rw [hbt,Bool.false_or] at HT;rw [hbt] at ho hu;have hl:(lsL false).length=0:=rfl;rw [hl] at hu;subst hu;clear hbt;go_wp2_with fail;refine (specClauseFree_any _ d _ c (HCC.out _ HB0.out) HWK.out).mono ?_;rintro e w1 ⟨u1,rfl,o1,hb1⟩;have HSP:=sortC_pos d c;obtain ⟨pz,qz,rfl⟩:=o1.slice;have K1:=hid hb1;have HO1:=hid (ho.out.next hb1);have HB1:=hid (hb.out.trans (hb1.mono hsw));have s1:w.heap.size+1+1<=w1.heap.size:=Nat.le_trans hsw hb1.size;clear o1 hb1 a0 a1 x2;generalize (sortS (cfV d c)).length=nz at *
     cases hz:looseB d c with
     | false =>
      rw [hz] at HSP HT;have hzz:¬ (0:Int)<(nz:Int):=(by have:=of_decide_eq_false HSP;omega);have HO2:Hid (OwnS w1 (w.heap.size+1+1) (.slice pu 0 qu) (lsL ((cl.take (k+1)).any (looseB d)))):=(by show OwnS _ _ _ _;rw [HT.out];exact HO1.out);clear HSP HT;go_wp2_with fail;exact ⟨⟨k+1,by omega,by go_num,HO2,HB1⟩,by simp [intOf];omega⟩
     | true =>
      rw [hz] at HSP HT;have hzz:(0:Int)<(nz:Int):=(by have:=of_decide_eq_true HSP;omega);have HO2:Hid (OwnS (w1.alloc (.cells #[.string ⟨#[108,111,111,115,101]⟩] 9)) (w.heap.size+1+1) (.slice pu 0 qu) []):=HO1.out.next ((sqN _ _));clear HSP;go_wp2_with (at_builtin;refine wpList_append_own _ rfl _ _ 49 rfl (w.heap.size+1+1) 9 i0 (.string ⟨#[]⟩) 1 16 underlying49 hi hz0 hz1 hz2 rfl (by decide) (.slice pu 0 qu) 0 [] rfl HO2.out.1 ⟨w1.heap.size,0,none⟩ 1 1 (strs [⟨#[108,111,111,115,101]⟩]) rfl (by simp [strs]) (one_str w1 _ _ rfl) (strs_oneCell _) (by unfold maxLen;omega) (by omega) (by rw [alloc_hs];omega) ?_;intro v7 w7 ho7 hg7 _)
      have HO7:Hid (OwnS w7 (w.heap.size+1+1) v7 (lsL ((cl.take (k+1)).any (looseB d)))):=by
       show OwnS _ _ _ _;rw [HT.out];exact OwnS.of (l:=[]) (m:=[⟨#[108,111,111,115,101]⟩]) ho7 (by simp) (by simp [strs]) (Nat.le_trans (by rw [alloc_hs];omega) hg7.size)
      have HB7:Hid (Below (w.heap.size+1+1) W2 w7):=(HB1.out.alloc s1 _).trans (owns_below HO2.out.1 hg7 (by rw [alloc_hs];omega));clear ho7 hg7;go_wp2_with fail;exact ⟨⟨k+1,by omega,by go_num,HO7,HB7⟩,by simp [intOf];omega⟩
  . have HO1:Hid (OwnS wr (w.heap.size+1+1) u7 (lsL (cl.any (looseB d)))):=by
     have:=ho.out
     rwa [List.take_of_length_le (by rw [HNC.out];omega)] at this
    generalize hL0:lsL (cl.any (looseB d))=L0 at *;have OL0:Hid (∀ c ∈ L0,okS c):=λc hc=>okS_loose (by rw [hL0];exact hc);have HL0:=hid hL0
    have LL0:L0.length<=1:=by rw [<-hL0];unfold lsL;split <;> simp
    clear ho hL0;go_wp2_with fail;clear x2 HB0 hsw hlt
    go_loopw [7,9] (λov iv wx=>∃ k:Nat,k<=nc/\iv=.int .i64 k/\Hid (OwnS wx (w.heap.size+1+1) ov (foldC ms m d (bodiesOf (cl.take k)) L0))/\Hid (Below (w.heap.size+1+1) W2 wx)) (λ_ iv _=>nc - (intOf iv).toNat)
    case atStart=>exact ⟨0,Nat.zero_le _,rfl,by show OwnS _ _ _ _;simpa [bodiesOf,foldC] using HO1.out,hb⟩
    case round =>
     obtain ⟨a,ha,rfl,ho,hbx⟩:=hrel;clear HO1 hb;have HB0:=hid (B2.out.trans (hbx.out.mono (by omega)));have bFr:=bF.out.below hbx.out (by omega);have x2:=bFr.cell 2 _ rfl;have hsw:w.heap.size+1+1<=wr.heap.size:=(by have:=hbx.out.size;rw [S2.out] at this;exact this);clear bFr;by_cases hlt:a<nc
     . obtain ⟨c,hck⟩:∃ c,cl[a]?=some c:=⟨cl[a]'(by rw [HNC.out];exact hlt),List.getElem?_eq_getElem _⟩
       obtain ⟨g,off,rfl,-,hgl,hat⟩:=HX.out (sqE hck);obtain ⟨cs,hcsl,hcs,pv,bv,rfl,rp,rb⟩:=hat a c hck;obtain ⟨pp,qp,rfl,-⟩:=rp;obtain ⟨pb,qb,rfl,hclb,hcmb,hxb⟩:=rb;have HXB:=hid hxb;have hnbb:c.2.length<=9223372036854775807:=(by unfold maxLen at hcmb;omega);have HA0:Hid (w.cell? ⟨g,off+a * 2,none⟩=some (.slice pp c.1.length qp)/\w.cell? ⟨g,off+a * 2+1,none⟩=some (.slice pb c.2.length qb)):=⟨by simpa using hcs 0 (by omega),by simpa using hcs 1 (by omega)⟩;have HGL:=hid hgl;have hki:(a:Int)<(nc:Int):=(by omega);have hk0:=sqI a;have HBO:=hid (bodiesOf_snoc cl a c hck)
       have HSB:Hid ((((bodiesOf (cl.take a) ++ c.2).map λy=>1+wtEx d y).sum)<=16777216):=by
        have h1:=sumB d cl;have h2:=HWC.out
        have h3:((bodiesOf (cl.take (a+1))).map λy=>1+wtEx d y).sum<=((bodiesOf cl).map λy=>1+wtEx d y).sum:=by
         have e:bodiesOf cl=bodiesOf (cl.take (a+1)) ++ bodiesOf (cl.drop (a+1)):=by
          unfold bodiesOf;rw [<-List.flatMap_append,List.take_append_drop]
         rw [e,List.map_append,List.sum_append];omega
        rw [HBO.out] at h3;show _<=_;omega
       generalize hnbo:c.2.length=nb at *;have HNB:=hid hnbo;clear hcs hat hcsl hxb hck hnbo hclb hcmb x2;have bFr:=bF.out.below hbx.out (by omega);have x2:=bFr.cell 2 _ rfl;clear bFr;go_wp2_with fail;clear x2
       go_loopw [7,10] (λov iv wx=>∃ j:Nat,j<=nb/\iv=.int .i64 j/\Hid (OwnS wx (w.heap.size+1+1) ov (foldC ms m d (bodiesOf (cl.take a) ++ c.2.take j) L0))/\Hid (Below (w.heap.size+1+1) W2 wx)) (λ_ iv _=>nb - (intOf iv).toNat)
       case atStart=>exact ⟨0,Nat.zero_le _,rfl,by show OwnS _ _ _ _;simpa using ho.out,hbx⟩
       case round =>
        obtain ⟨j,hj,rfl,ho2,hb2⟩:=hrel;clear ho hbx HB0 hsw;have HB0:=hid (B2.out.trans (hb2.out.mono (by omega)));have bFr:=bF.out.below hb2.out (by omega);have bMr:=bM.out.below hb2.out (by omega);have x2:=bFr.cell 2 _ rfl;obtain ⟨m0,m1,m2⟩:=sqB3 bMr;have a0:=(HB0.out.cell (p:=⟨g,off+a * 2,none⟩) HGL.out).trans HA0.out.1;have a1:=(HB0.out.cell (p:=⟨g,off+a * 2+1,none⟩) HGL.out).trans HA0.out.2;have hsw:w.heap.size+1+1<=wr.heap.size:=(by have:=hb2.out.size;rw [S2.out] at this;exact this);clear bFr bMr;by_cases hlj:j<nb
        . obtain ⟨y,hyk⟩:∃ y,c.2[j]?=some y:=⟨c.2[j]'(by rw [HNB.out];exact hlj),List.getElem?_eq_getElem _⟩
          obtain ⟨g5,o5,rfl,-,hgl5,hat5⟩:=HXB.out (sqE hyk);obtain ⟨cs5,hcsl5,hcs5,hy⟩:=hat5 j y hyk;have HY:Hid (∀ w',Bz w w'->HEx w' All d cs5 y):=λw' hw=>hy.mono (sqO hw) sqj;obtain ⟨z0,z1,z2,z3,z4,z5,rfl⟩:=len6 hcsl5;obtain ⟨b0,b1,b2,b3,b4,b5⟩:=sqC6 hcs5 (by omega);rw [<-HB0.out.cell (p:=⟨g5,_,none⟩) hgl5] at b0 b1 b2 b3 b4 b5;simp at b0 b1 b2 b3 b4 b5;have hji:(j:Int)<(nb:Int):=(by omega);have hj0:=sqI j
          have HJ:Hid (foldC ms m d (bodiesOf (cl.take a) ++ c.2.take (j+1)) L0=onceS (foldC ms m d (bodiesOf (cl.take a) ++ c.2.take j) L0) (codesX ms m d y)):=by
           show _=_;rw [List.take_add_one,hyk];simp [foldC,List.foldl_append]
          have HLK:Hid ((foldC ms m d (bodiesOf (cl.take a) ++ c.2.take j) L0).length+(codesX ms m d y).length<=134217728):=by
           have h1:=foldCC_len ms m d (bodiesOf (cl.take a) ++ c.2.take j) L0;have h2:=codesX_len ms m d y;have h3:=HSB.out
           have h4:((bodiesOf (cl.take a) ++ c.2.take (j+1)).map λy=>1+wtEx d y).sum<=((bodiesOf (cl.take a) ++ c.2).map λy=>1+wtEx d y).sum:=by
            rw [List.map_append,List.map_append,List.sum_append,List.sum_append];have:=sum_take_le (λy=>1+wtEx d y) c.2 (j+1);omega
           rw [List.map_append,List.sum_append,sum_take_succ (λy=>1+wtEx d y) c.2 j y hyk] at h4;have h5:(foldC ms m d (bodiesOf (cl.take a) ++ c.2.take j) L0).length<=L0.length+((bodiesOf (cl.take a) ++ c.2.take j).map λy=>1+wtEx d y).sum:=h1;rw [List.map_append,List.sum_append] at h5;show _<=_;omega
          have HWY:Hid (wtEx d y<=16777216):=by
           have h3:=HSB.out;have h4:=sum_take_le (λy=>1+wtEx d y) c.2 (j+1);rw [sum_take_succ (λy=>1+wtEx d y) c.2 j y hyk] at h4;rw [List.map_append,List.sum_append] at h3;show _<=_;omega
          have OJ:Hid (∀ q ∈ foldC ms m d (bodiesOf (cl.take a) ++ c.2.take j) L0,okS q):=λq hq=>by
           rcases foldCC_mem ms m d _ L0 q hq with h | h
           . exact OL0.out q h
           . exact okS_code h
          have CX:Hid (∀ w',Bz wr w'->Calls prog 107 #[.slice p n cap,.agg #[.string sv,.slice pe ne ce,.slice pf nf cf],.agg #[z0,z1,z2,z3,z4,z5]] w' λe w''=>∃ u,e=.returned u/\OwnS w'' w'.heap.size u (codesX ms m d y)/\Below w'.heap.size w' w''):=λw' hw'=>by
           have hb9:Bz w w':=HB0.out.trans (hw'.mono HB0.out.size);exact l05Exp_all d d w' _ ms _ m _ y (HMS.out w' hb9) (HMM.out w' hb9) (HY.out w' hb9) HWY.out
          generalize hJ0:foldC ms m d (bodiesOf (cl.take a) ++ c.2.take j) L0=J at *;generalize hY0:codesX ms m d y=Y at *;have OY:Hid (∀ c ∈ Y,okS c):=λc hc=>okS_code (codesX_mem ms m d y c (by rw [hY0];exact hc));clear hcs5 hcsl5 hy hJ0 hY0 hat5;go_wp2_with fail
          go_region_law
           (first
            | (go_simp;go_at_call 107;refine (CX.out _ (by exact (Below.refl _ _).drew)).mono ?_;rintro e w6 ⟨u6,rfl,o6,hb6⟩;have K6:Hid (Bz wr w6):=⟨hb6.os,hb6.tape,hb6.output,hb6.size,hb6.block⟩;have R6:=hid (o6.strR OY.out);have V6:Hid (StrV w6 u7 J):=(ho2.out.next K6.out).strV OJ.out;clear hb6 o6;dsimp only)
            | (go_simp;go_at_call 43;refine (once_any _ _ _ J Y V6.out R6.out HLK.out).mono ?_;rintro e w9 ⟨u9,rfl,o9,hb9⟩;have K9:=hid hb9;have O9:=hid o9;clear o9 hb9;dsimp only))
          all_goals
           have HO9:Hid (OwnS w9 (w.heap.size+1+1) u9 (foldC ms m d (bodiesOf (cl.take a) ++ c.2.take (j+1)) L0)):=by
            show OwnS _ _ _ _;rw [HJ.out];exact O9.out.base (Nat.le_trans hsw K6.out.size)
           have HB9:Hid (Below (w.heap.size+1+1) W2 w9):=(hb2.out.trans (K6.out.mono hsw)).trans (K9.out.mono (Nat.le_trans hsw K6.out.size));go_wp2_with fail;exact ⟨⟨j+1,by omega,by go_num,HO9,HB9⟩,by simp [intOf];omega⟩
        . have HO9:Hid (OwnS wr (w.heap.size+1+1) u7 (foldC ms m d (bodiesOf (cl.take (a+1))) L0)):=by
           have:=ho2.out;rw [show c.2.take j=c.2 from List.take_of_length_le (by rw [HNB.out];omega),<-HBO.out] at this;exact this
          clear ho2;go_wp2_with fail;exact ⟨⟨a+1,by omega,by go_num,HO9,hb2⟩,by simp [intOf];omega⟩
     . have HR:Hid (OwnS wr w.heap.size u7 (funC ms m d f)):=by
        have h1:=ho.out;rw [List.take_of_length_le (by rw [HNC.out];omega)] at h1;show OwnS _ _ _ _;rw [HFC.out];exact h1.base (B':=w.heap.size) (by omega)
       go_wp2;go_ret;exact ⟨_,rfl,HR.out,HB0.out⟩
def exportP (m:Md) (r:Rf):List Pb:=if hasF m r.name r.arity then [] else [⟨m.name,r.name,r.arity,cExport⟩]
def funP (ms:List Md) (m:Md) (d:Nat) (f:Fn'):List Pb:=(funC ms m d f).map λc=>⟨m.name,f.name,f.arity,c⟩
def modP (ms:List Md) (d:Nat) (m:Md):List Pb:=m.exports.flatMap (exportP m) ++ m.funs.flatMap (funP ms m d)
def checkP (d:Nat) (ms:List Md):List Pb:=if pgOk d ms then ms.flatMap (modP ms d) else []
abbrev OwnP (w:World) (B:Nat) (v:Value) (l:List Pb):Prop:=OwnG 121 4 HPb w B v l
theorem info_pb:(prog.info? 121).map (λi=>(i.zero,i.size,i.bytes))=some (some (.agg #[.string ⟨#[]⟩,.string ⟨#[]⟩,.int .i64 0,.string ⟨#[]⟩]),4,56):=by kernel_rfl
theorem flat_takeG {α β:Type} (f:α->List β) (l:List α) (k:Nat) (x:α) (h:l[k]?=some x):(l.take (k+1)).flatMap f=(l.take k).flatMap f ++ f x/\((l.take k).flatMap f).length+(f x).length<=(l.flatMap f).length:=by
 have e1:(l.take (k+1)).flatMap f=(l.take k).flatMap f ++ f x:=(by rw [List.take_add_one,h];simp);refine ⟨e1,?_⟩;have e2:l.flatMap f=(l.take (k+1)).flatMap f ++ (l.drop (k+1)).flatMap f:=(by rw [<-List.flatMap_append,List.take_append_drop]);rw [e2,e1,List.length_append,List.length_append];omega
theorem funC_len (ms:List Md) (m:Md) (d:Nat) (f:Fn'):(funC ms m d f).length<=1+wtFn d f:=by
 have h1:=foldCC_len ms m d (bodiesOf f.clauses) (lsL (looseF d f));have h2:=sumB d f.clauses
 have h3:(lsL (looseF d f)).length<=1:=by unfold lsL;split <;> simp
 have h4:(funC ms m d f).length<=(lsL (looseF d f)).length+((bodiesOf f.clauses).map λy=>1+wtEx d y).sum:=h1;unfold wtFn;omega
theorem modP_len (ms:List Md) (d:Nat) (m:Md):(modP ms d m).length<=wtMd d m:=by
 have h1:=flat_lenG (exportP m) (λ_=>1) m.exports (λr _=>by
  unfold exportP
  split
  . exact Nat.zero_le _
  . exact Nat.le_refl _)
 have h2:=flat_lenG (funP ms m d) (λf=>1+wtFn d f) m.funs (λf _=>by unfold funP;rw [List.length_map];exact funC_len ms m d f)
 have h3:∀ l:List Rf,(l.map λ_=>1).sum=l.length:=λl=>by
  induction l with
  | nil=>rfl
  | cons y l ih=>simp only [List.map_cons,List.sum_cons,List.length_cons,ih];omega
 have h4:∀ l:List Fn',(l.map λf=>1+wtFn d f).sum=l.length+(l.map (wtFn d)).sum:=λl=>by
  induction l with
  | nil=>rfl
  | cons y l ih=>simp only [List.map_cons,List.sum_cons,List.length_cons,ih];omega
 rw [h3] at h1;rw [h4] at h2;simp only [modP,List.length_append,wtMd,wtS];omega
theorem allP_len (ms ms':List Md) (d:Nat):(ms'.flatMap (modP ms d)).length<=wtS (wtMd d) ms':=by
 have h1:=flat_lenG (modP ms d) (wtMd d) ms' (λm _=>modP_len ms d m);unfold wtS;omega
theorem funC_okS {ms:List Md} {m:Md} {d:Nat} {f:Fn'} {c:ByteArray} (h:c ∈ funC ms m d f):okS c:=by
 rcases foldCC_mem ms m d (bodiesOf f.clauses) (lsL (looseF d f)) c h with h | h
 . exact okS_loose h
 . exact okS_code h
theorem okS_export:okS cExport:=by unfold okS;decide
theorem specCheck_any (d:Nat) (w:World) (v:Value) (ms:List Md) (h:Rows w All 3 (HMd w All d) v ms) (hw:wtS (wtMd d) ms<=16777216) :
 Calls prog 42 #[v] w λe w'=>∃ u,e=.returned u/\OwnP w' w.heap.size u (checkP d ms)/\Bz w w':=by
 have HMS:Hid (∀ w',Bz w w'->Rows w' All 3 (HMd w' All d) v ms):=λw' hw=>h.mono (sqO hw) sqj (λ_ _ _ h=>h.mono (sqO hw) sqj);obtain ⟨p,cap,rfl,hcl,hcm,hx⟩:=h;have HX:=hid hx;have HLEN:Hid ((ms.flatMap (modP ms d)).length<=16777216):=Nat.le_trans (allP_len ms ms d) hw
 have HWM:Hid (∀ k m,ms[k]?=some m->wtMd d m<=16777216):=λk m hk=>Nat.le_trans (by
  have h2:=sum_take_succ (wtMd d) ms k m hk;have h3:=sum_take_le (wtMd d) ms (k+1);unfold wtS
  omega) hw
 have HV:Hid (checkP d ms=if pgOk d ms then ms.flatMap (modP ms d) else []):=rfl;have hnb:=sqM hcl hcm;generalize hn:ms.length=n at *;have HN:=hid hn;have O1:Hid (OwnP (w.alloc (.cells #[] 121)) w.heap.size (.slice (some ⟨w.heap.size,0,none⟩) 0 0) []):=OwnG.fresh;have B1:Hid (Bz w (w.alloc (.cells #[] 121))):=(sqN _ _);clear hx hn hw;go_enter func42,ntmps42;go_wp2_with fail;refine (specProgramOk_any d _ _ ms (HMS.out _ B1.out)).mono ?_;rintro e w1 ⟨rfl,hb⟩;have O2:Hid (OwnP w1 w.heap.size (.slice (some ⟨w.heap.size,0,none⟩) 0 0) []):=O1.out.next hb;have B2:Hid (Bz w w1):=B1.out.trans (hb.mono B1.out.size);clear hb O1 B1
 cases hc:pgOk d ms with
 | false =>
  have HV2:Hid (checkP d ms = []):=(by show _=_;rw [HV.out,hc];rfl);go_wp2;go_ret;exact ⟨_,rfl,by rw [HV2.out];exact O2.out,B2.out⟩
 | true =>
  have HV2:Hid (checkP d ms=ms.flatMap (modP ms d)):=(by show _=_;rw [HV.out,hc];rfl);clear hc HV;go_wp2_with fail
  go_loopw [3,4] (λov iv wx=>∃ a:Nat,a<=n/\iv=.int .i64 a/\Hid (OwnP wx w.heap.size ov ((ms.take a).flatMap (modP ms d)))/\Hid (Bz w wx)) (λ_ iv _=>n - (intOf iv).toNat)
  case atStart=>exact ⟨0,Nat.zero_le _,rfl,by show OwnP _ _ _ _;simpa using O2.out,B2⟩
  case round =>
   obtain ⟨a,ha,rfl,ho,hb⟩:=hrel;clear O2 B2;by_cases hlt:a<n
   . obtain ⟨m,hmk⟩:=sqA (l:=ms) (k:=a) HN.out hlt
     obtain ⟨g,off,rfl,-,hgl,hat⟩:=HX.out (sqE hmk);obtain ⟨cs,hcsl,hcs,hm⟩:=hat a m hmk;have HMM:Hid (∀ w',Bz w w'->HMd w' All d cs m):=λw' hw=>hm.mono (sqO hw) sqj;obtain ⟨ev,fv,rfl,hms,he,hf⟩:=hm;obtain ⟨pe,ce,rfl,hce,hcme,hxe⟩:=he;obtain ⟨pf,cf,rfl,hcf,hcmf,hxf⟩:=hf;have HXE:=hid hxe;have HXF:=hid hxf
     have HWF:Hid (∀ k f,m.funs[k]?=some f->wtFn d f<=16777216):=λk f hk=>Nat.le_trans (by
      have h2:=sum_take_succ (wtFn d) m.funs k f hk;have h3:=sum_take_le (wtFn d) m.funs (k+1);unfold wtMd wtS
      omega) (HWM.out a m hmk)
     obtain ⟨a0,a1,a2⟩:=sqC3 hcs (by omega);rw [<-hb.out.cell (p:=⟨g,_,none⟩) hgl] at a0 a1 a2;simp at a0 a1 a2;have hki:(a:Int)<(n:Int):=(by omega);have hk0:=sqI a;have hne:m.exports.length<=9223372036854775807:=(by unfold maxLen at hcme;omega);have hnf:m.funs.length<=9223372036854775807:=(by unfold maxLen at hcmf;omega);obtain ⟨HJ,HL⟩:=flat_takeG (modP ms d) ms a m hmk;have HJJ:Hid ((ms.take (a+1)).flatMap (modP ms d)=(ms.take a).flatMap (modP ms d) ++ (m.exports.flatMap (exportP m) ++ m.funs.flatMap (funP ms m d))):=HJ
     have HLL:Hid (((ms.take a).flatMap (modP ms d)).length+((m.exports.flatMap (exportP m)).length+(m.funs.flatMap (funP ms m d)).length)<=16777216):=by
      have h1:=HLEN.out;have h2:(modP ms d m).length=(m.exports.flatMap (exportP m)).length+(m.funs.flatMap (funP ms m d)).length:=(by simp only [modP,List.length_append]);show _<=_;omega
     generalize hA0:(ms.take a).flatMap (modP ms d)=A0 at *;generalize hn1:m.exports.length=ne at *;have HN1:=hid hn1;generalize hn2:m.funs.length=nf at *;have HN2:=hid hn2;obtain ⟨W5,hW5⟩:∃ W5,W5=wr.alloc (.cells #[.string m.name,.slice pe ne ce,.slice pf nf cf] 61):=⟨_,rfl⟩;obtain ⟨bm,hbm⟩:∃ bm,bm=wr.heap.size:=⟨_,rfl⟩;have b5:Hid (Blk W5 bm #[.string m.name,.slice pe ne ce,.slice pf nf cf] 61):=(by show Blk _ _ _ _;rw [hW5,hbm];exact Blk.new);have HB5:Hid (Bz w W5):=(by show Below _ _ _;rw [hW5];exact hb.out.alloc hb.out.size _);have HO5:Hid (OwnP W5 w.heap.size u3 A0):=(by show OwnP _ _ _ _;rw [hW5];exact ho.out.next ((sqN _ _)));have HW5:=hid hW5;have HBM:Hid (wr.heap.size=bm):=hbm.symm;have HMSN:=hid hms;clear hxe hxf hcs hcsl hat HJ HL hA0 ho hb hW5 hbm hms hn1 hn2 hmk;go_wp2_with fail;rw [<-HW5.out,HBM.out];clear a0 a1 a2 HW5 HBM
     -- the exports
     go_loopw [3,6] (λov iv wx=>∃ k:Nat,k<=ne/\iv=.int .i64 k/\Hid (OwnP wx w.heap.size ov (A0 ++ (m.exports.take k).flatMap (exportP m)))/\Hid (Bz w wx)/\Hid (Blk wx bm #[.string m.name,.slice pe ne ce,.slice pf nf cf] 61)) (λ_ iv _=>ne - (intOf iv).toNat)
     case atStart=>exact ⟨0,Nat.zero_le _,rfl,by show OwnP _ _ _ _;simpa using HO5.out,HB5,b5⟩
     case round =>
      obtain ⟨k,hk,rfl,ho,hb,bb⟩:=hrel;clear HO5 HB5 b5;obtain ⟨x0,x1,x2⟩:=sqB3 bb.out;by_cases hlk:k<ne
      . obtain ⟨r,hrk⟩:∃ r,m.exports[k]?=some r:=⟨m.exports[k]'(by rw [HN1.out];exact hlk),List.getElem?_eq_getElem _⟩
        obtain ⟨g6,o6,rfl,-,hgl6,hat6⟩:=HXE.out (sqE hrk);obtain ⟨cs6,hcsl6,hcs6,rfl,hrs,hri⟩:=hat6 k r hrk;obtain ⟨a0,a1⟩:=sqC2 hcs6 (by omega);rw [<-hb.out.cell (p:=⟨g6,_,none⟩) hgl6] at a0 a1;simp at a0 a1;have hki6:(k:Int)<(ne:Int):=(by omega);have hk06:=sqI k;obtain ⟨HJ,HL⟩:=flat_takeG (exportP m) m.exports k r hrk;have HJ6:Hid ((m.exports.take (k+1)).flatMap (exportP m)=(m.exports.take k).flatMap (exportP m) ++ exportP m r):=HJ
        have HL6:Hid ((A0 ++ (m.exports.take k).flatMap (exportP m)).length+(exportP m r).length<=16777216):=by
         have h1:=HLL.out;show _<=_;rw [List.length_append];omega
        have HEP:Hid (exportP m r=if hasF m r.name r.arity then [] else [⟨m.name,r.name,r.arity,cExport⟩]):=rfl;obtain ⟨rs,rn⟩:=r;simp only at *;have HPB:Hid (HPb [.string m.name,.string rs,.int .i64 rn,.string ⟨#[101,120,112,111,114,116]⟩] ⟨m.name,rs,rn,cExport⟩):=⟨rfl,HMSN.out,hrs,hri,okS_export⟩;obtain ⟨W6,hW6⟩:∃ W6,W6=wr.alloc (.cells #[.string rs,.int .i64 rn] 110):=⟨_,rfl⟩;obtain ⟨br,hbr⟩:∃ br,br=wr.heap.size:=⟨_,rfl⟩;have hbl:Bz wr W6:=(by rw [hW6];exact (sqN _ _));have br6:Hid (Blk W6 br #[.string rs,.int .i64 rn] 110):=(by show Blk _ _ _ _;rw [hW6,hbr];exact Blk.new);have bm6:Hid (Blk W6 bm #[.string m.name,.slice (some ⟨g6,o6,none⟩) ne ce,.slice pf nf cf] 61):=bb.out.next hbl;have HB6:Hid (Bz w W6):=hb.out.trans (hbl.mono hb.out.size);have HO6:Hid (OwnP W6 w.heap.size u3 (A0 ++ (m.exports.take k).flatMap (exportP m))):=ho.out.next hbl;have HW6:=hid hW6;have HBR:Hid (wr.heap.size=br):=hbr.symm;obtain ⟨y0,y1,y2⟩:=sqB3 bm6.out;rw [hW6] at y0 y1 y2;generalize hJ0:A0 ++ (m.exports.take k).flatMap (exportP m)=J at *;have HJ0:=hid hJ0;clear hcs6 hcsl6 hat6 HJ HL hW6 hbr hbl hJ0 hrk hrs hri ho hb bb;go_wp2_with fail;rw [<-HW6.out];clear y0 y1 y2 x0 x1 x2 a0 a1;refine (l02FindI_any d _ _ m rs rn (HMM.out _ HB6.out)).mono ?_;rintro e w7 ⟨rfl,hb7⟩;have K7:=hid hb7;have br7:Hid (Blk w7 br #[.string rs,.int .i64 rn] 110):=br6.out.next hb7;have bm7:Hid (Blk w7 bm #[.string m.name,.slice (some ⟨g6,o6,none⟩) ne ce,.slice pf nf cf] 61):=bm6.out.next hb7;have HB7:Hid (Bz w w7):=HB6.out.trans (hb7.mono HB6.out.size);have HO7:Hid (OwnP w7 w.heap.size u3 J):=HO6.out.next hb7;clear hb7;rw [HBR.out];have y0:=bm7.out.cell 0 _ rfl;obtain ⟨r0,r1⟩:=sqB2 br7.out
        rcases findI_cases (sameR ⟨rs,rn⟩) m.funs with ⟨hf,hfi⟩ | ⟨q,z,hf,-,-,hfi,-⟩
        . rw [hfi]
          have HE2:Hid (exportP m ⟨rs,rn⟩ = [⟨m.name,rs,rn,cExport⟩]):=(by show _=_;rw [HEP.out,show hasF m rs rn=false from hf];rfl);clear hf hfi;go_wp2_with (at_builtin;refine wpList_append_one rfl _ _ 84 rfl _ 56 underlying84 info_pb rfl (by decide) HO7.out #[.string m.name,.string rs,.int .i64 rn,.string ⟨#[101,120,112,111,114,116]⟩] ⟨m.name,rs,rn,cExport⟩ HPB.out rfl (pb_oneCell _ _ HPB.out) rfl rfl (by have:=HL6.out;rw [HE2.out] at this;exact this) (by decide) ?_;intro v9 w9 ho9 hb9 hap9);have HO9:Hid (OwnP w9 w.heap.size v9 (A0 ++ (m.exports.take (k+1)).flatMap (exportP m))):=(by show OwnP _ _ _ _;rw [HJ6.out,<-List.append_assoc,HJ0.out,HE2.out];exact ho9);have HB9:Hid (Bz w w9):=HB7.out.trans hb9;have b9:Hid (Blk w9 bm #[.string m.name,.slice (some ⟨g6,o6,none⟩) ne ce,.slice pf nf cf] 61):=hap9.blk bm7.out (by decide);clear ho9 hb9 hap9;go_wp2_with fail;exact ⟨⟨k+1,by omega,by go_num,HO9,HB9,b9⟩,by simp [intOf];omega⟩
        . rw [hfi]
          have HO9:Hid (OwnP w7 w.heap.size u3 (A0 ++ (m.exports.take (k+1)).flatMap (exportP m))):=(by show OwnP _ _ _ _;rw [HJ6.out,<-List.append_assoc,HJ0.out,HEP.out,show hasF m rs rn=true from hf];simpa using HO7.out);have hq0:¬ (q:Int)<0:=(by omega);clear hf hfi;go_wp2_with fail;exact ⟨⟨k+1,by omega,by go_num,HO9,HB7,bm7⟩,by simp [intOf];omega⟩
      . have HO5:Hid (OwnP wr w.heap.size u3 (A0 ++ m.exports.flatMap (exportP m))):=by
         have:=ho.out
         rwa [show m.exports.take k=m.exports from List.take_of_length_le (by rw [HN1.out];omega)] at this
        have HLF:Hid ((A0 ++ m.exports.flatMap (exportP m)).length+(m.funs.flatMap (funP ms m d)).length<=16777216):=by
         have h1:=HLL.out;show _<=_;rw [List.length_append];omega
        have HJF:Hid ((ms.take (a+1)).flatMap (modP ms d)=(A0 ++ m.exports.flatMap (exportP m)) ++ m.funs.flatMap (funP ms m d)):=(by show _=_;rw [HJJ.out,List.append_assoc]);generalize A0 ++ m.exports.flatMap (exportP m)=A1 at *;clear ho HJJ HLL HXE HN1;go_wp2_with fail;clear x0 x1 x2 hlk hk
        -- the functions
        go_loopw [3,8] (λov iv wx=>∃ k:Nat,k<=nf/\iv=.int .i64 k/\Hid (OwnP wx w.heap.size ov (A1 ++ (m.funs.take k).flatMap (funP ms m d)))/\Hid (Bz w wx)/\Hid (Blk wx bm #[.string m.name,.slice pe ne ce,.slice pf nf cf] 61)) (λ_ iv _=>nf - (intOf iv).toNat)
        case atStart=>exact ⟨0,Nat.zero_le _,rfl,by show OwnP _ _ _ _;simpa using HO5.out,hb,bb⟩
        case round =>
         obtain ⟨k,hk,rfl,ho,hb,bb⟩:=hrel;clear HO5;obtain ⟨x0,x1,x2⟩:=sqB3 bb.out;by_cases hlk:k<nf
         . obtain ⟨f,hfk⟩:∃ f,m.funs[k]?=some f:=⟨m.funs[k]'(by rw [HN2.out];exact hlk),List.getElem?_eq_getElem _⟩
           obtain ⟨g6,o6,rfl,-,hgl6,hat6⟩:=HXF.out (sqE hfk);obtain ⟨cs6,hcsl6,hcs6,hf⟩:=hat6 k f hfk;have HFF:Hid (∀ w',Bz w w'->HFn w' All d cs6 f):=λw' hw=>hf.mono (sqO hw) sqj;have HCELL:Hid (∀ w',Bz w w'->∀ j,j<3->w'.cell? ⟨g6,o6+k * 3+j,none⟩=cs6[j]?):=λw' hw j hj=>(hw.cell (p:=⟨g6,_,none⟩) hgl6).trans (hcs6 j hj);obtain ⟨fv6,rfl,hfs,hfi,p6,q6,rfl,-⟩:=hf;have a0:=HCELL.out _ hb.out 0 (by omega);have a1:=HCELL.out _ hb.out 1 (by omega);have a2:=HCELL.out _ hb.out 2 (by omega);simp at a0 a1 a2;have hki6:(k:Int)<(nf:Int):=(by omega);have hk06:=sqI k;obtain ⟨HJ,HL⟩:=flat_takeG (funP ms m d) m.funs k f hfk;have HJ6:Hid (A1 ++ (m.funs.take (k+1)).flatMap (funP ms m d)=(A1 ++ (m.funs.take k).flatMap (funP ms m d)) ++ funP ms m d f):=(by show _=_;rw [HJ,List.append_assoc])
           have HL6:Hid ((A1 ++ (m.funs.take k).flatMap (funP ms m d)).length+(funP ms m d f).length<=16777216):=by
            have h1:=HLF.out;show _<=_;rw [List.length_append];omega
           have HFP:Hid (funP ms m d f=(funC ms m d f).map λc=>⟨m.name,f.name,f.arity,c⟩):=rfl;have HPB:Hid (∀ c,c ∈ funC ms m d f->HPb [.string m.name,.string f.name,.int .i64 f.arity,.string c] ⟨m.name,f.name,f.arity,c⟩):=λc hc=>⟨rfl,HMSN.out,hfs,hfi,funC_okS hc⟩
           have CF:Hid (∀ w',Bz wr w'->Calls prog 73 #[.slice (some ⟨g,off,none⟩) n cap,.agg #[.string m.name,.slice pe ne ce,.slice (some ⟨g6,o6,none⟩) nf cf],.agg #[.string f.name,.int .i64 f.arity,.slice p6 f.clauses.length q6]] w' λe w''=>∃ u,e=.returned u/\OwnS w'' w'.heap.size u (funC ms m d f)/\Below w'.heap.size w' w''):=λw' hw'=>by
            have hb9:Bz w w':=hb.out.trans (hw'.mono hb.out.size);exact l05Fun_any d w' _ ms _ m _ f (HMS.out w' hb9) (HMM.out w' hb9) (HFF.out w' hb9) (HWF.out k f hfk)
           generalize hJ0:A1 ++ (m.funs.take k).flatMap (funP ms m d)=J at *;clear hcs6 hcsl6 hat6 HJ HL hJ0 hfs hfi;go_wp2_with fail
           go_region_law
            (first
             | (go_simp;go_at_call 73;refine (CF.out _ (by exact (Below.refl _ _).drew)).mono ?_;rintro e w7 ⟨u7,rfl,o7,hb7⟩;have K7:Hid (Bz wr w7):=⟨hb7.os,hb7.tape,hb7.output,hb7.size,hb7.block⟩;have O7:Hid (w7.ownsRow 0 9 1 u7 (funC ms m d f).length (strs (funC ms m d f))):=owns_base o7.1;clear hb7 o7;dsimp only))
           all_goals
            obtain ⟨p7,q7,rfl,hcm7⟩:=owns_slice O7.out;have hn7:(funC ms m d f).length<=9223372036854775807:=(by unfold maxLen at hcm7;omega);generalize hC0:funC ms m d f=C at *;generalize hnC:C.length=nC at *;have HNC:=hid hnC;have HO7:Hid (OwnP w7 w.heap.size u3 J):=ho.out.next K7.out;have HB7:Hid (Bz w w7):=hb.out.trans (K7.out.mono hb.out.size);have b7:Hid (Blk w7 bm #[.string m.name,.slice pe ne ce,.slice (some ⟨g6,o6,none⟩) nf cf] 61):=bb.out.next K7.out;clear x0 x1 x2 a0 a1 a2 ho hb bb K7 hC0 hnC CF hcm7;go_wp2_with fail
            -- the codes
            go_loopw [3,10] (λov iv wx=>∃ j:Nat,j<=nC/\iv=.int .i64 j/\Hid (OwnP wx w.heap.size ov (J ++ (C.take j).map λc=>⟨m.name,f.name,f.arity,c⟩))/\Hid (Bz w wx)/\Hid (Blk wx bm #[.string m.name,.slice pe ne ce,.slice (some ⟨g6,o6,none⟩) nf cf] 61)/\Hid (wx.ownsRow 0 9 1 (.slice p7 nC q7) nC (strs C))) (λ_ iv _=>nC - (intOf iv).toNat)
            case atStart=>exact ⟨0,Nat.zero_le _,rfl,by show OwnP _ _ _ _;simpa using HO7.out,HB7,b7,O7⟩
            case round =>
             obtain ⟨j,hj,rfl,ho,hb,bb,oc⟩:=hrel;clear HO7 HB7 b7 O7;by_cases hlj:j<nC
             . obtain ⟨c,hcj⟩:∃ c,C[j]?=some c:=⟨C[j]'(by rw [HNC.out];exact hlj),List.getElem?_eq_getElem _⟩
               obtain ⟨g8,rfl⟩:=owns_some oc.out (by omega);have a8':(strs C)[j]?=some (.string c):=(by simp [strs,hcj]);have a8:=(oc.out.cellAt j (by omega)).trans a8';obtain ⟨x0,x1,x2⟩:=sqB3 bb.out;have a0:=HCELL.out _ hb.out 0 (by omega);have a1:=HCELL.out _ hb.out 1 (by omega);simp at a0 a1;have hji:(j:Int)<(nC:Int):=(by omega);have hj0:=sqI j;have HPC:=HPB.out c (List.mem_of_getElem? hcj);have HPC2:Hid (HPb [.string m.name,.string f.name,.int .i64 f.arity,.string c] ⟨m.name,f.name,f.arity,c⟩):=HPC
               have HJ9:Hid (J ++ ((C.take (j+1)).map λc=>(⟨m.name,f.name,f.arity,c⟩:Pb))=(J ++ (C.take j).map λc=>⟨m.name,f.name,f.arity,c⟩) ++ [⟨m.name,f.name,f.arity,c⟩]):=by
                show _=_;rw [List.take_add_one,hcj];simp
               have HL9:Hid ((J ++ ((C.take j).map λc=>(⟨m.name,f.name,f.arity,c⟩:Pb))).length+1<=16777216):=by
                have h1:=HL6.out;rw [HFP.out,List.length_map,HNC.out] at h1;show _<=_;rw [List.length_append,List.length_map,List.length_take];omega
               generalize (J ++ ((C.take j).map λc=>(⟨m.name,f.name,f.arity,c⟩:Pb)))=J9 at *;clear HPC hcj;have HOA:Hid (OwnP (wr.alloc (.cells #[.string m.name,.string f.name,.int .i64 f.arity,.string c] 121)).drew w.heap.size u3 J9):=ho.out.next ((sqN _ _)).drew;have HGA:Hid ((wr.alloc (.cells #[.string m.name,.string f.name,.int .i64 f.arity,.string c] 121)).drew.heap[wr.heap.size]?=some (Obj.cells #[.string m.name,.string f.name,.int .i64 f.arity,.string c] 121 (0,0))):=heap_alloc_new wr _;have HBA:Hid (Bz w (wr.alloc (.cells #[.string m.name,.string f.name,.int .i64 f.arity,.string c] 121)).drew):=(hb.out.alloc hb.out.size _).drew;have HAA:Hid (ApartE 121 wr (wr.alloc (.cells #[.string m.name,.string f.name,.int .i64 f.arity,.string c] 121)).drew):=ApartE.of_below ((sqN _ _)).drew
               have NXT:Hid (∀ w9,Below w.heap.size (wr.alloc (.cells #[.string m.name,.string f.name,.int .i64 f.arity,.string c] 121)).drew w9->ApartE 121 (wr.alloc (.cells #[.string m.name,.string f.name,.int .i64 f.arity,.string c] 121)).drew w9->w9.cell? ⟨bm,0,none⟩=some (.string m.name)/\w9.cell? ⟨bm,2,none⟩=some (.slice (some ⟨g6,o6,none⟩) nf cf)/\w9.cell? ⟨g6,o6+k * 3,none⟩=some (.string f.name)/\w9.cell? ⟨g6,o6+k * 3+1,none⟩=some (.int .i64 f.arity)/\w9.cell? ⟨g8,j,none⟩=some (.string c)):=λw9 hb9 hap9=>by
                have q0:=(HAA.out.trans hap9).blk bb.out (by decide);have q1:=HCELL.out w9 (HBA.out.trans hb9);have q2:=(HAA.out.trans hap9).owns oc.out (by decide);exact ⟨q0.cell 0 _ rfl,q0.cell 2 _ rfl,by simpa using q1 0 (by omega),by simpa using q1 1 (by omega),(q2.cellAt j (by omega)).trans a8'⟩
               clear x1;go_wp2_with fail
               go_region_held3 (λw'=>w'.cell? ⟨bm,0,none⟩=some (.string m.name)/\w'.cell? ⟨bm,2,none⟩=some (.slice (some ⟨g6,o6,none⟩) nf cf)/\w'.cell? ⟨g6,o6+k * 3,none⟩=some (.string f.name)/\w'.cell? ⟨g6,o6+k * 3+1,none⟩=some (.int .i64 f.arity)/\w'.cell? ⟨g8,j,none⟩=some (.string c))
                (first | go_keep | (go_split_ands;refine ⟨?_,?_,?_,?_,?_⟩ <;> exact cell_next ((sqN _ _)) (by assumption)) | exact nx9)
                (first
                 | (refine step_append_blk (by rfl) _ _ _ (by rfl) _ 56 underlying84 info_pb rfl (by decide) HOA.out wr.heap.size #[.string m.name,.string f.name,.int .i64 f.arity,.string c] HGA.out ⟨m.name,f.name,f.arity,c⟩ HPC2.out rfl (pb_oneCell _ _ HPC2.out) (by rfl) (by rfl) HL9.out (by decide) ?_;intro v9 w9 ho9 hb9 hap9;have nx9:=NXT.out w9 hb9 hap9))
               all_goals
                have HO9:Hid (OwnP w9 w.heap.size v9 (J ++ (C.take (j+1)).map λc=>⟨m.name,f.name,f.arity,c⟩)):=(by show OwnP _ _ _ _;rw [HJ9.out];exact ho9);have HB9:Hid (Bz w w9):=HBA.out.trans hb9;have b9:Hid (Blk w9 bm #[.string m.name,.slice pe ne ce,.slice (some ⟨g6,o6,none⟩) nf cf] 61):=(HAA.out.trans hap9).blk bb.out (by decide);have oc9:Hid (w9.ownsRow 0 9 1 (.slice (some ⟨g8,0,none⟩) nC q7) nC (strs C)):=(HAA.out.trans hap9).owns oc.out (by decide);clear ho9 hb9 hap9;go_wp2_with fail;exact ⟨⟨j+1,by omega,by go_num,HO9,HB9,b9,oc9⟩,by simp [intOf];omega⟩
             . have HO9:Hid (OwnP wr w.heap.size u3 (A1 ++ (m.funs.take (k+1)).flatMap (funP ms m d))):=by
                have h1:=ho.out;rw [show C.take j=C from List.take_of_length_le (by rw [HNC.out];omega)] at h1;show OwnP _ _ _ _;rw [HJ6.out,HFP.out];exact h1
               clear ho;go_wp2_with fail;exact ⟨⟨k+1,by omega,by go_num,HO9,hb,bb⟩,by simp [intOf];omega⟩
         . have HO9:Hid (OwnP wr w.heap.size u3 ((ms.take (a+1)).flatMap (modP ms d))):=by
            have h1:=ho.out;rw [show m.funs.take k=m.funs from List.take_of_length_le (by rw [HN2.out];omega)] at h1;show OwnP _ _ _ _;rw [HJF.out];exact h1
           clear ho;go_wp2_with fail;exact ⟨⟨a+1,by omega,by go_num,HO9,hb⟩,by simp [intOf];omega⟩
   . have HR:Hid (OwnP wr w.heap.size u3 (checkP d ms)):=by
      have h1:=ho.out;rw [show ms.take a=ms from List.take_of_length_le (by rw [HN.out];omega)] at h1;show OwnP _ _ _ _;rw [HV2.out];exact h1
     clear ho;go_wp2;go_ret;exact ⟨_,rfl,HR.out,hb.out⟩
structure CbI (d b0:Nat) (pv:Value) (mc fc:Array Value) (ms:List Md) (m:Md) (w:World) (v:Value) (s:List Pb):Prop where
 p:Blk w b0 #[pv] 128
 mb:Blk w (b0+1) mc 61
 f:Blk w (b0+1+1) fc 57
 l:Blk w (b0+1+1+1+1) #[v] 84
 own:OwnP w (b0+1+1+1) v s
 rows:Rows w (λg=>g<b0) 3 (HMd w (λg=>g<b0) d) pv ms
 mod:HMd w (λg=>g<b0) d mc.toList m
def MvB (b0:Nat) (v:Value) (g:Nat):Prop:=g=b0+1+1+1+1\/v.ownBlock=some g
theorem CbI.next {d b0:Nat} {pv:Value} {mc fc:Array Value} {ms:List Md} {m:Md} {w w':World} {v:Value} {s:List Pb} (h:CbI d b0 pv mc fc ms m w v s) (hb:Bz w w'):CbI d b0 pv mc fc ms m w' v s :=
 ⟨h.p.next hb,h.mb.next hb,h.f.next hb,h.l.next hb,h.own.next hb,h.rows.mono (sqO hb) sqj (λ_ _ _ h=>h.mono (sqO hb) sqj),h.mod.mono (sqO hb) sqj⟩
def stC (ms:List Md) (m:Md) (fs:ByteArray) (fn:Int) (s:List Pb) (x:Ex):List Pb:=if wrongB ms m x && !(s.any (samePb ⟨m.name,fs,fn,codeOf x⟩)) then s ++ [⟨m.name,fs,fn,codeOf x⟩] else s
theorem viaDraw {w V:World} {o:Obj} (h:Below (w.alloc o).drew.heap.size (w.alloc o).drew V):Bz w V/\Below (w.alloc o).heap.size (w.alloc o) V:=by
 have k:Below (w.alloc o).heap.size (w.alloc o) V:=⟨h.os,h.tape,h.output,h.size,h.block⟩;exact ⟨((sqN _ _)).trans (k.mono (by rw [alloc_hs];omega)),k⟩
theorem pbSet {w:World} {b:Nat} {a0 a1 a2 a3 c0 c1 c2 c3:Value} {t:TypeId} (h:Blk w b #[a0,a1,a2,a3] t):Blk ((((w.setCell ⟨b,0,none⟩ c0).setCell ⟨b,1,none⟩ c1).setCell ⟨b,2,none⟩ c2).setCell ⟨b,3,none⟩ c3) b #[c0,c1,c2,c3] t :=
 (((h.same rfl).same rfl).same rfl).same rfl
theorem pbSetB {w v:World} {N b:Nat} {c0 c1 c2 c3:Value} (h:Below N v w) (hb:N<=b):Below N v ((((w.setCell ⟨b,0,none⟩ c0).setCell ⟨b,1,none⟩ c1).setCell ⟨b,2,none⟩ c2).setCell ⟨b,3,none⟩ c3) :=
 (((h.setCell hb _).setCell hb _).setCell hb _).setCell hb _
theorem okS_codeOf (x:Ex):okS (codeOf x):=by unfold codeOf;split <;> (unfold okS;decide)
theorem cb_any (d dx b0:Nat) (pv:Value) (pe:Option Addr) (ne ce:Nat) (pf:Option Addr) (nf cf:Nat) (fs:ByteArray) (fn:Int) (pc:Option Addr) (nc cc:Nat) (ms:List Md) (m:Md) (w:World) (v:Value) (s:List Pb) (cs:List Value) (x:Ex)
 (h:CbI d b0 pv #[.string m.name,.slice pe ne ce,.slice pf nf cf] #[.string fs,.int .i64 fn,.slice pc nc cc] ms m w v s) (hx:HEx w All dx cs x) (hok:okS m.name/\okS fs/\okI fn) (hl:s.length+1<=16777216) :
 Calls prog 145 #[.agg cs.toArray,.pointer (some ⟨b0,0,none⟩),.pointer (some ⟨b0+1,0,none⟩),.pointer (some ⟨b0+1+1,0,none⟩),.pointer (some ⟨b0+1+1+1+1,0,none⟩)] w λe w'=>e=.returned (.tuple #[])/\∃ v',CbI d b0 pv #[.string m.name,.slice pe ne ce,.slice pf nf cf] #[.string fs,.int .i64 fn,.slice pc nc cc] ms m w' v' (stC ms m fs fn s x)/\Mv (MvB b0 v) (MvB b0 v') w w':=by
 cases dx with
 | zero=>exact hx.elim
 | succ dx =>
 have HXX:Hid (∀ w',Bz w w'->HEx w' All (dx+1) cs x):=λw' hw=>hx.mono (sqO hw) sqj;have HI:=hid h;have HST:Hid (stC ms m fs fn s x=if wrongB ms m x && !(s.any (samePb ⟨m.name,fs,fn,codeOf x⟩)) then s ++ [⟨m.name,fs,fn,codeOf x⟩] else s):=rfl;have HPB:Hid (HPb [.string m.name,.string fs,.int .i64 fn,.string (codeOf x)] ⟨m.name,fs,fn,codeOf x⟩):=⟨rfl,hok.1,hok.2.1,hok.2.2,okS_codeOf x⟩
 have CC:Hid (∀ w',Bz w w'->Calls prog 146 #[.agg #[pv],.agg #[.string m.name,.slice pe ne ce,.slice pf nf cf],.agg cs.toArray] w' λe w''=>e=.returned (.tuple #[.string (codeOf x),.bool (wrongB ms m x)])/\Below w'.heap.size w' w''):=λw' hw=>by
  have h1:=h.next hw;exact callProblem_any d (dx+1) w' pv ms _ m cs x (h1.rows.mono sqS (λ_ _=>trivial) (λ_ _ _ h=>h.mono sqS (λ_ _=>trivial))) (h1.mod.mono sqS (λ_ _=>trivial)) (HXX.out w' hw)
 obtain ⟨kx,nx,tx,mx,ks,cl⟩:=x;obtain ⟨kv,cv,rfl,-,-,-,-,⟨p1,q1,rfl,-⟩,⟨p2,q2,rfl,-⟩⟩:=hx;simp only [Ex.kind,Ex.n,Ex.text,Ex.mod,Ex.kids,Ex.clauses] at *;generalize hX:Ex.mk kx nx tx mx ks cl=X at *;generalize codeOf X=CO at *;generalize wrongB ms m X=WB at *;generalize ks.length=nk at *;generalize cl.length=nd at *;obtain ⟨W1,hW1⟩:∃ W1,W1=w.alloc (.cells #[.int .i64 kx,.int .i64 nx,.string tx,.string mx,.slice p1 nk q1,.slice p2 nd q2] 74):=⟨_,rfl⟩;have B1:Hid (Bz w W1):=(by show Below _ _ _;rw [hW1];exact (sqN _ _));have bE:Hid (Blk W1 w.heap.size #[.int .i64 kx,.int .i64 nx,.string tx,.string mx,.slice p1 nk q1,.slice p2 nd q2] 74):=(by show Blk _ _ _ _;rw [hW1];exact Blk.new);have I1:=hid (h.next B1.out);have HW1:=hid hW1;have y0:=I1.out.p.cell 0 _ rfl;obtain ⟨y1,y2,y3⟩:=sqB3 I1.out.mb;rw [hW1] at y0 y1 y2 y3;clear h hX hW1 hok;go_enter func145,ntmps145;go_wp2_with fail;rw [<-HW1.out];clear y0 y1 y2 y3;refine (CC.out _ B1.out).mono ?_;rintro e w2 ⟨rfl,hb⟩;have B2:=hid (B1.out.trans (hb.mono B1.out.size));have I2:=hid (I1.out.next hb);clear hb;obtain ⟨y1,y2,y3⟩:=sqB3 I2.out.mb;obtain ⟨z1,z2,z3⟩:=sqB3 I2.out.f;obtain ⟨TM,hTM⟩:∃ TM:Nat->Array Value,TM=λbx=>#[.agg #[.int .i64 kx,.int .i64 nx,.string tx,.string mx,.slice p1 nk q1,.slice p2 nd q2],.pointer (some ⟨b0,0,none⟩),.pointer (some ⟨b0+1,0,none⟩),.pointer (some ⟨b0+1+1,0,none⟩),.pointer (some ⟨b0+1+1+1+1,0,none⟩),.pointer (some ⟨w.heap.size,0,none⟩),.string CO,.bool WB,.pointer (some ⟨bx,0,none⟩),.tuple #[.string CO,.bool WB],.agg #[pv],.agg #[.string m.name,.slice pe ne ce,.slice pf nf cf],.agg #[.int .i64 kx,.int .i64 nx,.string tx,.string mx,.slice p1 nk q1,.slice p2 nd q2],.tuple #[.string CO,.bool WB],.string CO,.bool WB,.agg #[.string m.name,.slice pe ne ce,.slice pf nf cf],.agg #[.string fs,.int .i64 fn,.slice pc nc cc],.agg #[.string fs,.int .i64 fn],.string CO,.agg #[.string m.name,.string fs,.int .i64 fn,.string CO],undef,undef,undef,undef,undef,undef,undef,undef,undef,undef,undef]:=⟨_,rfl⟩;have HTM:=hid hTM;clear hTM;have IA:Hid (CbI d b0 pv #[.string m.name,.slice pe ne ce,.slice pf nf cf] #[.string fs,.int .i64 fn,.slice pc nc cc] ms m (w2.alloc (.cells #[.string ⟨#[]⟩,.string ⟨#[]⟩,.int .i64 0,.string ⟨#[]⟩] 121)) v s):=I2.out.next ((sqN _ _));obtain ⟨ya1,ya2,ya3⟩:=sqB3 IA.out.mb;obtain ⟨za1,za2,za3⟩:=sqB3 IA.out.f;go_wp2_with fail;refine Code.wp_mono (Q:=Exit.then (λa' w'=>Hid (∃ bx,Blk w' bx #[.string m.name,.string fs,.int .i64 fn,.string CO] 121/\Bz w2 w'/\a'=⟨TM bx,[]⟩)) (λ_ _ _=>False)) ?rest ?reg
 case reg =>
  go_region_law
   (first
    | (go_simp;go_at_call 91;refine (refOf_any _ _ _ _ _ _).mono ?_;rintro e w5 ⟨rfl,hb5⟩;have mark5:True:=trivial;(first | (have h1:Below (w2.alloc (.cells #[.string ⟨#[]⟩,.string ⟨#[]⟩,.int .i64 0,.string ⟨#[]⟩] 121)).drew.heap.size (w2.alloc (.cells #[.string ⟨#[]⟩,.string ⟨#[]⟩,.int .i64 0,.string ⟨#[]⟩] 121)).drew w5:=(by with_reducible exact hb5);have K5:Hid (Bz w2 w5):=(viaDraw h1).1;have BX5:=hid (Blk.next Blk.new (viaDraw h1).2);clear h1) | (have h1:Below w2.drew.heap.size w2.drew w5:=(by with_reducible exact hb5);have K5:Hid (Bz w2 w5):=⟨h1.os,h1.tape,h1.output,h1.size,h1.block⟩;clear h1));have m1:=cell_next K5.out y1;have m2:=cell_next K5.out y2;have m3:=cell_next K5.out y3;have ma1:(w5.alloc (.cells #[.string ⟨#[]⟩,.string ⟨#[]⟩,.int .i64 0,.string ⟨#[]⟩] 121)).cell? ⟨b0+1,0,none⟩=_:=cell_next ((sqN _ _)) m1;have ma2:(w5.alloc (.cells #[.string ⟨#[]⟩,.string ⟨#[]⟩,.int .i64 0,.string ⟨#[]⟩] 121)).cell? ⟨b0+1,1,none⟩=_:=cell_next ((sqN _ _)) m2;have ma3:(w5.alloc (.cells #[.string ⟨#[]⟩,.string ⟨#[]⟩,.int .i64 0,.string ⟨#[]⟩] 121)).cell? ⟨b0+1,2,none⟩=_:=cell_next ((sqN _ _)) m3;clear hb5;dsimp only)
    | (go_simp;go_at_call 115;have _:=mark5;refine (problemOf_any _ m.name pe pf ne ce nf cf fs fn CO).mono ?_;rintro e w6 ⟨rfl,hb6⟩;(first | (have h1:Bz w5 w6:=(by with_reducible exact hb6);have K6:=hid (K5.out.trans (h1.mono K5.out.size));(first | (have BX6:=hid (BX5.out.next h1)) | skip);clear h1) | (have h1:Below (w5.alloc (.cells #[.string ⟨#[]⟩,.string ⟨#[]⟩,.int .i64 0,.string ⟨#[]⟩] 121)).heap.size (w5.alloc (.cells #[.string ⟨#[]⟩,.string ⟨#[]⟩,.int .i64 0,.string ⟨#[]⟩] 121)) w6:=(by with_reducible exact hb6);have K6:Hid (Bz w2 w6):=(K5.out.alloc K5.out.size _).trans (h1.mono (by rw [alloc_hs];have:=K5.out.size;omega));have BX6:=hid (Blk.next Blk.new h1);clear h1));(try (have x0:=BX6.out.cell 0 _ rfl;have g0:=BX6.out.frozen 0;have x1:=BX6.out.cell 1 _ rfl;have g1:=BX6.out.frozen 1;have x2:=BX6.out.cell 2 _ rfl;have g2:=BX6.out.frozen 2;have x3:=BX6.out.cell 3 _ rfl;have g3:=BX6.out.frozen 3));clear hb6;dsimp only))
  all_goals
   first
    | (refine ⟨w6.heap.size,by with_reducible exact Blk.new,K6.out.alloc K6.out.size _,?_⟩;rw [HTM.out])
    | (refine ⟨w5.heap.size,by with_reducible exact pbSet BX6.out,by with_reducible exact pbSetB K6.out K5.out.size,?_⟩;rw [HTM.out])
    | (refine ⟨w2.heap.size,by with_reducible exact pbSet BX6.out,by with_reducible exact pbSetB K6.out (sqR _),?_⟩;rw [HTM.out])
 case rest =>
  rintro e a' V hp
  cases e with
  | normal =>
   obtain ⟨bx,hbF,hKF,rfl⟩:=hp.out;have bF:=hid hbF;have KF:=hid hKF;clear hp hbF hKF y1 y2 y3 z1 z2 z3 ya1 ya2 ya3 za1 za2 za3;rw [HTM.out];dsimp only;have B3:=hid (B2.out.trans (KF.out.mono B2.out.size));have I3:=hid (I2.out.next KF.out);have l0:=I3.out.l.cell 0 _ rfl;obtain ⟨f0,f1,f2,f3⟩:=sqB4 bF.out
   cases hWB:WB with
   | false =>
    have HS2:Hid (stC ms m fs fn s X=s):=(by show _=_;rw [HST.out,hWB];rfl);go_wp2;go_end0;exact ⟨rfl,v,by rw [HS2.out];exact I3.out,Mv.of_below B3.out⟩
   | true =>
    go_wp2_with fail;refine (containsP_any _ _ s ⟨m.name,fs,fn,CO⟩ I3.out.own.rows).mono ?_;rintro e w7 ⟨rfl,hb⟩;have B7:=hid (B3.out.trans (hb.mono B3.out.size));have I7:=hid (I3.out.next hb);have bF7:=hid (bF.out.next hb);clear l0 f0 f1 f2 f3 hb
    cases hSP:s.any (samePb ⟨m.name,fs,fn,CO⟩) with
    | true =>
     have HS2:Hid (stC ms m fs fn s X=s):=(by show _=_;rw [HST.out,hWB,hSP];rfl);go_wp2;go_end0;exact ⟨rfl,v,by rw [HS2.out];exact I7.out,Mv.of_below B7.out⟩
    | false =>
     have HS2:Hid (stC ms m fs fn s X=s ++ [⟨m.name,fs,fn,CO⟩]):=(by show _=_;rw [HST.out,hWB,hSP];rfl);have l0:=I7.out.l.cell 0 _ rfl;obtain ⟨f0,f1,f2,f3⟩:=sqB4 bF7.out;have F9:Hid (∀ w9,ApartE 121 w7 w9->Blk w9 (b0+1+1+1+1) #[v] 84):=λw9 hap=>hap.blk I7.out.l (by decide);go_wp2_with (at_builtin;refine wpList_append_lies rfl _ _ 84 rfl _ 56 underlying84 info_pb rfl (by decide) I7.out.own #[.string m.name,.string fs,.int .i64 fn,.string CO] ⟨m.name,fs,fn,CO⟩ HPB.out rfl (pb_oneCell _ _ HPB.out) rfl rfl hl (by decide) ?_;intro g9 q9 w9 ho9 hb9 hap9 hg9 hk9;have c9:w9.cell? ⟨b0+1+1+1+1,0,none⟩=some v:=(F9.out w9 hap9).cell 0 _ rfl;have z9:w9.frozen? ⟨b0+1+1+1+1,0,none⟩=false:=(F9.out w9 hap9).frozen 0);have hl9:Blk w9 (b0+1+1+1+1) #[v] 84:=F9.out w9 hap9;have hsz7:b0+1+1+1<=w7.heap.size:=I7.out.own.2;have hbz:Below (b0+1+1+1) w7 (w9.setCell ⟨b0+1+1+1+1,0,none⟩ (.slice (some ⟨g9,0,none⟩) (s.length+1) q9)):=hb9.setCell (by show _<=b0+1+1+1+1;omega) _;have hsm:SameOn (λg=>g<b0) w7 (w9.setCell ⟨b0+1+1+1+1,0,none⟩ (.slice (some ⟨g9,0,none⟩) (s.length+1) q9)):=⟨hbz.size,λg hg _=>hbz.block g (by omega)⟩
     have HIZ:CbI d b0 pv #[.string m.name,.slice pe ne ce,.slice pf nf cf] #[.string fs,.int .i64 fn,.slice pc nc cc] ms m (w9.setCell ⟨b0+1+1+1+1,0,none⟩ (.slice (some ⟨g9,0,none⟩) (s.length+1) q9)) (.slice (some ⟨g9,0,none⟩) (s.length+1) q9) (s ++ [⟨m.name,fs,fn,CO⟩]) :=
      ⟨(hap9.blk I7.out.p (by decide)).other (by show b0≠b0+1+1+1+1;omega),(hap9.blk I7.out.mb (by decide)).other (by show b0+1≠b0+1+1+1+1;omega),(hap9.blk I7.out.f (by decide)).other (by show b0+1+1≠b0+1+1+1+1;omega),hl9.same rfl,ho9.setCell hl9 (by decide),I7.out.rows.mono hsm sqj (λ_ _ _ h=>h.mono hsm sqj),I7.out.mod.mono hsm sqj⟩
     have HMZ:Mv (MvB b0 v) (MvB b0 (.slice (some ⟨g9,0,none⟩) (s.length+1) q9)) w (w9.setCell ⟨b0+1+1+1+1,0,none⟩ (.slice (some ⟨g9,0,none⟩) (s.length+1) q9)):=by
      have hs7:=B7.out.size;refine ⟨hbz.os.trans B7.out.os,hbz.tape.trans B7.out.tape,hbz.output.trans B7.out.output,Nat.le_trans hs7 hbz.size,λg hg hm=>?_,λg hg=>?_⟩
      . refine (Below.heap_setCell _ _ _ _ (λe1=>hm (Or.inl e1))).trans ((hk9 g (by omega) (λe1=>hm (Or.inr e1.symm))).trans (B7.out.block g hg))
      . rcases hg with hg | hg
        . exact Or.inl (Or.inl hg)
        . simp [Value.ownBlock] at hg
          subst hg
          rcases hg9 with h9 | h9
          . exact Or.inl (Or.inr h9)
          . exact Or.inr (by omega)
     go_end0;exact ⟨rfl,_,by rw [HS2.out];exact HIZ,HMZ⟩
  | _=>exact hp.elim
end
section
open Go.Proofs.Tryz
section
variable (d b0 tb:Nat) (pv:Value) (pe:Option Addr) (ne ce:Nat) (pf:Option Addr) (nf cf:Nat) (fs:ByteArray) (fn:Int) (pc:Option Addr) (nc cc:Nat) (ms:List Md) (m:Md)
def CallI (w:World) (M:Nat->Prop) (s:List Pb):Prop :=
 ∃ v,M=MvB b0 v/\CbI d b0 pv #[.string m.name,.slice pe ne ce,.slice pf nf cf] #[.string fs,.int .i64 fn,.slice pc nc cc] ms m w v s/\Blk w tb #[(.func (.func 145) #[] #[.pointer (some ⟨b0,0,none⟩),.pointer (some ⟨b0+1,0,none⟩),.pointer (some ⟨b0+1+1,0,none⟩),.pointer (some ⟨b0+1+1+1+1,0,none⟩)])] 194/\b0+1+1+1+1<tb
def stK (s:List Pb) (x:Ex):List Pb:=if x.kind=8 then stC ms m fs fn s x else s
theorem tells_call (hok:okS m.name/\okS fs/\okI fn) (w:World) (s:List Pb) (dx:Nat) (cs:List Value) (x:Ex) (v:Value) (h:CbI d b0 pv #[.string m.name,.slice pe ne ce,.slice pf nf cf] #[.string fs,.int .i64 fn,.slice pc nc cc] ms m w v s) (hb:Blk w tb #[(.func (.func 145) #[] #[.pointer (some ⟨b0,0,none⟩),.pointer (some ⟨b0+1,0,none⟩),.pointer (some ⟨b0+1+1,0,none⟩),.pointer (some ⟨b0+1+1+1+1,0,none⟩)])] 194) (hlt:b0+1+1+1+1<tb) (hx:HEx w (λg=>g<b0) dx cs x) (hl:s.length+1<=16777216) :
 Calls prog 172 #[.agg cs.toArray,.pointer (some ⟨tb,0,none⟩)] w λe w'=>e=.returned (.tuple #[])/\∃ M',CallI d b0 tb pv pe ne ce pf nf cf fs fn pc nc cc ms m w' M' (stK fs fn ms m s x)/\Mv (MvB b0 v) M' w w':=by
 have hxA:HEx w All dx cs x:=hx.mono sqS (λ_ _=>trivial)
 cases dx with
 | zero=>exact hx.elim
 | succ dx =>
 have HXX:Hid (∀ w',Bz w w'->HEx w' All (dx+1) cs x):=λw' hw=>hxA.mono (sqO hw) sqj;obtain ⟨kx,nx,tx,mx,ks,cl⟩:=x;obtain ⟨kv,cv,rfl,-,-,-,-,⟨p1,q1,rfl,-⟩,⟨p2,q2,rfl,-⟩⟩:=hxA;have HSa:Hid (kx=8->stK fs fn ms m s (.mk kx nx tx mx ks cl)=stC ms m fs fn s (.mk kx nx tx mx ks cl)):=λh=>if_pos h;have HSb:Hid (¬ kx=8->stK fs fn ms m s (.mk kx nx tx mx ks cl)=s):=λh=>if_neg h;simp only [Ex.kind,Ex.n,Ex.text,Ex.mod,Ex.kids,Ex.clauses] at *;clear hx;have hl':s.length+1<=16777216:=hl;clear hl;generalize hX:Ex.mk kx nx tx mx ks cl=X at *;generalize ks.length=nk at *;generalize cl.length=nd at *;obtain ⟨W1,hW1⟩:∃ W1,W1=w.alloc (.cells #[.int .i64 kx,.int .i64 nx,.string tx,.string mx,.slice p1 nk q1,.slice p2 nd q2] 74):=⟨_,rfl⟩;have B1:Hid (Bz w W1):=(by show Below _ _ _;rw [hW1];exact (sqN _ _));have I1:=hid (h.next B1.out);have T1:=hid (hb.next B1.out);have HW1:=hid hW1;have HOK:=hid hok;have HLT:=hid hlt;have t0:W1.cell? ⟨tb,0,none⟩=some (.func (.func 145) #[] #[.pointer (some ⟨b0,0,none⟩),.pointer (some ⟨b0+1,0,none⟩),.pointer (some ⟨b0+1+1,0,none⟩),.pointer (some ⟨b0+1+1+1+1,0,none⟩)]):=T1.out.cell 0 _ rfl
 have HOW:Hid (∀ g,v.ownBlock=some g->w.heap[tb]?≠w.heap[g]?):=λg hg e=>by
  obtain ⟨⟨cells,g1,g2⟩,g3⟩:=h.own
  rcases g1.2 with ⟨rfl,_⟩ | ⟨g2',cap2,cur2,rfl,_,hh2,_⟩
  . simp [Value.ownBlock] at hg
  . simp [Value.ownBlock] at hg
    subst hg;rw [hh2,show w.heap[tb]?=_ from hb] at e;simp at e
 have HNT:Hid (¬ MvB b0 v tb):=λe=>by
  rcases e with e | e
  . omega
  . exact HOW.out tb e rfl
 have HHB:=hid hb;rw [hW1] at t0;clear h hb hX hW1;by_cases hk:kx=8
 . subst hk
   have hkb:((8:Int) == 8)=true:=(by simp);have HS2:=hid (HSa.out rfl);go_enter func172,ntmps172;go_wp2_with fail;rw [<-HW1.out];refine (cb_any d (dx+1) b0 pv pe ne ce pf nf cf fs fn pc nc cc ms m W1 v s _ X I1.out (HXX.out _ B1.out) HOK.out hl').mono ?_;rintro e w2 ⟨rfl,v2,i2,m2⟩;have HR:Hid (∃ M',CallI d b0 tb pv pe ne ce pf nf cf fs fn pc nc cc ms m w2 M' (stK fs fn ms m s X)/\Mv (MvB b0 v) M' w w2):=⟨_,⟨v2,rfl,by rw [HS2.out];exact i2,m2.blk T1.out HNT.out,HLT.out⟩,(Mv.of_below B1.out).trans m2⟩;clear i2 m2 t0;go_wp2;go_end0;exact ⟨rfl,HR.out⟩
 . have hkb:(kx == 8)=false:=by simpa using hk
   have HS2:=hid (HSb.out hk);clear t0;go_enter func172,ntmps172;go_wp2_with fail;rw [<-HW1.out];go_end0;exact ⟨rfl,_,⟨v,rfl,by rw [HS2.out];exact I1.out,T1.out,HLT.out⟩,Mv.of_below B1.out⟩
theorem tells (hok:okS m.name/\okS fs/\okI fn):Tells 172 tb (CallI d b0 tb pv pe ne ce pf nf cf fs fn pc nc cc ms m) (λs _=>s.length+1<=16777216) (stK fs fn ms m) (λg=>g<b0) where
 off:=by
  rintro w M s ⟨v,rfl,h,hb,hlt⟩;refine ⟨λg hg e=>?_,λg e=>?_,λg hg=>?_⟩
  . have hg':g<b0:=hg
    rcases e with e | e
    . omega
    . obtain ⟨⟨cells,g1,g2⟩,g3⟩:=h.own
      have:=(owns_own_lt g1 e).1;omega
  . rcases e with e | e
    . have:=h.l.lt;omega
    . obtain ⟨⟨cells,g1,g2⟩,g3⟩:=h.own
      exact (owns_own_lt g1 e).2
  . have hg':g<b0:=hg
    have:=h.p.lt;omega
 next:=by
  rintro w w' M s ⟨v,rfl,h,hb,hlt⟩ hbel;exact ⟨v,rfl,h.next hbel,hb.next hbel,hlt⟩
 call:=by
  rintro w M s dx cs x ⟨v,rfl,h,hb,hlt⟩ hx hl;exact tells_call d b0 tb pv pe ne ce pf nf cf fs fn pc nc cc ms m hok w s dx cs x v h hb hlt hx hl
end
end
end Go.Proofs.YtbdhpganbbandaaGreatDoor
