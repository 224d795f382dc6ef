/-
  CheckSpecE CheckSpecF
-/
import Derived.Test.YtefpgpbbgclemaaGreatDoorP34
import Derived.Test.YtefpgpbbgclemaaGreatDoorP27
set_option maxHeartbeats 16000000
set_option linter.unusedVariables false
set_option maxRecDepth 100000
namespace Go.Proofs.YtefpgpbbgclemaaGreatDoor
open Go.ChangeShapes Go.WideShapes Go.ChangeAt Go.RowKit
def lsL (b:Bool):List ByteArray:=if b then [cLoose] else []
def funC (ms:List Md) (m:Md) (d:Nat) (f:Fn'):List ByteArray:=(bodiesOf f.clauses).foldl (fun o b=>onceS o (codesX ms m d b)) (lsL (looseF d f))
def foldC (ms:List Md) (m:Md) (d:Nat) (l:List Ex) (o:List ByteArray):List ByteArray:=l.foldl (fun o b=>onceS o (codesX ms m d b)) o
theorem insC_ne (l:List ByteArray) (s:ByteArray):insS l s≠[]:=by
  cases l with
  | nil=>simp [insS]
  | cons x l =>
    unfold insS
    split
    · simp
    · split <;> simp
theorem sortC_ne {l:List ByteArray} (h:l≠[]):sortS l≠[]:=by
  unfold sortS
  have:∀ (l acc:List ByteArray),acc≠[]→l.foldl insS acc≠[]:=fun l=>by
    induction l with
    | nil=>exact fun acc h=>h
    | cons x l ih=>exact fun acc _=>ih _ (insC_ne acc x)
  cases l with
  | nil=>exact absurd rfl h
  | cons x l=>exact this l _ (insC_ne [] x)
theorem sortC_pos (d:Nat) (c:Cl):decide (0<(sortS (cfV d c)).length)=looseB d c:=by
  have e:looseB d c = !(cfV d c).isEmpty:=rfl
  rw [e]
  cases h:cfV d c with
  | nil=>rfl
  | cons x l =>
    have:=sortC_ne (l:=x :: l) (by simp)
    simp only [List.isEmpty_cons,Bool.not_false,decide_eq_true_eq]
    exact List.length_pos_iff.2 this
theorem foldCC_len (ms:List Md) (m:Md) (d:Nat):∀ (l:List Ex) (o:List ByteArray),(l.foldl (fun o b=>onceS o (codesX ms m d b)) o).length≤o.length+(l.map fun y=>1+wtEx d y).sum
  | [],o=>by simp
  | y :: l,o=>by
    have h1:=foldCC_len ms m d l (onceS o (codesX ms m d y))
    have h2:=onceS_length o (codesX ms m d y)
    have h3:=codesX_len ms m d y
    simp only [List.foldl_cons,List.map_cons,List.sum_cons]
    omega
theorem foldCC_mem (ms:List Md) (m:Md) (d:Nat):∀ (l:List Ex) (o:List ByteArray),∀ c ∈ l.foldl (fun o b=>onceS o (codesX ms m d b)) o,c ∈ o∨c=cCall∨c=cFar
  | [],o=>fun c h=>Or.inl h
  | y :: l,o=>fun c h=>by
    rcases foldCC_mem ms m d l _ c h with h | h
    · rcases onceS_mem _ _ c h with h | h
      · exact Or.inl h
      · exact Or.inr (codesX_mem ms m d y c h)
    · exact Or.inr h
theorem okS_loose {b:Bool} {c:ByteArray} (h:c ∈ lsL b):okS c:=by
  cases b with
  | true=>simp [lsL] at h;subst h;unfold okS;decide
  | false=>simp [lsL] at h
theorem sumB (d:Nat) (cl:List Cl):((bodiesOf cl).map fun y=>1+wtEx d y).sum≤wtS (wtCl (wtEx d)) cl:=by
  have h2:∀ l:List Ex,(l.map fun y=>1+wtEx d y).sum=wtS (wtEx d) l:=fun l=>by
    unfold wtS
    induction l with
    | nil=>rfl
    | cons y l ih=>simp only [List.map_cons,List.sum_cons,List.length_cons,ih];omega
  rw [h2]
  induction cl with
  | nil=>simp [bodiesOf,wtS]
  | cons c cl ih =>
    have e:bodiesOf (c :: cl)=c.2 ++ bodiesOf cl:=by simp [bodiesOf]
    rw [e]
    simp only [wtS,List.length_append,List.map_append,List.sum_append,List.length_cons,List.map_cons,List.sum_cons,wtCl] at ih ⊢
    omega
theorem OwnS.slice {w:World} {B:Nat} {v:Value} {l:List ByteArray} (h:OwnS w B v l):∃ p q,v=.slice p l.length q:=by
  obtain ⟨p,q,hv,_⟩:=owns_slice h.1
  exact ⟨p,q,hv⟩
theorem l05Fun_any (d:Nat) (w:World) (v:Value) (ms:List Md) (mc:List Value) (m:Md) (cs:List Value) (f:Fn') (h:Rows w All 3 (HMd w All d) v ms) (hm:HMd w All d mc m) (hf:HFn w All d cs f) (hw:wtFn d f≤1048576) :
    Calls Tryz.prog 53 #[v,.agg mc.toArray,.agg cs.toArray] w fun e w'=>∃ u,e=.returned u∧OwnS w' w.heap.size u (funC ms m d f)∧Below w.heap.size w w':=by
  have HMS:Hid (∀ w',Below w.heap.size w w'→Rows w' All 3 (HMd w' All d) v ms):=fun w' hw=>h.mono (SameOn.of_below hw) (fun _ h=>h) (fun _ _ _ h=>h.mono (SameOn.of_below hw) (fun _ h=>h))
  have HMM:Hid (∀ w',Below w.heap.size w w'→HMd w' All d mc m):=fun w' hw=>hm.mono (SameOn.of_below hw) (fun _ h=>h)
  obtain ⟨sv,pe,ne,ce,pf,nf,cf,rfl⟩:=hm.shape
  obtain ⟨cv,rfl,-,-,p1,q1,rfl,hcl,hcm,hx⟩:=hf
  obtain ⟨p,cap,rfl,-⟩:=h
  have HFC:Hid (funC ms m d f=(bodiesOf f.clauses).foldl (fun o b=>onceS o (codesX ms m d b)) (lsL (f.clauses.any (looseB d)))):=rfl
  have HWC:Hid (wtS (wtCl (wtEx d)) f.clauses≤1048576):=by show _≤_;unfold wtFn at hw;omega
  have HX:Hid (f.clauses≠[]→∃ g off,p1=some ⟨g,off,none⟩∧All g∧g<w.heap.size∧∀ i x,f.clauses[i]?=some x→∃ cs,cs.length=2∧(∀ j,j<2→w.cell? ⟨g,off+i * 2+j,none⟩=cs[j]?)∧HCl w All (HEx w All d) cs x):=hx
  have hnb:f.clauses.length≤9223372036854775807:=by unfold maxLen at hcm;omega
  obtain ⟨i0,hi,hz0,hz1,hz2⟩:=info_parts info_str
  generalize f.clauses=cl at *
  generalize ms.length=n at *
  generalize hnc:cl.length=nc at *
  have HNC:Hid (cl.length=nc):=hnc
  obtain ⟨W2,hW2⟩:∃ W2,W2=(w.alloc (.cells #[.string sv,.slice pe ne ce,.slice pf nf cf] 47)).alloc (.cells #[.string f.name,.int .i64 f.arity,.slice p1 nc q1] 91):=⟨_,rfl⟩
  have bM:Hid (Blk W2 w.heap.size #[.string sv,.slice pe ne ce,.slice pf nf cf] 47):=by show Blk _ _ _ _;rw [hW2];exact Blk.new.alloc
  have bF:Hid (Blk W2 (w.heap.size+1) #[.string f.name,.int .i64 f.arity,.slice p1 nc q1] 91):=by
    show Blk _ _ _ _
    rw [hW2]
    have:=Blk.new (w:=w.alloc (.cells #[.string sv,.slice pe ne ce,.slice pf nf cf] 47)) (cs:=#[.string f.name,.int .i64 f.arity,.slice p1 nc q1]) (t:=91)
    simp only [alloc_hs] at this
    exact this
  have B2:Hid (Below w.heap.size w W2):=by show Below _ _ _;rw [hW2];exact ((Below.refl _ _).alloc (Nat.le_refl _) _).alloc (by simp only [alloc_hs];omega) _
  have S2:Hid (W2.heap.size=w.heap.size+1+1):=by show _=_;rw [hW2];simp only [alloc_hs]
  have HW2:Hid (W2=(w.alloc (.cells #[.string sv,.slice pe ne ce,.slice pf nf cf] 47)).alloc (.cells #[.string f.name,.int .i64 f.arity,.slice p1 nc q1] 91)):=hW2
  have O3:Hid (OwnS (W2.alloc (.cells #[] 9)) (w.heap.size+1+1) (.slice (some ⟨w.heap.size+1+1,0,none⟩) 0 0) []):=by
    have:=OwnS.fresh (w:=W2)
    rw [S2.out] at this
    exact this
  have B3:Hid (Below (w.heap.size+1+1) W2 (W2.alloc (.cells #[] 9))):=(Below.refl _ _).alloc (by rw [S2.out];exact Nat.le_refl _) _
  clear hm hw hx hnc hW2
  go_enter Tryz.func53,Tryz.ntmps53
  go_wp2_with fail
  rw [← HW2.out]
  go_loopw [7,8] (fun ov iv wr=>∃ k:Nat,k≤nc∧iv=.int .i64 k∧Hid (OwnS wr (w.heap.size+1+1) ov (lsL ((cl.take k).any (looseB d))))∧Hid (Below (w.heap.size+1+1) W2 wr)) (fun _ iv _=>nc - (intOf iv).toNat)
  case atStart=>exact ⟨0,Nat.zero_le _,rfl,by show OwnS _ _ _ _;simpa [lsL] using O3.out,B3⟩
  case round =>
    obtain ⟨k,hk,rfl,ho,hb⟩:=hrel
    have HB0:Hid (Below w.heap.size w wr):=B2.out.trans (hb.out.mono (by omega))
    have bFr:=bF.out.below hb.out (by omega)
    have x2:=bFr.cell 2 _ rfl
    have hsw:w.heap.size+1+1≤wr.heap.size:=by have:=hb.out.size;rw [S2.out] at this;exact this
    clear bFr
    by_cases hlt:k<nc
    · obtain ⟨c,hck⟩:∃ c,cl[k]?=some c:=⟨cl[k]'(by rw [HNC.out];exact hlt),List.getElem?_eq_getElem _⟩
      obtain ⟨g,off,rfl,-,hgl,hat⟩:=HX.out (by intro h;rw [h] at hck;simp at hck)
      obtain ⟨cs,hcsl,hcs,hc⟩:=hat k c hck
      have HCC:Hid (∀ w',Below w.heap.size w w'→HCl w' All (HEx w' All d) cs c):=fun w' hw=>hc.mono (SameOn.of_below hw) (fun _ h=>h) (fun _ _=>HEx.mono (SameOn.of_below hw) (fun _ h=>h))
      obtain ⟨pv,bv,rfl,-,-⟩:=hc
      have a0:=hcs 0 (by omega)
      have a1:=hcs 1 (by omega)
      rw [← HB0.out.cell (p:=⟨g,_,none⟩) hgl] at a0 a1
      simp at a0 a1
      have hki:(k:Int)<(nc:Int):=by omega
      have hk0:(0:Int)≤(k:Int):=by omega
      have HWK:Hid (wtCl (wtEx d) c≤1048576):=by
        have h1:=HWC.out
        have h2:=sum_take_succ (wtCl (wtEx d)) cl k c hck
        have h3:=sum_take_le (wtCl (wtEx d)) cl (k+1)
        unfold wtS at h1
        show _≤_
        omega
      have HT:Hid ((cl.take (k+1)).any (looseB d)=((cl.take k).any (looseB d) || looseB d c)):=by show _=_;rw [List.take_add_one,hck];simp
      obtain ⟨pu,qu,hu⟩:=ho.out.slice
      clear hcs hat hcsl
      cases hbt:(cl.take k).any (looseB d) with
      | true =>
        rw [hbt] at ho hu HT
        have HO1:Hid (OwnS wr (w.heap.size+1+1) u7 (lsL ((cl.take (k+1)).any (looseB d)))):=by show OwnS _ _ _ _;rw [HT.out];simpa using ho.out
        have hl:(lsL true).length=1:=rfl
        rw [hl] at hu
        subst hu
        clear ho HT hbt
        go_wp2_with fail
        exact ⟨⟨k+1,by omega,by go_num,HO1,hb⟩,by simp [intOf];omega⟩
      | false =>
        rw [hbt,Bool.false_or] at HT
        rw [hbt] at ho hu
        have hl:(lsL false).length=0:=rfl
        rw [hl] at hu
        subst hu
        clear hbt
        go_wp2_with fail
        refine (specClauseFree_any _ d _ c (HCC.out _ HB0.out) HWK.out).mono ?_
        rintro e w1 ⟨u1,rfl,o1,hb1⟩
        have HSP:=sortC_pos d c
        obtain ⟨pz,qz,rfl⟩:=o1.slice
        have K1:Hid (Below wr.heap.size wr w1):=hb1
        have HO1:Hid (OwnS w1 (w.heap.size+1+1) (.slice pu 0 qu) []):=ho.out.next hb1
        have HB1:Hid (Below (w.heap.size+1+1) W2 w1):=hb.out.trans (hb1.mono hsw)
        have s1:w.heap.size+1+1≤w1.heap.size:=Nat.le_trans hsw hb1.size
        clear o1 hb1 a0 a1 x2
        generalize (sortS (cfV d c)).length=nz at *
        cases hz:looseB d c with
        | false =>
          rw [hz] at HSP HT
          have hzz:¬ (0:Int)<(nz:Int):=by have:=of_decide_eq_false HSP;omega
          have HO2:Hid (OwnS w1 (w.heap.size+1+1) (.slice pu 0 qu) (lsL ((cl.take (k+1)).any (looseB d)))):=by show OwnS _ _ _ _;rw [HT.out];exact HO1.out
          clear HSP HT
          go_wp2_with fail
          exact ⟨⟨k+1,by omega,by go_num,HO2,HB1⟩,by simp [intOf];omega⟩
        | true =>
          rw [hz] at HSP HT
          have hzz:(0:Int)<(nz:Int):=by have:=of_decide_eq_true HSP;omega
          have HO2:Hid (OwnS (w1.alloc (.cells #[.string ⟨#[108,111,111,115,101]⟩] 9)) (w.heap.size+1+1) (.slice pu 0 qu) []):=HO1.out.next ((Below.refl _ _).alloc (Nat.le_refl _) _)
          clear HSP
          go_wp2_with (at_builtin;refine wpList_append_own _ rfl _ _ 103 rfl (w.heap.size+1+1) 9 i0 (.string ⟨#[]⟩) 1 16 Tryz.underlying103 hi hz0 hz1 hz2 rfl (by decide) (.slice pu 0 qu) 0 [] rfl HO2.out.1 ⟨w1.heap.size,0,none⟩ 1 1 (strs [⟨#[108,111,111,115,101]⟩]) rfl (by simp [strs]) (one_str w1 _ _ rfl) (strs_oneCell _) (by unfold maxLen;omega) (by omega) (by rw [alloc_hs];omega) ?_;intro v7 w7 ho7 hg7 _)
          have HO7:Hid (OwnS w7 (w.heap.size+1+1) v7 (lsL ((cl.take (k+1)).any (looseB d)))):=by
            show OwnS _ _ _ _
            rw [HT.out]
            exact OwnS.of (l:=[]) (m:=[⟨#[108,111,111,115,101]⟩]) ho7 (by simp) (by simp [strs]) (Nat.le_trans (by rw [alloc_hs];omega) hg7.size)
          have HB7:Hid (Below (w.heap.size+1+1) W2 w7):=(HB1.out.alloc s1 _).trans (owns_below HO2.out.1 hg7 (by rw [alloc_hs];omega))
          clear ho7 hg7
          go_wp2_with fail
          exact ⟨⟨k+1,by omega,by go_num,HO7,HB7⟩,by simp [intOf];omega⟩
    · have HO1:Hid (OwnS wr (w.heap.size+1+1) u7 (lsL (cl.any (looseB d)))):=by
        have:=ho.out
        rwa [List.take_of_length_le (by rw [HNC.out];omega)] at this
      generalize hL0:lsL (cl.any (looseB d))=L0 at *
      have OL0:Hid (∀ c ∈ L0,okS c):=fun c hc=>okS_loose (by rw [hL0];exact hc)
      have HL0:Hid (lsL (cl.any (looseB d))=L0):=hL0
      have LL0:L0.length≤1:=by rw [← hL0];unfold lsL;split <;> simp
      clear ho hL0
      go_wp2_with fail
      clear x2 HB0 hsw hlt
      go_loopw [7,9] (fun ov iv wx=>∃ k:Nat,k≤nc∧iv=.int .i64 k∧Hid (OwnS wx (w.heap.size+1+1) ov (foldC ms m d (bodiesOf (cl.take k)) L0))∧Hid (Below (w.heap.size+1+1) W2 wx)) (fun _ iv _=>nc - (intOf iv).toNat)
      case atStart=>exact ⟨0,Nat.zero_le _,rfl,by show OwnS _ _ _ _;simpa [bodiesOf,foldC] using HO1.out,hb⟩
      case round =>
        obtain ⟨a,ha,rfl,ho,hbx⟩:=hrel
        clear HO1 hb
        have HB0:Hid (Below w.heap.size w wr):=B2.out.trans (hbx.out.mono (by omega))
        have bFr:=bF.out.below hbx.out (by omega)
        have x2:=bFr.cell 2 _ rfl
        have hsw:w.heap.size+1+1≤wr.heap.size:=by have:=hbx.out.size;rw [S2.out] at this;exact this
        clear bFr
        by_cases hlt:a<nc
        · obtain ⟨c,hck⟩:∃ c,cl[a]?=some c:=⟨cl[a]'(by rw [HNC.out];exact hlt),List.getElem?_eq_getElem _⟩
          obtain ⟨g,off,rfl,-,hgl,hat⟩:=HX.out (by intro h;rw [h] at hck;simp at hck)
          obtain ⟨cs,hcsl,hcs,pv,bv,rfl,rp,rb⟩:=hat a c hck
          obtain ⟨pp,qp,rfl,-⟩:=rp
          obtain ⟨pb,qb,rfl,hclb,hcmb,hxb⟩:=rb
          have HXB:Hid (c.2≠[]→∃ g off,pb=some ⟨g,off,none⟩∧All g∧g<w.heap.size∧∀ i x,c.2[i]?=some x→∃ cs,cs.length=6∧(∀ j,j<6→w.cell? ⟨g,off+i * 6+j,none⟩=cs[j]?)∧HEx w All d cs x):=hxb
          have hnbb:c.2.length≤9223372036854775807:=by unfold maxLen at hcmb;omega
          have HA0:Hid (w.cell? ⟨g,off+a * 2,none⟩=some (.slice pp c.1.length qp)∧w.cell? ⟨g,off+a * 2+1,none⟩=some (.slice pb c.2.length qb)):=⟨by simpa using hcs 0 (by omega),by simpa using hcs 1 (by omega)⟩
          have HGL:Hid (g<w.heap.size):=hgl
          have hki:(a:Int)<(nc:Int):=by omega
          have hk0:(0:Int)≤(a:Int):=by omega
          have HBO:Hid (bodiesOf (cl.take (a+1))=bodiesOf (cl.take a) ++ c.2):=bodiesOf_snoc cl a c hck
          have HSB:Hid ((((bodiesOf (cl.take a) ++ c.2).map fun y=>1+wtEx d y).sum)≤1048576):=by
            have h1:=sumB d cl
            have h2:=HWC.out
            have h3:((bodiesOf (cl.take (a+1))).map fun y=>1+wtEx d y).sum≤((bodiesOf cl).map fun y=>1+wtEx d y).sum:=by
              have e:bodiesOf cl=bodiesOf (cl.take (a+1)) ++ bodiesOf (cl.drop (a+1)):=by
                unfold bodiesOf
                rw [← List.flatMap_append,List.take_append_drop]
              rw [e,List.map_append,List.sum_append];omega
            rw [HBO.out] at h3
            show _≤_
            omega
          generalize hnbo:c.2.length=nb at *
          have HNB:Hid (c.2.length=nb):=hnbo
          clear hcs hat hcsl hxb hck hnbo hclb hcmb x2
          have bFr:=bF.out.below hbx.out (by omega)
          have x2:=bFr.cell 2 _ rfl
          clear bFr
          go_wp2_with fail
          clear x2
          go_loopw [7,10] (fun ov iv wx=>∃ j:Nat,j≤nb∧iv=.int .i64 j∧Hid (OwnS wx (w.heap.size+1+1) ov (foldC ms m d (bodiesOf (cl.take a) ++ c.2.take j) L0))∧Hid (Below (w.heap.size+1+1) W2 wx)) (fun _ iv _=>nb - (intOf iv).toNat)
          case atStart=>exact ⟨0,Nat.zero_le _,rfl,by show OwnS _ _ _ _;simpa using ho.out,hbx⟩
          case round =>
            obtain ⟨j,hj,rfl,ho2,hb2⟩:=hrel
            clear ho hbx HB0 hsw
            have HB0:Hid (Below w.heap.size w wr):=B2.out.trans (hb2.out.mono (by omega))
            have bFr:=bF.out.below hb2.out (by omega)
            have bMr:=bM.out.below hb2.out (by omega)
            have x2:=bFr.cell 2 _ rfl
            have m0:=bMr.cell 0 _ rfl
            have m1:=bMr.cell 1 _ rfl
            have m2:=bMr.cell 2 _ rfl
            have a0:=(HB0.out.cell (p:=⟨g,off+a * 2,none⟩) HGL.out).trans HA0.out.1
            have a1:=(HB0.out.cell (p:=⟨g,off+a * 2+1,none⟩) HGL.out).trans HA0.out.2
            have hsw:w.heap.size+1+1≤wr.heap.size:=by have:=hb2.out.size;rw [S2.out] at this;exact this
            clear bFr bMr
            by_cases hlj:j<nb
            · obtain ⟨y,hyk⟩:∃ y,c.2[j]?=some y:=⟨c.2[j]'(by rw [HNB.out];exact hlj),List.getElem?_eq_getElem _⟩
              obtain ⟨g5,o5,rfl,-,hgl5,hat5⟩:=HXB.out (by intro h;rw [h] at hyk;simp at hyk)
              obtain ⟨cs5,hcsl5,hcs5,hy⟩:=hat5 j y hyk
              have HY:Hid (∀ w',Below w.heap.size w w'→HEx w' All d cs5 y):=fun w' hw=>hy.mono (SameOn.of_below hw) (fun _ h=>h)
              obtain ⟨z0,z1,z2,z3,z4,z5,rfl⟩:=len6 hcsl5
              have b0:=hcs5 0 (by omega)
              have b1:=hcs5 1 (by omega)
              have b2:=hcs5 2 (by omega)
              have b3:=hcs5 3 (by omega)
              have b4:=hcs5 4 (by omega)
              have b5:=hcs5 5 (by omega)
              rw [← HB0.out.cell (p:=⟨g5,_,none⟩) hgl5] at b0 b1 b2 b3 b4 b5
              simp at b0 b1 b2 b3 b4 b5
              have hji:(j:Int)<(nb:Int):=by omega
              have hj0:(0:Int)≤(j:Int):=by omega
              have HJ:Hid (foldC ms m d (bodiesOf (cl.take a) ++ c.2.take (j+1)) L0=onceS (foldC ms m d (bodiesOf (cl.take a) ++ c.2.take j) L0) (codesX ms m d y)):=by
                show _=_
                rw [List.take_add_one,hyk]
                simp [foldC,List.foldl_append]
              have HLK:Hid ((foldC ms m d (bodiesOf (cl.take a) ++ c.2.take j) L0).length+(codesX ms m d y).length≤8388608):=by
                have h1:=foldCC_len ms m d (bodiesOf (cl.take a) ++ c.2.take j) L0
                have h2:=codesX_len ms m d y
                have h3:=HSB.out
                have h4:((bodiesOf (cl.take a) ++ c.2.take (j+1)).map fun y=>1+wtEx d y).sum≤((bodiesOf (cl.take a) ++ c.2).map fun y=>1+wtEx d y).sum:=by
                  rw [List.map_append,List.map_append,List.sum_append,List.sum_append]
                  have:=sum_take_le (fun y=>1+wtEx d y) c.2 (j+1)
                  omega
                rw [List.map_append,List.sum_append,sum_take_succ (fun y=>1+wtEx d y) c.2 j y hyk] at h4
                have h5:(foldC ms m d (bodiesOf (cl.take a) ++ c.2.take j) L0).length≤L0.length+((bodiesOf (cl.take a) ++ c.2.take j).map fun y=>1+wtEx d y).sum:=h1
                rw [List.map_append,List.sum_append] at h5
                show _≤_
                omega
              have HWY:Hid (wtEx d y≤1048576):=by
                have h3:=HSB.out
                have h4:=sum_take_le (fun y=>1+wtEx d y) c.2 (j+1)
                rw [sum_take_succ (fun y=>1+wtEx d y) c.2 j y hyk] at h4
                rw [List.map_append,List.sum_append] at h3
                show _≤_
                omega
              have OJ:Hid (∀ q ∈ foldC ms m d (bodiesOf (cl.take a) ++ c.2.take j) L0,okS q):=fun q hq=>by
                rcases foldCC_mem ms m d _ L0 q hq with h | h
                · exact OL0.out q h
                · exact okS_code h
              have CX:Hid (∀ w',Below wr.heap.size wr w'→Calls Tryz.prog 82 #[.slice p n cap,.agg #[.string sv,.slice pe ne ce,.slice pf nf cf],.agg #[z0,z1,z2,z3,z4,z5]] w' fun e w''=>∃ u,e=.returned u∧OwnS w'' w'.heap.size u (codesX ms m d y)∧Below w'.heap.size w' w''):=fun w' hw'=>by
                have hb9:Below w.heap.size w w':=HB0.out.trans (hw'.mono HB0.out.size)
                exact l05Exp_all d d w' _ ms _ m _ y (HMS.out w' hb9) (HMM.out w' hb9) (HY.out w' hb9) HWY.out
              generalize hJ0:foldC ms m d (bodiesOf (cl.take a) ++ c.2.take j) L0=J at *
              generalize hY0:codesX ms m d y=Y at *
              have OY:Hid (∀ c ∈ Y,okS c):=fun c hc=>okS_code (codesX_mem ms m d y c (by rw [hY0];exact hc))
              clear hcs5 hcsl5 hy hJ0 hY0 hat5
              go_wp2_with fail
              go_region_law
                (first
                  | (go_simp;go_at_call 82;refine (CX.out _ (by exact (Below.refl _ _).drew)).mono ?_;rintro e w6 ⟨u6,rfl,o6,hb6⟩;have K6:Hid (Below wr.heap.size wr w6):=⟨hb6.os,hb6.tape,hb6.output,hb6.size,hb6.block⟩;have R6:Hid (StrR w6 u6 Y):=o6.strR OY.out;have V6:Hid (StrV w6 u7 J):=(ho2.out.next K6.out).strV OJ.out;clear hb6 o6;dsimp only)
                  | (go_simp;go_at_call 81;refine (once_any _ _ _ J Y V6.out R6.out HLK.out).mono ?_;rintro e w9 ⟨u9,rfl,o9,hb9⟩;have K9:Hid (Below w6.heap.size w6 w9):=hb9;have O9:Hid (OwnS w9 w6.heap.size u9 (onceS J Y)):=o9;clear o9 hb9;dsimp only))
              all_goals
                have HO9:Hid (OwnS w9 (w.heap.size+1+1) u9 (foldC ms m d (bodiesOf (cl.take a) ++ c.2.take (j+1)) L0)):=by
                  show OwnS _ _ _ _
                  rw [HJ.out]
                  exact O9.out.base (Nat.le_trans hsw K6.out.size)
                have HB9:Hid (Below (w.heap.size+1+1) W2 w9):=(hb2.out.trans (K6.out.mono hsw)).trans (K9.out.mono (Nat.le_trans hsw K6.out.size))
                go_wp2_with fail
                exact ⟨⟨j+1,by omega,by go_num,HO9,HB9⟩,by simp [intOf];omega⟩
            · have HO9:Hid (OwnS wr (w.heap.size+1+1) u7 (foldC ms m d (bodiesOf (cl.take (a+1))) L0)):=by
                have:=ho2.out
                rw [show c.2.take j=c.2 from List.take_of_length_le (by rw [HNB.out];omega),← HBO.out] at this
                exact this
              clear ho2
              go_wp2_with fail
              exact ⟨⟨a+1,by omega,by go_num,HO9,hb2⟩,by simp [intOf];omega⟩
        · have HR:Hid (OwnS wr w.heap.size u7 (funC ms m d f)):=by
            have h1:=ho.out
            rw [List.take_of_length_le (by rw [HNC.out];omega)] at h1
            show OwnS _ _ _ _
            rw [HFC.out]
            exact h1.base (B':=w.heap.size) (by omega)
          go_wp2_with fail
          go_ret
          exact ⟨_,rfl,HR.out,HB0.out⟩
def exportP (m:Md) (r:Rf):List Pb:=if hasF m r.name r.arity then [] else [⟨m.name,r.name,r.arity,cExport⟩]
def funP (ms:List Md) (m:Md) (d:Nat) (f:Fn'):List Pb:=(funC ms m d f).map fun c=>⟨m.name,f.name,f.arity,c⟩
def modP (ms:List Md) (d:Nat) (m:Md):List Pb:=m.exports.flatMap (exportP m) ++ m.funs.flatMap (funP ms m d)
def checkP (d:Nat) (ms:List Md):List Pb:=if pgOk d ms then ms.flatMap (modP ms d) else []
abbrev OwnP (w:World) (B:Nat) (v:Value) (l:List Pb):Prop:=OwnG 102 4 HPb w B v l
theorem info_pb:(Tryz.prog.info? 102).map (fun i=>(i.zero,i.size,i.bytes))=some (some (.agg #[.string ⟨#[]⟩,.string ⟨#[]⟩,.int .i64 0,.string ⟨#[]⟩]),4,56):=by kernel_rfl
theorem flat_takeG {α β:Type} (f:α→List β) (l:List α) (k:Nat) (x:α) (h:l[k]?=some x):(l.take (k+1)).flatMap f=(l.take k).flatMap f ++ f x∧((l.take k).flatMap f).length+(f x).length≤(l.flatMap f).length:=by
  have e1:(l.take (k+1)).flatMap f=(l.take k).flatMap f ++ f x:=by rw [List.take_add_one,h];simp
  refine ⟨e1,?_⟩
  have e2:l.flatMap f=(l.take (k+1)).flatMap f ++ (l.drop (k+1)).flatMap f:=by rw [← List.flatMap_append,List.take_append_drop]
  rw [e2,e1,List.length_append,List.length_append];omega
theorem funC_len (ms:List Md) (m:Md) (d:Nat) (f:Fn'):(funC ms m d f).length≤1+wtFn d f:=by
  have h1:=foldCC_len ms m d (bodiesOf f.clauses) (lsL (looseF d f))
  have h2:=sumB d f.clauses
  have h3:(lsL (looseF d f)).length≤1:=by unfold lsL;split <;> simp
  have h4:(funC ms m d f).length≤(lsL (looseF d f)).length+((bodiesOf f.clauses).map fun y=>1+wtEx d y).sum:=h1
  unfold wtFn
  omega
theorem modP_len (ms:List Md) (d:Nat) (m:Md):(modP ms d m).length≤wtMd d m:=by
  have h1:=flat_lenG (exportP m) (fun _=>1) m.exports (fun r _=>by
    unfold exportP
    split
    · exact Nat.zero_le _
    · exact Nat.le_refl _)
  have h2:=flat_lenG (funP ms m d) (fun f=>1+wtFn d f) m.funs (fun f _=>by unfold funP;rw [List.length_map];exact funC_len ms m d f)
  have h3:∀ l:List Rf,(l.map fun _=>1).sum=l.length:=fun l=>by
    induction l with
    | nil=>rfl
    | cons y l ih=>simp only [List.map_cons,List.sum_cons,List.length_cons,ih];omega
  have h4:∀ l:List Fn',(l.map fun f=>1+wtFn d f).sum=l.length+(l.map (wtFn d)).sum:=fun l=>by
    induction l with
    | nil=>rfl
    | cons y l ih=>simp only [List.map_cons,List.sum_cons,List.length_cons,ih];omega
  rw [h3] at h1
  rw [h4] at h2
  simp only [modP,List.length_append,wtMd,wtS]
  omega
theorem allP_len (ms ms':List Md) (d:Nat):(ms'.flatMap (modP ms d)).length≤wtS (wtMd d) ms':=by
  have h1:=flat_lenG (modP ms d) (wtMd d) ms' (fun m _=>modP_len ms d m)
  unfold wtS
  omega
theorem funC_okS {ms:List Md} {m:Md} {d:Nat} {f:Fn'} {c:ByteArray} (h:c ∈ funC ms m d f):okS c:=by
  rcases foldCC_mem ms m d (bodiesOf f.clauses) (lsL (looseF d f)) c h with h | h
  · exact okS_loose h
  · exact okS_code h
theorem okS_export:okS cExport:=by unfold okS;decide
theorem specCheck_any (d:Nat) (w:World) (v:Value) (ms:List Md) (h:Rows w All 3 (HMd w All d) v ms) (hw:wtS (wtMd d) ms≤1048576) :
    Calls Tryz.prog 33 #[v] w fun e w'=>∃ u,e=.returned u∧OwnP w' w.heap.size u (checkP d ms)∧Below w.heap.size w w':=by
  have HMS:Hid (∀ w',Below w.heap.size w w'→Rows w' All 3 (HMd w' All d) v ms):=fun w' hw=>h.mono (SameOn.of_below hw) (fun _ h=>h) (fun _ _ _ h=>h.mono (SameOn.of_below hw) (fun _ h=>h))
  obtain ⟨p,cap,rfl,hcl,hcm,hx⟩:=h
  have HX:Hid (ms≠[]→∃ g off,p=some ⟨g,off,none⟩∧All g∧g<w.heap.size∧∀ i x,ms[i]?=some x→∃ cs,cs.length=3∧(∀ j,j<3→w.cell? ⟨g,off+i * 3+j,none⟩=cs[j]?)∧HMd w All d cs x):=hx
  have HLEN:Hid ((ms.flatMap (modP ms d)).length≤1048576):=Nat.le_trans (allP_len ms ms d) hw
  have HWM:Hid (∀ k m,ms[k]?=some m→wtMd d m≤1048576):=fun k m hk=>Nat.le_trans (by
    have h2:=sum_take_succ (wtMd d) ms k m hk
    have h3:=sum_take_le (wtMd d) ms (k+1)
    unfold wtS
    omega) hw
  have HV:Hid (checkP d ms=if pgOk d ms then ms.flatMap (modP ms d) else []):=rfl
  have hnb:ms.length≤9223372036854775807:=by unfold maxLen at hcm;omega
  generalize hn:ms.length=n at *
  have HN:Hid (ms.length=n):=hn
  have O1:Hid (OwnP (w.alloc (.cells #[] 102)) w.heap.size (.slice (some ⟨w.heap.size,0,none⟩) 0 0) []):=OwnG.fresh
  have B1:Hid (Below w.heap.size w (w.alloc (.cells #[] 102))):=(Below.refl _ _).alloc (Nat.le_refl _) _
  clear hx hn hw
  go_enter Tryz.func33,Tryz.ntmps33
  go_wp2_with fail
  refine (specProgramOk_any d _ _ ms (HMS.out _ B1.out)).mono ?_
  rintro e w1 ⟨rfl,hb⟩
  have O2:Hid (OwnP w1 w.heap.size (.slice (some ⟨w.heap.size,0,none⟩) 0 0) []):=O1.out.next hb
  have B2:Hid (Below w.heap.size w w1):=B1.out.trans (hb.mono B1.out.size)
  clear hb O1 B1
  cases hc:pgOk d ms with
  | false =>
    have HV2:Hid (checkP d ms = []):=by show _=_;rw [HV.out,hc];rfl
    go_wp2_with fail
    go_ret
    exact ⟨_,rfl,by rw [HV2.out];exact O2.out,B2.out⟩
  | true =>
    have HV2:Hid (checkP d ms=ms.flatMap (modP ms d)):=by show _=_;rw [HV.out,hc];rfl
    clear hc HV
    go_wp2_with fail
    go_loopw [3,4] (fun ov iv wx=>∃ a:Nat,a≤n∧iv=.int .i64 a∧Hid (OwnP wx w.heap.size ov ((ms.take a).flatMap (modP ms d)))∧Hid (Below w.heap.size w wx)) (fun _ iv _=>n - (intOf iv).toNat)
    case atStart=>exact ⟨0,Nat.zero_le _,rfl,by show OwnP _ _ _ _;simpa using O2.out,B2⟩
    case round =>
      obtain ⟨a,ha,rfl,ho,hb⟩:=hrel
      clear O2 B2
      by_cases hlt:a<n
      · obtain ⟨m,hmk⟩:∃ m,ms[a]?=some m:=⟨ms[a]'(by rw [HN.out];exact hlt),List.getElem?_eq_getElem _⟩
        obtain ⟨g,off,rfl,-,hgl,hat⟩:=HX.out (by intro h;rw [h] at hmk;simp at hmk)
        obtain ⟨cs,hcsl,hcs,hm⟩:=hat a m hmk
        have HMM:Hid (∀ w',Below w.heap.size w w'→HMd w' All d cs m):=fun w' hw=>hm.mono (SameOn.of_below hw) (fun _ h=>h)
        obtain ⟨ev,fv,rfl,hms,he,hf⟩:=hm
        obtain ⟨pe,ce,rfl,hce,hcme,hxe⟩:=he
        obtain ⟨pf,cf,rfl,hcf,hcmf,hxf⟩:=hf
        have HXE:Hid (m.exports≠[]→∃ g off,pe=some ⟨g,off,none⟩∧All g∧g<w.heap.size∧∀ i x,m.exports[i]?=some x→∃ cs,cs.length=2∧(∀ j,j<2→w.cell? ⟨g,off+i * 2+j,none⟩=cs[j]?)∧HRf cs x):=hxe
        have HXF:Hid (m.funs≠[]→∃ g off,pf=some ⟨g,off,none⟩∧All g∧g<w.heap.size∧∀ i x,m.funs[i]?=some x→∃ cs,cs.length=3∧(∀ j,j<3→w.cell? ⟨g,off+i * 3+j,none⟩=cs[j]?)∧HFn w All d cs x):=hxf
        have HWF:Hid (∀ k f,m.funs[k]?=some f→wtFn d f≤1048576):=fun k f hk=>Nat.le_trans (by
          have h2:=sum_take_succ (wtFn d) m.funs k f hk
          have h3:=sum_take_le (wtFn d) m.funs (k+1)
          unfold wtMd wtS
          omega) (HWM.out a m hmk)
        have a0:=hcs 0 (by omega)
        have a1:=hcs 1 (by omega)
        have a2:=hcs 2 (by omega)
        rw [← hb.out.cell (p:=⟨g,_,none⟩) hgl] at a0 a1 a2
        simp at a0 a1 a2
        have hki:(a:Int)<(n:Int):=by omega
        have hk0:(0:Int)≤(a:Int):=by omega
        have hne:m.exports.length≤9223372036854775807:=by unfold maxLen at hcme;omega
        have hnf:m.funs.length≤9223372036854775807:=by unfold maxLen at hcmf;omega
        obtain ⟨HJ,HL⟩:=flat_takeG (modP ms d) ms a m hmk
        have HJJ:Hid ((ms.take (a+1)).flatMap (modP ms d)=(ms.take a).flatMap (modP ms d) ++ (m.exports.flatMap (exportP m) ++ m.funs.flatMap (funP ms m d))):=HJ
        have HLL:Hid (((ms.take a).flatMap (modP ms d)).length+((m.exports.flatMap (exportP m)).length+(m.funs.flatMap (funP ms m d)).length)≤1048576):=by
          have h1:=HLEN.out
          have h2:(modP ms d m).length=(m.exports.flatMap (exportP m)).length+(m.funs.flatMap (funP ms m d)).length:=by simp only [modP,List.length_append]
          show _≤_
          omega
        generalize hA0:(ms.take a).flatMap (modP ms d)=A0 at *
        generalize hn1:m.exports.length=ne at *
        have HN1:Hid (m.exports.length=ne):=hn1
        generalize hn2:m.funs.length=nf at *
        have HN2:Hid (m.funs.length=nf):=hn2
        obtain ⟨W5,hW5⟩:∃ W5,W5=wr.alloc (.cells #[.string m.name,.slice pe ne ce,.slice pf nf cf] 47):=⟨_,rfl⟩
        obtain ⟨bm,hbm⟩:∃ bm,bm=wr.heap.size:=⟨_,rfl⟩
        have b5:Hid (Blk W5 bm #[.string m.name,.slice pe ne ce,.slice pf nf cf] 47):=by show Blk _ _ _ _;rw [hW5,hbm];exact Blk.new
        have HB5:Hid (Below w.heap.size w W5):=by show Below _ _ _;rw [hW5];exact hb.out.alloc hb.out.size _
        have HO5:Hid (OwnP W5 w.heap.size u3 A0):=by show OwnP _ _ _ _;rw [hW5];exact ho.out.next ((Below.refl _ _).alloc (Nat.le_refl _) _)
        have HW5:Hid (W5=wr.alloc (.cells #[.string m.name,.slice pe ne ce,.slice pf nf cf] 47)):=hW5
        have HBM:Hid (wr.heap.size=bm):=hbm.symm
        have HMSN:Hid (okS m.name):=hms
        clear hxe hxf hcs hcsl hat HJ HL hA0 ho hb hW5 hbm hms hn1 hn2 hmk
        go_wp2_with fail
        rw [← HW5.out,HBM.out]
        clear a0 a1 a2 HW5 HBM
        -- the exports
        go_loopw [3,6] (fun ov iv wx=>∃ k:Nat,k≤ne∧iv=.int .i64 k∧Hid (OwnP wx w.heap.size ov (A0 ++ (m.exports.take k).flatMap (exportP m)))∧Hid (Below w.heap.size w wx)∧Hid (Blk wx bm #[.string m.name,.slice pe ne ce,.slice pf nf cf] 47)) (fun _ iv _=>ne - (intOf iv).toNat)
        case atStart=>exact ⟨0,Nat.zero_le _,rfl,by show OwnP _ _ _ _;simpa using HO5.out,HB5,b5⟩
        case round =>
          obtain ⟨k,hk,rfl,ho,hb,bb⟩:=hrel
          clear HO5 HB5 b5
          have x0:=bb.out.cell 0 _ rfl
          have x1:=bb.out.cell 1 _ rfl
          have x2:=bb.out.cell 2 _ rfl
          by_cases hlk:k<ne
          · obtain ⟨r,hrk⟩:∃ r,m.exports[k]?=some r:=⟨m.exports[k]'(by rw [HN1.out];exact hlk),List.getElem?_eq_getElem _⟩
            obtain ⟨g6,o6,rfl,-,hgl6,hat6⟩:=HXE.out (by intro h;rw [h] at hrk;simp at hrk)
            obtain ⟨cs6,hcsl6,hcs6,rfl,hrs,hri⟩:=hat6 k r hrk
            have a0:=hcs6 0 (by omega)
            have a1:=hcs6 1 (by omega)
            rw [← hb.out.cell (p:=⟨g6,_,none⟩) hgl6] at a0 a1
            simp at a0 a1
            have hki6:(k:Int)<(ne:Int):=by omega
            have hk06:(0:Int)≤(k:Int):=by omega
            obtain ⟨HJ,HL⟩:=flat_takeG (exportP m) m.exports k r hrk
            have HJ6:Hid ((m.exports.take (k+1)).flatMap (exportP m)=(m.exports.take k).flatMap (exportP m) ++ exportP m r):=HJ
            have HL6:Hid ((A0 ++ (m.exports.take k).flatMap (exportP m)).length+(exportP m r).length≤1048576):=by
              have h1:=HLL.out
              show _≤_
              rw [List.length_append]
              omega
            have HEP:Hid (exportP m r=if hasF m r.name r.arity then [] else [⟨m.name,r.name,r.arity,cExport⟩]):=rfl
            obtain ⟨rs,rn⟩:=r
            simp only at *
            have HPB:Hid (HPb [.string m.name,.string rs,.int .i64 rn,.string ⟨#[101,120,112,111,114,116]⟩] ⟨m.name,rs,rn,cExport⟩):=⟨rfl,HMSN.out,hrs,hri,okS_export⟩
            obtain ⟨W6,hW6⟩:∃ W6,W6=wr.alloc (.cells #[.string rs,.int .i64 rn] 89):=⟨_,rfl⟩
            obtain ⟨br,hbr⟩:∃ br,br=wr.heap.size:=⟨_,rfl⟩
            have hbl:Below wr.heap.size wr W6:=by rw [hW6];exact (Below.refl _ _).alloc (Nat.le_refl _) _
            have br6:Hid (Blk W6 br #[.string rs,.int .i64 rn] 89):=by show Blk _ _ _ _;rw [hW6,hbr];exact Blk.new
            have bm6:Hid (Blk W6 bm #[.string m.name,.slice (some ⟨g6,o6,none⟩) ne ce,.slice pf nf cf] 47):=bb.out.next hbl
            have HB6:Hid (Below w.heap.size w W6):=hb.out.trans (hbl.mono hb.out.size)
            have HO6:Hid (OwnP W6 w.heap.size u3 (A0 ++ (m.exports.take k).flatMap (exportP m))):=ho.out.next hbl
            have HW6:Hid (W6=wr.alloc (.cells #[.string rs,.int .i64 rn] 89)):=hW6
            have HBR:Hid (wr.heap.size=br):=hbr.symm
            have y0:=bm6.out.cell 0 _ rfl
            have y1:=bm6.out.cell 1 _ rfl
            have y2:=bm6.out.cell 2 _ rfl
            rw [hW6] at y0 y1 y2
            generalize hJ0:A0 ++ (m.exports.take k).flatMap (exportP m)=J at *
            have HJ0:Hid (A0 ++ (m.exports.take k).flatMap (exportP m)=J):=hJ0
            clear hcs6 hcsl6 hat6 HJ HL hW6 hbr hbl hJ0 hrk hrs hri ho hb bb
            go_wp2_with fail
            rw [← HW6.out]
            clear y0 y1 y2 x0 x1 x2 a0 a1
            refine (l02FindI_any d _ _ m rs rn (HMM.out _ HB6.out)).mono ?_
            rintro e w7 ⟨rfl,hb7⟩
            have K7:Hid (Below W6.heap.size W6 w7):=hb7
            have br7:Hid (Blk w7 br #[.string rs,.int .i64 rn] 89):=br6.out.next hb7
            have bm7:Hid (Blk w7 bm #[.string m.name,.slice (some ⟨g6,o6,none⟩) ne ce,.slice pf nf cf] 47):=bm6.out.next hb7
            have HB7:Hid (Below w.heap.size w w7):=HB6.out.trans (hb7.mono HB6.out.size)
            have HO7:Hid (OwnP w7 w.heap.size u3 J):=HO6.out.next hb7
            clear hb7
            rw [HBR.out]
            have y0:=bm7.out.cell 0 _ rfl
            have r0:=br7.out.cell 0 _ rfl
            have r1:=br7.out.cell 1 _ rfl
            rcases findI_cases (sameR ⟨rs,rn⟩) m.funs with ⟨hf,hfi⟩ | ⟨q,z,hf,-,-,hfi,-⟩
            · rw [hfi]
              have HE2:Hid (exportP m ⟨rs,rn⟩ = [⟨m.name,rs,rn,cExport⟩]):=by show _=_;rw [HEP.out,show hasF m rs rn=false from hf];rfl
              clear hf hfi
              go_wp2_with (at_builtin;refine wpList_append_one rfl _ _ 59 rfl _ 56 Tryz.underlying59 info_pb rfl (by decide) HO7.out #[.string m.name,.string rs,.int .i64 rn,.string ⟨#[101,120,112,111,114,116]⟩] ⟨m.name,rs,rn,cExport⟩ HPB.out rfl (pb_oneCell _ _ HPB.out) rfl rfl (by have:=HL6.out;rw [HE2.out] at this;exact this) (by decide) ?_;intro v9 w9 ho9 hb9 hap9)
              have HO9:Hid (OwnP w9 w.heap.size v9 (A0 ++ (m.exports.take (k+1)).flatMap (exportP m))):=by show OwnP _ _ _ _;rw [HJ6.out,← List.append_assoc,HJ0.out,HE2.out];exact ho9
              have HB9:Hid (Below w.heap.size w w9):=HB7.out.trans hb9
              have b9:Hid (Blk w9 bm #[.string m.name,.slice (some ⟨g6,o6,none⟩) ne ce,.slice pf nf cf] 47):=hap9.blk bm7.out (by decide)
              clear ho9 hb9 hap9
              go_wp2_with fail
              exact ⟨⟨k+1,by omega,by go_num,HO9,HB9,b9⟩,by simp [intOf];omega⟩
            · rw [hfi]
              have HO9:Hid (OwnP w7 w.heap.size u3 (A0 ++ (m.exports.take (k+1)).flatMap (exportP m))):=by show OwnP _ _ _ _;rw [HJ6.out,← List.append_assoc,HJ0.out,HEP.out,show hasF m rs rn=true from hf];simpa using HO7.out
              have hq0:¬ (q:Int)<0:=by omega
              clear hf hfi
              go_wp2_with fail
              exact ⟨⟨k+1,by omega,by go_num,HO9,HB7,bm7⟩,by simp [intOf];omega⟩
          · have HO5:Hid (OwnP wr w.heap.size u3 (A0 ++ m.exports.flatMap (exportP m))):=by
              have:=ho.out
              rwa [show m.exports.take k=m.exports from List.take_of_length_le (by rw [HN1.out];omega)] at this
            have HLF:Hid ((A0 ++ m.exports.flatMap (exportP m)).length+(m.funs.flatMap (funP ms m d)).length≤1048576):=by
              have h1:=HLL.out
              show _≤_
              rw [List.length_append]
              omega
            have HJF:Hid ((ms.take (a+1)).flatMap (modP ms d)=(A0 ++ m.exports.flatMap (exportP m)) ++ m.funs.flatMap (funP ms m d)):=by show _=_;rw [HJJ.out,List.append_assoc]
            generalize A0 ++ m.exports.flatMap (exportP m)=A1 at *
            clear ho HJJ HLL HXE HN1
            go_wp2_with fail
            clear x0 x1 x2 hlk hk
            -- the functions
            go_loopw [3,8] (fun ov iv wx=>∃ k:Nat,k≤nf∧iv=.int .i64 k∧Hid (OwnP wx w.heap.size ov (A1 ++ (m.funs.take k).flatMap (funP ms m d)))∧Hid (Below w.heap.size w wx)∧Hid (Blk wx bm #[.string m.name,.slice pe ne ce,.slice pf nf cf] 47)) (fun _ iv _=>nf - (intOf iv).toNat)
            case atStart=>exact ⟨0,Nat.zero_le _,rfl,by show OwnP _ _ _ _;simpa using HO5.out,hb,bb⟩
            case round =>
              obtain ⟨k,hk,rfl,ho,hb,bb⟩:=hrel
              clear HO5
              have x0:=bb.out.cell 0 _ rfl
              have x1:=bb.out.cell 1 _ rfl
              have x2:=bb.out.cell 2 _ rfl
              by_cases hlk:k<nf
              · obtain ⟨f,hfk⟩:∃ f,m.funs[k]?=some f:=⟨m.funs[k]'(by rw [HN2.out];exact hlk),List.getElem?_eq_getElem _⟩
                obtain ⟨g6,o6,rfl,-,hgl6,hat6⟩:=HXF.out (by intro h;rw [h] at hfk;simp at hfk)
                obtain ⟨cs6,hcsl6,hcs6,hf⟩:=hat6 k f hfk
                have HFF:Hid (∀ w',Below w.heap.size w w'→HFn w' All d cs6 f):=fun w' hw=>hf.mono (SameOn.of_below hw) (fun _ h=>h)
                have HCELL:Hid (∀ w',Below w.heap.size w w'→∀ j,j<3→w'.cell? ⟨g6,o6+k * 3+j,none⟩=cs6[j]?):=fun w' hw j hj=>(hw.cell (p:=⟨g6,_,none⟩) hgl6).trans (hcs6 j hj)
                obtain ⟨fv6,rfl,hfs,hfi,p6,q6,rfl,-⟩:=hf
                have a0:=HCELL.out _ hb.out 0 (by omega)
                have a1:=HCELL.out _ hb.out 1 (by omega)
                have a2:=HCELL.out _ hb.out 2 (by omega)
                simp at a0 a1 a2
                have hki6:(k:Int)<(nf:Int):=by omega
                have hk06:(0:Int)≤(k:Int):=by omega
                obtain ⟨HJ,HL⟩:=flat_takeG (funP ms m d) m.funs k f hfk
                have HJ6:Hid (A1 ++ (m.funs.take (k+1)).flatMap (funP ms m d)=(A1 ++ (m.funs.take k).flatMap (funP ms m d)) ++ funP ms m d f):=by show _=_;rw [HJ,List.append_assoc]
                have HL6:Hid ((A1 ++ (m.funs.take k).flatMap (funP ms m d)).length+(funP ms m d f).length≤1048576):=by
                  have h1:=HLF.out
                  show _≤_
                  rw [List.length_append]
                  omega
                have HFP:Hid (funP ms m d f=(funC ms m d f).map fun c=>⟨m.name,f.name,f.arity,c⟩):=rfl
                have HPB:Hid (∀ c,c ∈ funC ms m d f→HPb [.string m.name,.string f.name,.int .i64 f.arity,.string c] ⟨m.name,f.name,f.arity,c⟩):=fun c hc=>⟨rfl,HMSN.out,hfs,hfi,funC_okS hc⟩
                have CF:Hid (∀ w',Below wr.heap.size wr w'→Calls Tryz.prog 53 #[.slice (some ⟨g,off,none⟩) n cap,.agg #[.string m.name,.slice pe ne ce,.slice (some ⟨g6,o6,none⟩) nf cf],.agg #[.string f.name,.int .i64 f.arity,.slice p6 f.clauses.length q6]] w' fun e w''=>∃ u,e=.returned u∧OwnS w'' w'.heap.size u (funC ms m d f)∧Below w'.heap.size w' w''):=fun w' hw'=>by
                  have hb9:Below w.heap.size w w':=hb.out.trans (hw'.mono hb.out.size)
                  exact l05Fun_any d w' _ ms _ m _ f (HMS.out w' hb9) (HMM.out w' hb9) (HFF.out w' hb9) (HWF.out k f hfk)
                generalize hJ0:A1 ++ (m.funs.take k).flatMap (funP ms m d)=J at *
                clear hcs6 hcsl6 hat6 HJ HL hJ0 hfs hfi
                go_wp2_with fail
                go_region_law
                  (first
                    | (go_simp;go_at_call 53;refine (CF.out _ (by exact (Below.refl _ _).drew)).mono ?_;rintro e w7 ⟨u7,rfl,o7,hb7⟩;have K7:Hid (Below wr.heap.size wr w7):=⟨hb7.os,hb7.tape,hb7.output,hb7.size,hb7.block⟩;have O7:Hid (w7.ownsRow 0 9 1 u7 (funC ms m d f).length (strs (funC ms m d f))):=owns_base o7.1;clear hb7 o7;dsimp only))
                all_goals
                  obtain ⟨p7,q7,rfl,hcm7⟩:=owns_slice O7.out
                  have hn7:(funC ms m d f).length≤9223372036854775807:=by unfold maxLen at hcm7;omega
                  generalize hC0:funC ms m d f=C at *
                  generalize hnC:C.length=nC at *
                  have HNC:Hid (C.length=nC):=hnC
                  have HO7:Hid (OwnP w7 w.heap.size u3 J):=ho.out.next K7.out
                  have HB7:Hid (Below w.heap.size w w7):=hb.out.trans (K7.out.mono hb.out.size)
                  have b7:Hid (Blk w7 bm #[.string m.name,.slice pe ne ce,.slice (some ⟨g6,o6,none⟩) nf cf] 47):=bb.out.next K7.out
                  clear x0 x1 x2 a0 a1 a2 ho hb bb K7 hC0 hnC CF hcm7
                  go_wp2_with fail
                  -- the codes
                  go_loopw [3,10] (fun ov iv wx=>∃ j:Nat,j≤nC∧iv=.int .i64 j∧Hid (OwnP wx w.heap.size ov (J ++ (C.take j).map fun c=>⟨m.name,f.name,f.arity,c⟩))∧Hid (Below w.heap.size w wx)∧Hid (Blk wx bm #[.string m.name,.slice pe ne ce,.slice (some ⟨g6,o6,none⟩) nf cf] 47)∧Hid (wx.ownsRow 0 9 1 (.slice p7 nC q7) nC (strs C))) (fun _ iv _=>nC - (intOf iv).toNat)
                  case atStart=>exact ⟨0,Nat.zero_le _,rfl,by show OwnP _ _ _ _;simpa using HO7.out,HB7,b7,O7⟩
                  case round =>
                    obtain ⟨j,hj,rfl,ho,hb,bb,oc⟩:=hrel
                    clear HO7 HB7 b7 O7
                    by_cases hlj:j<nC
                    · obtain ⟨c,hcj⟩:∃ c,C[j]?=some c:=⟨C[j]'(by rw [HNC.out];exact hlj),List.getElem?_eq_getElem _⟩
                      obtain ⟨g8,rfl⟩:=owns_some oc.out (by omega)
                      have a8':(strs C)[j]?=some (.string c):=by simp [strs,hcj]
                      have a8:=(oc.out.cellAt j (by omega)).trans a8'
                      have x0:=bb.out.cell 0 _ rfl
                      have x1:=bb.out.cell 1 _ rfl
                      have x2:=bb.out.cell 2 _ rfl
                      have a0:=HCELL.out _ hb.out 0 (by omega)
                      have a1:=HCELL.out _ hb.out 1 (by omega)
                      simp at a0 a1
                      have hji:(j:Int)<(nC:Int):=by omega
                      have hj0:(0:Int)≤(j:Int):=by omega
                      have HPC:=HPB.out c (List.mem_of_getElem? hcj)
                      have HPC2:Hid (HPb [.string m.name,.string f.name,.int .i64 f.arity,.string c] ⟨m.name,f.name,f.arity,c⟩):=HPC
                      have HJ9:Hid (J ++ ((C.take (j+1)).map fun c=>(⟨m.name,f.name,f.arity,c⟩:Pb))=(J ++ (C.take j).map fun c=>⟨m.name,f.name,f.arity,c⟩) ++ [⟨m.name,f.name,f.arity,c⟩]):=by
                        show _=_
                        rw [List.take_add_one,hcj];simp
                      have HL9:Hid ((J ++ ((C.take j).map fun c=>(⟨m.name,f.name,f.arity,c⟩:Pb))).length+1≤1048576):=by
                        have h1:=HL6.out
                        rw [HFP.out,List.length_map,HNC.out] at h1
                        show _≤_
                        rw [List.length_append,List.length_map,List.length_take]
                        omega
                      generalize (J ++ ((C.take j).map fun c=>(⟨m.name,f.name,f.arity,c⟩:Pb)))=J9 at *
                      clear HPC hcj
                      have HOA:Hid (OwnP (wr.alloc (.cells #[.string m.name,.string f.name,.int .i64 f.arity,.string c] 102)).drew w.heap.size u3 J9):=ho.out.next ((Below.refl _ _).alloc (Nat.le_refl _) _).drew
                      have HGA:Hid ((wr.alloc (.cells #[.string m.name,.string f.name,.int .i64 f.arity,.string c] 102)).drew.heap[wr.heap.size]?=some (Obj.cells #[.string m.name,.string f.name,.int .i64 f.arity,.string c] 102 (0,0))):=heap_alloc_new wr _
                      have HBA:Hid (Below w.heap.size w (wr.alloc (.cells #[.string m.name,.string f.name,.int .i64 f.arity,.string c] 102)).drew):=(hb.out.alloc hb.out.size _).drew
                      have HAA:Hid (ApartE 102 wr (wr.alloc (.cells #[.string m.name,.string f.name,.int .i64 f.arity,.string c] 102)).drew):=ApartE.of_below ((Below.refl _ _).alloc (Nat.le_refl _) _).drew
                      have NXT:Hid (∀ w9,Below w.heap.size (wr.alloc (.cells #[.string m.name,.string f.name,.int .i64 f.arity,.string c] 102)).drew w9→ApartE 102 (wr.alloc (.cells #[.string m.name,.string f.name,.int .i64 f.arity,.string c] 102)).drew w9→w9.cell? ⟨bm,0,none⟩=some (.string m.name)∧w9.cell? ⟨bm,2,none⟩=some (.slice (some ⟨g6,o6,none⟩) nf cf)∧w9.cell? ⟨g6,o6+k * 3,none⟩=some (.string f.name)∧w9.cell? ⟨g6,o6+k * 3+1,none⟩=some (.int .i64 f.arity)∧w9.cell? ⟨g8,j,none⟩=some (.string c)):=fun w9 hb9 hap9=>by
                        have q0:=(HAA.out.trans hap9).blk bb.out (by decide)
                        have q1:=HCELL.out w9 (HBA.out.trans hb9)
                        have q2:=(HAA.out.trans hap9).owns oc.out (by decide)
                        exact ⟨q0.cell 0 _ rfl,q0.cell 2 _ rfl,by simpa using q1 0 (by omega),by simpa using q1 1 (by omega),(q2.cellAt j (by omega)).trans a8'⟩
                      clear x1
                      go_wp2_with fail
                      go_region_held3 (fun w'=>w'.cell? ⟨bm,0,none⟩=some (.string m.name)∧w'.cell? ⟨bm,2,none⟩=some (.slice (some ⟨g6,o6,none⟩) nf cf)∧w'.cell? ⟨g6,o6+k * 3,none⟩=some (.string f.name)∧w'.cell? ⟨g6,o6+k * 3+1,none⟩=some (.int .i64 f.arity)∧w'.cell? ⟨g8,j,none⟩=some (.string c))
                        (first | go_keep | (go_split_ands;refine ⟨?_,?_,?_,?_,?_⟩ <;> exact cell_next ((Below.refl _ _).alloc (Nat.le_refl _) _) (by assumption)) | exact nx9)
                        (first
                          | (refine step_append_blk (by rfl) _ _ _ (by rfl) _ 56 Tryz.underlying59 info_pb rfl (by decide) HOA.out wr.heap.size #[.string m.name,.string f.name,.int .i64 f.arity,.string c] HGA.out ⟨m.name,f.name,f.arity,c⟩ HPC2.out rfl (pb_oneCell _ _ HPC2.out) (by rfl) (by rfl) HL9.out (by decide) ?_;intro v9 w9 ho9 hb9 hap9;have nx9:=NXT.out w9 hb9 hap9))
                      all_goals
                        have HO9:Hid (OwnP w9 w.heap.size v9 (J ++ (C.take (j+1)).map fun c=>⟨m.name,f.name,f.arity,c⟩)):=by show OwnP _ _ _ _;rw [HJ9.out];exact ho9
                        have HB9:Hid (Below w.heap.size w w9):=HBA.out.trans hb9
                        have b9:Hid (Blk w9 bm #[.string m.name,.slice pe ne ce,.slice (some ⟨g6,o6,none⟩) nf cf] 47):=(HAA.out.trans hap9).blk bb.out (by decide)
                        have oc9:Hid (w9.ownsRow 0 9 1 (.slice (some ⟨g8,0,none⟩) nC q7) nC (strs C)):=(HAA.out.trans hap9).owns oc.out (by decide)
                        clear ho9 hb9 hap9
                        go_wp2_with fail
                        exact ⟨⟨j+1,by omega,by go_num,HO9,HB9,b9,oc9⟩,by simp [intOf];omega⟩
                    · have HO9:Hid (OwnP wr w.heap.size u3 (A1 ++ (m.funs.take (k+1)).flatMap (funP ms m d))):=by
                        have h1:=ho.out
                        rw [show C.take j=C from List.take_of_length_le (by rw [HNC.out];omega)] at h1
                        show OwnP _ _ _ _
                        rw [HJ6.out,HFP.out]
                        exact h1
                      clear ho
                      go_wp2_with fail
                      exact ⟨⟨k+1,by omega,by go_num,HO9,hb,bb⟩,by simp [intOf];omega⟩
              · have HO9:Hid (OwnP wr w.heap.size u3 ((ms.take (a+1)).flatMap (modP ms d))):=by
                  have h1:=ho.out
                  rw [show m.funs.take k=m.funs from List.take_of_length_le (by rw [HN2.out];omega)] at h1
                  show OwnP _ _ _ _
                  rw [HJF.out]
                  exact h1
                clear ho
                go_wp2_with fail
                exact ⟨⟨a+1,by omega,by go_num,HO9,hb⟩,by simp [intOf];omega⟩
      · have HR:Hid (OwnP wr w.heap.size u3 (checkP d ms)):=by
          have h1:=ho.out
          rw [show ms.take a=ms from List.take_of_length_le (by rw [HN.out];omega)] at h1
          show OwnP _ _ _ _
          rw [HV2.out]
          exact h1
        clear ho
        go_wp2_with fail
        go_ret
        exact ⟨_,rfl,HR.out,hb.out⟩
end Go.Proofs.YtefpgpbbgclemaaGreatDoor
