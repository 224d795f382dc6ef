/-
  ModOkImplD ProgOkA
-/
import Derived.Test.YtbdhpganbbandaaGreatDoorP20
set_option maxHeartbeats 16000000
set_option linter.unusedVariables false
set_option maxRecDepth 100000
namespace Go.Proofs.YtbdhpganbbandaaGreatDoor
open Go.ChangeShapes Go.WideShapes Go.ChangeAt Go.RowKit
section
open Go.Proofs.Tryz
theorem exportsOk_any (w:World) (v:Value) (es:List Rf) (hT:Tabs w) (h:Rows w All 2 HRf v es) :
 Calls prog 138 #[v] w λe w'=>e=.returned (.bool (decide (es.length<=20) && rfsB es))/\Bz w w':=by
 have HT:=hid hT;obtain ⟨p,cap,rfl,hcl,hcm,hx⟩:=h;have hnb:=sqM hcl hcm;have hfn:rfsB es=(List.range es.length).all (rfsAt es):=rfl;rw [hfn];clear hfn;generalize hn:es.length=n at *;have HN:=hid hn;have HX:=hid hx;clear hx hn hT;by_cases h20:n<=20
 . have h21:¬ (20:Int)<(n:Int):=by omega
   rw [decide_eq_true h20];go_enter func138,ntmps138;go_wp2_with fail
   go_loopw [10] (λiv wr=>∃ k:Nat,k<=n/\iv=.int .i64 k/\Hid ((List.range k).all (rfsAt es)=true)/\Bz w wr) (λiv _=>n - (intOf iv).toNat)
   case atStart=>exact ⟨0,Nat.zero_le _,rfl,by show _=_;simp,Below.refl _ _⟩
   case round =>
    obtain ⟨k,hk,rfl,hall,hb⟩:=hrel;have HB:=hid hb;by_cases hlt:k<n
    . obtain ⟨x,hxk⟩:=sqA (l:=es) (k:=k) HN.out hlt
      obtain ⟨g,off,rfl,-,hgl,hat⟩:=HX.out (sqE hxk);obtain ⟨cs,hcsl,hcs,r1⟩:=hat k x hxk;obtain ⟨rfl,hxs,-⟩:=r1;have hgw:g<wr.heap.size:=Nat.lt_of_lt_of_le hgl hb.size;have HAT0:Hid (k=0->rfsAt es k=refB x):=λh=>rfsAt_zero h hxk
      have HATS:Hid (∀ j,k=j+1->∃ q:Rf,rfsAt es k=(refB x && lessB q x)/\okS q.name/\wr.cell? ⟨g,off+j * 2,none⟩=some (.string q.name)/\wr.cell? ⟨g,off+j * 2+1,none⟩=some (.int .i64 q.arity)):=λj hj=>by
       obtain ⟨q,hq⟩:∃ q,es[j]?=some q:=⟨es[j]'(by rw [HN.out];omega),List.getElem?_eq_getElem _⟩;obtain ⟨cs',_,hcs',rfl,hqs,_⟩:=hat j q hq;obtain ⟨b0,b1⟩:=sqC2 hcs' (by omega);rw [<-hb.cell (p:=⟨g,_,none⟩) hgl] at b0 b1;exact ⟨q,rfsAt_succ (by omega) (by rw [hj];exact hq) hxk,hqs,by simpa using b0,by simpa using b1⟩
      obtain ⟨a0,a1⟩:=sqC2 hcs (by omega);rw [<-hb.cell (p:=⟨g,_,none⟩) hgl] at a0 a1;simp at a0 a1;have hki:(k:Int)<(n:Int):=(by omega);have hk0:=sqI k;generalize hca:refB x=ca at *;have HCA:=hid hca;obtain ⟨xs,xn⟩:=x;simp only at *;obtain ⟨W5,hW5⟩:∃ W5,W5=wr.alloc (.cells #[.string xs,.int .i64 xn] 110):=⟨_,rfl⟩;have bF:Hid (Blk W5 wr.heap.size #[.string xs,.int .i64 xn] 110):=(by show Blk _ _ _ _;rw [hW5];exact Blk.new);have K5:Hid (Bz wr W5):=(by show Below _ _ _;rw [hW5];exact (sqN _ _));have B5:=hid (hb.trans (K5.out.mono hb.size));have HW5:=hid hW5;have hg5:g<W5.heap.size:=Nat.lt_of_lt_of_le hgw K5.out.size;obtain ⟨z0,z1⟩:=sqB2 bF.out;have l2:=bF.out.lt;have qz0:∀ m:Wd (λw'=>SameOn All W5 w'/\Bz w w'),m.val.cell? ⟨wr.heap.size,0,none⟩=some (.string xs):=λm=>(sqK (m.ok.1.2 wr.heap.size trivial l2)).trans z0;have qz1:∀ m:Wd (λw'=>SameOn All W5 w'/\Bz w w'),m.val.cell? ⟨wr.heap.size,1,none⟩=some (.int .i64 xn):=λm=>(sqK (m.ok.1.2 wr.heap.size trivial l2)).trans z1;clear hb hcs hat hcsl hW5 z0 z1 l2 hca
      cases ca with
      | false =>
       have HF:Hid ((List.range n).all (rfsAt es)=false):=rangeT_at _ n k hlt (by
        rcases Nat.eq_zero_or_pos k with h | h
        . exact HAT0.out h
        . obtain ⟨q,hq,_⟩:=HATS.out (k - 1) (by omega)
          rw [hq];rfl)
       clear HAT0 HATS;go_wp2_with fail;rw [<-HW5.out];have hCne:Nonempty (Wd (λw'=>SameOn All W5 w'/\Bz w w')):=⟨⟨W5.drew,⟨sqS,B5.out.drew⟩⟩⟩;refine wp_region_class (λw'=>SameOn All W5 w'/\Bz w w') (by kernel_rfl) (by kernel_rfl) ⟨sqS,B5.out.drew⟩ ?_
       repeat (go_big_quiet_step (first | (rename_i m;go_at_call 166;refine (refOk_any ⟨xs,xn⟩ _ hxs (HT.out.below m.ok.2).keys).mono ?_;rintro e w1 ⟨rfl,hb1⟩;exact ⟨by rw [HCA.out],⟨⟨w1,⟨(SameOn.trans m.ok.1 (sqO hb1)),m.ok.2.trans (hb1.mono m.ok.2.size)⟩⟩,rfl⟩⟩)))
       refine wpQuiet_nil ?_;rintro _ ⟨mq,rfl⟩;have HB4:=hid mq.ok.2;have HS4:=hid mq.ok.1;generalize mq.val=w4 at HB4 HS4 ⊢;go_wp2;go_ret;exact ⟨by rw [HF.out];rfl,HB4.out⟩
      | true =>
       rcases Nat.eq_zero_or_pos k with hz | hz
       . have HT':Hid ((List.range (k+1)).all (rfsAt es)=true):=rangeT_succ _ k hall.out (HAT0.out hz)
         have hz1:¬ (0:Int)<(k:Int):=(by omega);have hz3:¬ 0<k:=(by omega);have hz4:decide (0<k)=false:=decide_eq_false hz3;clear HAT0 HATS hz;go_wp2_with fail;rw [<-HW5.out];have hCne:Nonempty (Wd (λw'=>SameOn All W5 w'/\Bz w w')):=⟨⟨W5.drew,⟨sqS,B5.out.drew⟩⟩⟩;refine wp_region_class (λw'=>SameOn All W5 w'/\Bz w w') (by kernel_rfl) (by kernel_rfl) ⟨sqS,B5.out.drew⟩ ?_
         repeat (go_big_quiet_step (first | (rename_i m;go_at_call 166;refine (refOk_any ⟨xs,xn⟩ _ hxs (HT.out.below m.ok.2).keys).mono ?_;rintro e w1 ⟨rfl,hb1⟩;exact ⟨by rw [HCA.out],⟨⟨w1,⟨(SameOn.trans m.ok.1 (sqO hb1)),m.ok.2.trans (hb1.mono m.ok.2.size)⟩⟩,rfl⟩⟩)))
         refine wpQuiet_nil ?_;rintro _ ⟨mq,rfl⟩;have HB4:=hid mq.ok.2;have HS4:=hid mq.ok.1;generalize mq.val=w4 at HB4 HS4 ⊢;go_wp2_with fail;exact ⟨⟨k+1,by omega,by go_num,HT'.out,HB4.out⟩,by simp [intOf];omega⟩
       . obtain ⟨j,rfl⟩:∃ j,k=j+1:=⟨k - 1,by omega⟩
         obtain ⟨q,hat,hqs,y0,y1⟩:=HATS.out j rfl;have HAT:=hid hat;obtain ⟨qs,qn⟩:=q;simp only at *;have qy0:∀ m:Wd (λw'=>SameOn All W5 w'/\Bz w w'),m.val.cell? ⟨g,off+j * 2,none⟩=some (.string qs):=λm=>(sqK (m.ok.1.2 g trivial hg5)).trans (cell_next K5.out y0);have qy1:∀ m:Wd (λw'=>SameOn All W5 w'/\Bz w w'),m.val.cell? ⟨g,off+j * 2+1,none⟩=some (.int .i64 qn):=λm=>(sqK (m.ok.1.2 g trivial hg5)).trans (cell_next K5.out y1);have hji:(j:Int)<(n:Int):=(by omega);have hj0:=sqI j;have hj1:(0:Int)<(j:Int)+1:=(by omega);generalize hz9:cmpRf ⟨qs,qn⟩ ⟨xs,xn⟩=z;have HZ:=hid hz9;have HL:Hid (lessB ⟨qs,qn⟩ ⟨xs,xn⟩=decide (z<0)):=(by show _=_;unfold lessB;rw [hz9]);clear HAT0 HATS hat hz y0 y1 hz9;by_cases hzl:z<0
         . have HT':Hid ((List.range (j+1+1)).all (rfsAt es)=true):=rangeT_succ _ (j+1) hall.out (by rw [HAT.out,HL.out,decide_eq_true hzl];rfl)
           have hzl2:¬ 0<=z:=(by omega);go_wp2_with fail;rw [<-HW5.out];have hCne:Nonempty (Wd (λw'=>SameOn All W5 w'/\Bz w w')):=⟨⟨W5.drew,⟨sqS,B5.out.drew⟩⟩⟩;refine wp_region_class (λw'=>SameOn All W5 w'/\Bz w w') (by kernel_rfl) (by kernel_rfl) ⟨sqS,B5.out.drew⟩ ?_
           repeat (go_big_quiet_step (first | (rename_i m;go_at_call 166;refine (refOk_any ⟨xs,xn⟩ _ hxs (HT.out.below m.ok.2).keys).mono ?_;rintro e w1 ⟨rfl,hb1⟩;exact ⟨by rw [HCA.out],⟨⟨w1,⟨(SameOn.trans m.ok.1 (sqO hb1)),m.ok.2.trans (hb1.mono m.ok.2.size)⟩⟩,rfl⟩⟩) | (rename_i m;go_at_call 167;refine (compareRef_any ⟨qs,qn⟩ ⟨xs,xn⟩ _).mono ?_;rintro e w1 ⟨rfl,hb1⟩;exact ⟨by rw [HZ.out],⟨⟨w1,⟨(SameOn.trans m.ok.1 (sqO hb1)),m.ok.2.trans (hb1.mono m.ok.2.size)⟩⟩,rfl⟩⟩)))
           refine wpQuiet_nil ?_;rintro _ ⟨mq,rfl⟩;have HB4:=hid mq.ok.2;have HS4:=hid mq.ok.1;generalize mq.val=w4 at HB4 HS4 ⊢;go_wp2_with fail;exact ⟨⟨j+1+1,by omega,by go_num,HT'.out,HB4.out⟩,by simp [intOf];omega⟩
         . have HF:Hid ((List.range n).all (rfsAt es)=false):=rangeT_at _ n (j+1) hlt (by rw [HAT.out,HL.out,decide_eq_false hzl];rfl)
           have hzl2:0<=z:=(by omega);go_wp2_with fail;rw [<-HW5.out];have hCne:Nonempty (Wd (λw'=>SameOn All W5 w'/\Bz w w')):=⟨⟨W5.drew,⟨sqS,B5.out.drew⟩⟩⟩;refine wp_region_class (λw'=>SameOn All W5 w'/\Bz w w') (by kernel_rfl) (by kernel_rfl) ⟨sqS,B5.out.drew⟩ ?_
           repeat (go_big_quiet_step (first | (rename_i m;go_at_call 166;refine (refOk_any ⟨xs,xn⟩ _ hxs (HT.out.below m.ok.2).keys).mono ?_;rintro e w1 ⟨rfl,hb1⟩;exact ⟨by rw [HCA.out],⟨⟨w1,⟨(SameOn.trans m.ok.1 (sqO hb1)),m.ok.2.trans (hb1.mono m.ok.2.size)⟩⟩,rfl⟩⟩) | (rename_i m;go_at_call 167;refine (compareRef_any ⟨qs,qn⟩ ⟨xs,xn⟩ _).mono ?_;rintro e w1 ⟨rfl,hb1⟩;exact ⟨by rw [HZ.out],⟨⟨w1,⟨(SameOn.trans m.ok.1 (sqO hb1)),m.ok.2.trans (hb1.mono m.ok.2.size)⟩⟩,rfl⟩⟩)))
           refine wpQuiet_nil ?_;rintro _ ⟨mq,rfl⟩;have HB4:=hid mq.ok.2;have HS4:=hid mq.ok.1;generalize mq.val=w4 at HB4 HS4 ⊢;go_wp2;go_ret;exact ⟨by rw [HF.out];rfl,HB4.out⟩
    . have HD:Hid ((List.range n).all (rfsAt es)=true):=by
       obtain rfl:k=n:=(by omega);exact hall.out
      clear hb;go_wp2;go_ret;exact ⟨by rw [HD.out];rfl,HB.out⟩
 . have h21:(20:Int)<(n:Int):=by omega
   rw [decide_eq_false h20];go_enter func138,ntmps138;go_wp2;go_ret;exact ⟨by simp,Below.refl _ _⟩
theorem implModuleOk_any (d:Nat) (w:World) (cs:List Value) (m:Md) (hT:Tabs w) (h:HMd w All d cs m) :
 Calls prog 111 #[.agg cs.toArray] w λe w'=>e=.returned (.bool (mdOk d m))/\Bz w w':=by
 have HT:=hid hT;obtain ⟨ev,fv,rfl,hs,f0,f1⟩:=h;obtain ⟨ms,es,fs⟩:=m;simp only at *;have BL:Hid (∀ (cs:Array Value) (t:TypeId),Bz w (w.alloc (.cells cs t))):=λcs t=>(sqN _ _);have F0:∀ w',Bz w w'->Rows w' All 2 HRf ev es:=λw' hw=>f0.mono (sqO hw) sqj (λ_ _ _ h=>h);have F1:∀ w',Bz w w'->Rows w' All 3 (HFn w' All d) fv fs:=λw' hw=>f1.mono (sqO hw) sqj (λ_ _ _ h=>h.mono (sqO hw) sqj);obtain ⟨p,cap,rfl,-,-,-⟩:=f0;obtain ⟨q,cap',rfl,-,-,-⟩:=f1;have hv:mdOk d ⟨ms,es,fs⟩=(atomB ms && ((decide (es.length<=20) && rfsB es) && (inB fs.length 1 30 && fnsB d fs))):=rfl;rw [hv];clear hv hT
 cases ha:atomB ms with
 | false =>
  go_enter func111,ntmps111;go_wp2_with (first | (go_at_call 137;go_must (refine (implAtomOk_any _ _ hs (HT.out.below (BL.out _ _)).keys).mono ?_;rintro e w9 ⟨rfl,rfl⟩;rw [ha])));go_ret;exact ⟨by simp,BL.out _ _⟩
 | true =>
  cases he:(decide (es.length<=20) && rfsB es) with
  | false =>
   go_enter func111,ntmps111;go_wp2_with (first | (go_at_call 137;go_must (refine (implAtomOk_any _ _ hs (HT.out.below (BL.out _ _)).keys).mono ?_;rintro e w9 ⟨rfl,rfl⟩;rw [ha])));refine (exportsOk_any _ _ es (HT.out.below (BL.out _ _)) (F0 _ (BL.out _ _))).mono ?_;rintro e w2 ⟨rfl,hb2⟩;rw [he];have B2:Hid (Bz w w2):=(BL.out _ _).trans (hb2.mono (BL.out _ _).size);clear hb2;go_wp2;go_ret;exact ⟨by simp,B2.out⟩
  | true =>
   go_enter func111,ntmps111;go_wp2_with (first | (go_at_call 137;go_must (refine (implAtomOk_any _ _ hs (HT.out.below (BL.out _ _)).keys).mono ?_;rintro e w9 ⟨rfl,rfl⟩;rw [ha])));refine (exportsOk_any _ _ es (HT.out.below (BL.out _ _)) (F0 _ (BL.out _ _))).mono ?_;rintro e w2 ⟨rfl,hb2⟩;rw [he];have B2:Hid (Bz w w2):=(BL.out _ _).trans (hb2.mono (BL.out _ _).size);have hbk:=(Blk.new (w:=w) (cs:=#[.string ms,.slice p es.length cap,.slice q fs.length cap']) (t:=61)).next hb2;have a2:=hbk.cell 2 _ rfl;clear hb2 hbk;go_wp2_with fail;refine (funsOk_any d _ _ fs (HT.out.below B2.out) (F1 _ B2.out)).mono ?_;rintro e w3 ⟨rfl,hb3⟩;have B3:=hid (B2.out.trans (hb3.mono B2.out.size));clear hb3;go_wp2;go_ret;exact ⟨by simp,B3.out⟩
def mdsAt (d:Nat) (ms:List Md) (k:Nat):Bool :=
 match ms[k]? with
 | none=>true
 | some m=>mdOk d m && (match k with
  | 0=>true
  | j+1=>match ms[j]? with
   | none=>true
   | some q=>Op.bytesLess q.name.toList m.name.toList)
def pgOk (d:Nat) (ms:List Md):Bool:=decide (ms.length<=10) && (List.range ms.length).all (mdsAt d ms)
theorem mdsAt_zero {d:Nat} {ms:List Md} {k:Nat} {r:Md} (hk:k=0) (h:ms[k]?=some r):mdsAt d ms k=mdOk d r:=by
 subst hk;simp [mdsAt,h]
theorem mdsAt_succ {d:Nat} {ms:List Md} {j:Nat} {q r:Md} (hq:ms[j]?=some q) (hr:ms[j+1]?=some r):mdsAt d ms (j+1)=(mdOk d r && Op.bytesLess q.name.toList r.name.toList):=by
 simp [mdsAt,hr,hq]
theorem mdsAt_bad {d:Nat} {ms:List Md} {k:Nat} {r:Md} (hr:ms[k]?=some r) (h:mdOk d r=false):mdsAt d ms k=false:=by
 simp [mdsAt,hr,h]
theorem less_flip:∀ {a b:List UInt8},Op.bytesLess a b=false->a≠b->Op.bytesLess b a=true
 | [],[],_,h=>absurd rfl h
 | _ :: _,[],_,_=>rfl
 | [],_ :: _,h,_=>by simp [Op.bytesLess] at h
 | x :: a,y :: b,h,hne=>by
  simp only [Op.bytesLess,Bool.or_eq_false_iff,decide_eq_false_iff_not,Bool.and_eq_false_iff,beq_eq_false_iff_ne] at h;simp only [Op.bytesLess,Bool.or_eq_true,decide_eq_true_eq,Bool.and_eq_true,beq_iff_eq];by_cases hxy:x=y
  . subst hxy
    rcases h.2 with h2 | h2
    . exact absurd rfl h2
    . exact Or.inr ⟨rfl,less_flip h2 (λe=>hne (by rw [e]))⟩
  . left
    rw [UInt8.lt_iff_toNat_lt] at h ⊢;have:x.toNat≠y.toNat:=λe=>hxy (UInt8.toNat_inj.1 e);omega
theorem less_asym:∀ {a b:List UInt8},Op.bytesLess a b=true->Op.bytesLess b a=false
 | [],[],h=>by simp [Op.bytesLess] at h
 | _ :: _,[],h=>by simp [Op.bytesLess] at h
 | [],_ :: _,_=>rfl
 | x :: a,y :: b,h=>by
  simp only [Op.bytesLess,Bool.or_eq_true,decide_eq_true_eq,Bool.and_eq_true,beq_iff_eq] at h;simp only [Op.bytesLess,Bool.or_eq_false_iff,decide_eq_false_iff_not,Bool.and_eq_false_iff,beq_eq_false_iff_ne];rw [UInt8.lt_iff_toNat_lt] at h ⊢
  rcases h with h | ⟨rfl,h⟩
  . exact ⟨by omega,Or.inl (λe=>by rw [e] at h;omega)⟩
  . exact ⟨by omega,Or.inr (less_asym h)⟩
theorem specProgramOk_any (d:Nat) (w:World) (v:Value) (ms:List Md) (h:Rows w All 3 (HMd w All d) v ms) :
 Calls prog 41 #[v] w λe w'=>e=.returned (.bool (pgOk d ms))/\Bz w w':=by
 obtain ⟨p,cap,rfl,hcl,hcm,hx⟩:=h;have hv:pgOk d ms=(decide (ms.length<=10) && (List.range ms.length).all (mdsAt d ms)):=rfl;rw [hv];clear hv;generalize hn:ms.length=n at *;have HN:=hid hn;have HX:=hid hx;have hnb:=sqM hcl hcm;clear hx hn;go_enter func41,ntmps41;go_wp2
 go_loopw [3] (λiv wr=>∃ k:Nat,k<=n/\iv=.int .i64 k/\Hid ((List.range k).all (mdsAt d ms)=true)/\Bz w wr) (λiv _=>n - (intOf iv).toNat)
 case atStart=>exact ⟨0,Nat.zero_le _,rfl,by show _=_;simp,Below.refl _ _⟩
 case round =>
  obtain ⟨k,hk,rfl,hall,hb⟩:=hrel;have HB:=hid hb;by_cases hlt:k<n
  . obtain ⟨x,hxk⟩:=sqA (l:=ms) (k:=k) HN.out hlt
    obtain ⟨g,off,rfl,-,hgl,hat⟩:=HX.out (sqE hxk);obtain ⟨cs,hcsl,hcs,hmd⟩:=hat k x hxk;have hgw:g<wr.heap.size:=Nat.lt_of_lt_of_le hgl hb.size
    have HATS:Hid (∀ j,k=j+1->∃ q:Md,ms[j]?=some q/\wr.cell? ⟨g,off+j * 3,none⟩=some (.string q.name)):=λj hj=>by
     obtain ⟨q,hq⟩:∃ q,ms[j]?=some q:=⟨ms[j]'(by rw [HN.out];omega),List.getElem?_eq_getElem _⟩;obtain ⟨cs',_,hcs',ev,fv,rfl,_⟩:=hat j q hq;have b0:=hcs' 0 (by omega);rw [<-hb.cell (p:=⟨g,_,none⟩) hgl] at b0;exact ⟨q,hq,by simpa using b0⟩
    have HMD:Hid (∀ w',Bz w w'->HMd w' All d cs x):=λw' hw=>hmd.mono (sqO hw) sqj;obtain ⟨ev,fv,rfl,hxs,f0,f1⟩:=hmd;obtain ⟨pe,ce,rfl,-⟩:=f0;obtain ⟨pf,cf,rfl,-⟩:=f1;obtain ⟨a0,a1,a2⟩:=sqC3 hcs (by omega);rw [<-hb.cell (p:=⟨g,_,none⟩) hgl] at a0 a1 a2;simp at a0 a1 a2;have hki:(k:Int)<(n:Int):=(by omega);have hk0:=sqI k;generalize hca:mdOk d x=ca at *;have HCA:=hid hca;have HXK:=hid hxk;have qa0:∀ m:Wd (λw'=>SameOn All wr w'/\Bz w w'),m.val.cell? ⟨g,off+k * 3,none⟩=some (.string x.name):=λm=>(sqK (m.ok.1.2 g trivial hgw)).trans a0;have qa1:∀ m:Wd (λw'=>SameOn All wr w'/\Bz w w'),m.val.cell? ⟨g,off+k * 3+1,none⟩=some (.slice pe x.exports.length ce):=λm=>(sqK (m.ok.1.2 g trivial hgw)).trans a1;have qa2:∀ m:Wd (λw'=>SameOn All wr w'/\Bz w w'),m.val.cell? ⟨g,off+k * 3+2,none⟩=some (.slice pf x.funs.length cf):=λm=>(sqK (m.ok.1.2 g trivial hgw)).trans a2;clear hb hcs hat hcsl hca a0 a1 a2 hxk
    cases ca with
    | false =>
     have HF:Hid ((List.range n).all (mdsAt d ms)=false):=rangeT_at _ n k hlt (mdsAt_bad HXK.out HCA.out);clear HATS;go_wp2_with fail;have hCne:Nonempty (Wd (λw'=>SameOn All wr w'/\Bz w w')):=⟨⟨wr.drew,⟨sqS,HB.out.drew⟩⟩⟩;refine wp_region_class (λw'=>SameOn All wr w'/\Bz w w') (by kernel_rfl) (by kernel_rfl) ⟨sqS,HB.out.drew⟩ ?_
     repeat (go_big_quiet_step (first | (rename_i m;go_at_call 72;refine (specModuleOk_any d _ _ x (HMD.out _ m.ok.2)).mono ?_;rintro e w1 ⟨rfl,hb1⟩;exact ⟨by rw [HCA.out],⟨⟨w1,⟨m.ok.1.trans (sqO hb1),m.ok.2.trans (hb1.mono m.ok.2.size)⟩⟩,rfl⟩⟩)))
     refine wpQuiet_nil ?_;rintro _ ⟨mq,rfl⟩;have HB4:=hid mq.ok.2;have HS4:=hid mq.ok.1;generalize mq.val=w4 at HB4 HS4 ⊢;go_wp2;go_ret;exact ⟨by rw [HF.out];simp,HB4.out⟩
    | true =>
     rcases Nat.eq_zero_or_pos k with hz | hz
     . have HT':Hid ((List.range (k+1)).all (mdsAt d ms)=true):=rangeT_succ _ k hall.out (by rw [mdsAt_zero hz HXK.out];exact HCA.out)
       have hz1:¬ (0:Int)<(k:Int):=(by omega);have hz3:¬ 0<k:=(by omega);have hz4:decide (0<k)=false:=decide_eq_false hz3;clear HATS hz;go_wp2_with fail;have hCne:Nonempty (Wd (λw'=>SameOn All wr w'/\Bz w w')):=⟨⟨wr.drew,⟨sqS,HB.out.drew⟩⟩⟩;refine wp_region_class (λw'=>SameOn All wr w'/\Bz w w') (by kernel_rfl) (by kernel_rfl) ⟨sqS,HB.out.drew⟩ ?_
       repeat (go_big_quiet_step (first | (rename_i m;go_at_call 72;refine (specModuleOk_any d _ _ x (HMD.out _ m.ok.2)).mono ?_;rintro e w1 ⟨rfl,hb1⟩;exact ⟨by rw [HCA.out],⟨⟨w1,⟨m.ok.1.trans (sqO hb1),m.ok.2.trans (hb1.mono m.ok.2.size)⟩⟩,rfl⟩⟩)))
       refine wpQuiet_nil ?_;rintro _ ⟨mq,rfl⟩;have HB4:=hid mq.ok.2;have HS4:=hid mq.ok.1;generalize mq.val=w4 at HB4 HS4 ⊢;go_wp2_with fail;exact ⟨⟨k+1,by omega,by go_num,HT'.out,HB4.out⟩,by simp [intOf];omega⟩
     . obtain ⟨j,rfl⟩:∃ j,k=j+1:=⟨k - 1,by omega⟩
       obtain ⟨q,hqj,y0⟩:=HATS.out j rfl;have HAT:Hid (mdsAt d ms (j+1)=(true && Op.bytesLess q.name.toList x.name.toList)):=(by show _=_;rw [mdsAt_succ hqj HXK.out,HCA.out]);have qy0:∀ m:Wd (λw'=>SameOn All wr w'/\Bz w w'),m.val.cell? ⟨g,off+j * 3,none⟩=some (.string q.name):=λm=>(sqK (m.ok.1.2 g trivial hgw)).trans y0;have hji:(j:Int)<(n:Int):=(by omega);have hj0:=sqI j;have hj1:(0:Int)<(j:Int)+1:=(by omega);clear HATS hqj hz y0
       cases hlq:Op.bytesLess x.name.toList q.name.toList with
       | true =>
        have HF:Hid ((List.range n).all (mdsAt d ms)=false):=rangeT_at _ n (j+1) hlt (by rw [HAT.out,less_asym hlq];rfl);go_wp2_with fail;have hCne:Nonempty (Wd (λw'=>SameOn All wr w'/\Bz w w')):=⟨⟨wr.drew,⟨sqS,HB.out.drew⟩⟩⟩;refine wp_region_class (λw'=>SameOn All wr w'/\Bz w w') (by kernel_rfl) (by kernel_rfl) ⟨sqS,HB.out.drew⟩ ?_
        repeat (go_big_quiet_step (first | (rename_i m;go_at_call 72;refine (specModuleOk_any d _ _ x (HMD.out _ m.ok.2)).mono ?_;rintro e w1 ⟨rfl,hb1⟩;exact ⟨by rw [HCA.out],⟨⟨w1,⟨m.ok.1.trans (sqO hb1),m.ok.2.trans (hb1.mono m.ok.2.size)⟩⟩,rfl⟩⟩)))
        refine wpQuiet_nil ?_;rintro _ ⟨mq,rfl⟩;have HB4:=hid mq.ok.2;have HS4:=hid mq.ok.1;generalize mq.val=w4 at HB4 HS4 ⊢;go_wp2;go_ret;exact ⟨by rw [HF.out];simp,HB4.out⟩
       | false =>
        by_cases he:x.name=q.name
        . have HF:Hid ((List.range n).all (mdsAt d ms)=false):=rangeT_at _ n (j+1) hlt (by rw [HAT.out,he,bytesLess_self];rfl)
          rw [<-he] at qy0 hlq;clear he;go_wp2_with fail;have hCne:Nonempty (Wd (λw'=>SameOn All wr w'/\Bz w w')):=⟨⟨wr.drew,⟨sqS,HB.out.drew⟩⟩⟩;refine wp_region_class (λw'=>SameOn All wr w'/\Bz w w') (by kernel_rfl) (by kernel_rfl) ⟨sqS,HB.out.drew⟩ ?_
          repeat (go_big_quiet_step (first | (rename_i m;go_at_call 72;refine (specModuleOk_any d _ _ x (HMD.out _ m.ok.2)).mono ?_;rintro e w1 ⟨rfl,hb1⟩;exact ⟨by rw [HCA.out],⟨⟨w1,⟨m.ok.1.trans (sqO hb1),m.ok.2.trans (hb1.mono m.ok.2.size)⟩⟩,rfl⟩⟩)))
          refine wpQuiet_nil ?_;rintro _ ⟨mq,rfl⟩;have HB4:=hid mq.ok.2;have HS4:=hid mq.ok.1;generalize mq.val=w4 at HB4 HS4 ⊢;go_wp2;go_ret;exact ⟨by rw [HF.out];simp,HB4.out⟩
        . have hq1:=str_ne he
          have hq2:=str_neB he;have HT':=hid (rangeT_succ _ (j+1) hall.out (by rw [HAT.out,less_flip hlq hq1];rfl));go_wp2_with fail;have hCne:Nonempty (Wd (λw'=>SameOn All wr w'/\Bz w w')):=⟨⟨wr.drew,⟨sqS,HB.out.drew⟩⟩⟩;refine wp_region_class (λw'=>SameOn All wr w'/\Bz w w') (by kernel_rfl) (by kernel_rfl) ⟨sqS,HB.out.drew⟩ ?_
          repeat (go_big_quiet_step (first | (rename_i m;go_at_call 72;refine (specModuleOk_any d _ _ x (HMD.out _ m.ok.2)).mono ?_;rintro e w1 ⟨rfl,hb1⟩;exact ⟨by rw [HCA.out],⟨⟨w1,⟨m.ok.1.trans (sqO hb1),m.ok.2.trans (hb1.mono m.ok.2.size)⟩⟩,rfl⟩⟩)))
          refine wpQuiet_nil ?_;rintro _ ⟨mq,rfl⟩;have HB4:=hid mq.ok.2;have HS4:=hid mq.ok.1;generalize mq.val=w4 at HB4 HS4 ⊢;go_wp2_with fail;exact ⟨⟨j+1+1,by omega,by go_num,HT'.out,HB4.out⟩,by simp [intOf];omega⟩
  . have HT:Hid ((List.range n).all (mdsAt d ms)=true):=by
     have:=hall.out
     rwa [show k=n by omega] at this
    clear hall;go_wp2;go_ret;exact ⟨by rw [HT.out];simp;omega,HB.out⟩
theorem implProgramOk_any (d:Nat) (w:World) (v:Value) (ms:List Md) (hT:Tabs w) (h:Rows w All 3 (HMd w All d) v ms) :
 Calls prog 79 #[v] w λe w'=>e=.returned (.bool (pgOk d ms))/\Bz w w':=by
 have HTAB:=hid hT;clear hT;obtain ⟨p,cap,rfl,hcl,hcm,hx⟩:=h;have hv:pgOk d ms=(decide (ms.length<=10) && (List.range ms.length).all (mdsAt d ms)):=rfl;rw [hv];clear hv;generalize hn:ms.length=n at *;have HN:=hid hn;have HX:=hid hx;have hnb:=sqM hcl hcm;clear hx hn;by_cases h10:¬ n<=10
 . have h11:(10:Int)<(n:Int):=by omega
   rw [decide_eq_false h10];go_enter func79,ntmps79;go_wp2;go_ret;exact ⟨rfl,Below.refl _ _⟩
 replace h10:n<=10:=by omega
 have h11:¬ (10:Int)<(n:Int):=(by omega);rw [decide_eq_true h10];go_enter func79,ntmps79;go_wp2
 go_loopw [10] (λiv wr=>∃ k:Nat,k<=n/\iv=.int .i64 k/\Hid ((List.range k).all (mdsAt d ms)=true)/\Bz w wr) (λiv _=>n - (intOf iv).toNat)
 case atStart=>exact ⟨0,Nat.zero_le _,rfl,by show _=_;simp,Below.refl _ _⟩
 case round =>
  obtain ⟨k,hk,rfl,hall,hb⟩:=hrel;have HB:=hid hb;by_cases hlt:k<n
  . obtain ⟨x,hxk⟩:=sqA (l:=ms) (k:=k) HN.out hlt
    obtain ⟨g,off,rfl,-,hgl,hat⟩:=HX.out (sqE hxk);obtain ⟨cs,hcsl,hcs,hmd⟩:=hat k x hxk;have hgw:g<wr.heap.size:=Nat.lt_of_lt_of_le hgl hb.size
    have HATS:Hid (∀ j,k=j+1->∃ q:Md,ms[j]?=some q/\wr.cell? ⟨g,off+j * 3,none⟩=some (.string q.name)):=λj hj=>by
     obtain ⟨q,hq⟩:∃ q,ms[j]?=some q:=⟨ms[j]'(by rw [HN.out];omega),List.getElem?_eq_getElem _⟩;obtain ⟨cs',_,hcs',ev,fv,rfl,_⟩:=hat j q hq;have b0:=hcs' 0 (by omega);rw [<-hb.cell (p:=⟨g,_,none⟩) hgl] at b0;exact ⟨q,hq,by simpa using b0⟩
    have HMD:Hid (∀ w',Bz w w'->HMd w' All d cs x):=λw' hw=>hmd.mono (sqO hw) sqj;obtain ⟨ev,fv,rfl,hxs,f0,f1⟩:=hmd;obtain ⟨pe,ce,rfl,-⟩:=f0;obtain ⟨pf,cf,rfl,-⟩:=f1;obtain ⟨a0,a1,a2⟩:=sqC3 hcs (by omega);rw [<-hb.cell (p:=⟨g,_,none⟩) hgl] at a0 a1 a2;simp at a0 a1 a2;have hki:(k:Int)<(n:Int):=(by omega);have hk0:=sqI k;generalize hca:mdOk d x=ca at *;have HCA:=hid hca;have HXK:=hid hxk;obtain ⟨W5,hW5⟩:∃ W5,W5=wr.alloc (.cells #[.string x.name,.slice pe x.exports.length ce,.slice pf x.funs.length cf] 61):=⟨_,rfl⟩;have bF:Hid (Blk W5 wr.heap.size #[.string x.name,.slice pe x.exports.length ce,.slice pf x.funs.length cf] 61):=(by show Blk _ _ _ _;rw [hW5];exact Blk.new);have K5:Hid (Bz wr W5):=(by show Below _ _ _;rw [hW5];exact (sqN _ _));have B5:=hid (hb.trans (K5.out.mono hb.size));have HW5:=hid hW5;have hg5:g<W5.heap.size:=Nat.lt_of_lt_of_le hgw K5.out.size;obtain ⟨z0,z1,z2⟩:=sqB3 bF.out;have l2:=bF.out.lt;have qz0:∀ m:Wd (λw'=>SameOn All W5 w'/\Bz w w'),m.val.cell? ⟨wr.heap.size,0,none⟩=some (.string x.name):=λm=>(sqK (m.ok.1.2 wr.heap.size trivial l2)).trans z0;have qz1:∀ m:Wd (λw'=>SameOn All W5 w'/\Bz w w'),m.val.cell? ⟨wr.heap.size,1,none⟩=some (.slice pe x.exports.length ce):=λm=>(sqK (m.ok.1.2 wr.heap.size trivial l2)).trans z1;have qz2:∀ m:Wd (λw'=>SameOn All W5 w'/\Bz w w'),m.val.cell? ⟨wr.heap.size,2,none⟩=some (.slice pf x.funs.length cf):=λm=>(sqK (m.ok.1.2 wr.heap.size trivial l2)).trans z2;clear hb hcs hat hcsl hca hxk hW5 z0 z1 z2 l2
    cases ca with
    | false =>
     have HF:Hid ((List.range n).all (mdsAt d ms)=false):=rangeT_at _ n k hlt (mdsAt_bad HXK.out HCA.out);clear HATS;go_wp2_with fail;rw [<-HW5.out];have hCne:Nonempty (Wd (λw'=>SameOn All W5 w'/\Bz w w')):=⟨⟨W5.drew,⟨sqS,B5.out.drew⟩⟩⟩;refine wp_region_class (λw'=>SameOn All W5 w'/\Bz w w') (by kernel_rfl) (by kernel_rfl) ⟨sqS,B5.out.drew⟩ ?_
     repeat (go_big_quiet_step (first | (rename_i m;go_at_call 111;refine (implModuleOk_any d _ _ x (HTAB.out.below m.ok.2) (HMD.out _ m.ok.2)).mono ?_;rintro e w1 ⟨rfl,hb1⟩;exact ⟨by rw [HCA.out],⟨⟨w1,⟨m.ok.1.trans (sqO hb1),m.ok.2.trans (hb1.mono m.ok.2.size)⟩⟩,rfl⟩⟩)))
     refine wpQuiet_nil ?_;rintro _ ⟨mq,rfl⟩;have HB4:=hid mq.ok.2;have HS4:=hid mq.ok.1;generalize mq.val=w4 at HB4 HS4 ⊢;go_wp2;go_ret;exact ⟨by rw [HF.out];simp,HB4.out⟩
    | true =>
     rcases Nat.eq_zero_or_pos k with hz | hz
     . have HT':Hid ((List.range (k+1)).all (mdsAt d ms)=true):=rangeT_succ _ k hall.out (by rw [mdsAt_zero hz HXK.out];exact HCA.out)
       have hz1:¬ (0:Int)<(k:Int):=(by omega);have hz3:¬ 0<k:=(by omega);have hz4:decide (0<k)=false:=decide_eq_false hz3;clear HATS hz;go_wp2_with fail;rw [<-HW5.out];have hCne:Nonempty (Wd (λw'=>SameOn All W5 w'/\Bz w w')):=⟨⟨W5.drew,⟨sqS,B5.out.drew⟩⟩⟩;refine wp_region_class (λw'=>SameOn All W5 w'/\Bz w w') (by kernel_rfl) (by kernel_rfl) ⟨sqS,B5.out.drew⟩ ?_
       repeat (go_big_quiet_step (first | (rename_i m;go_at_call 111;refine (implModuleOk_any d _ _ x (HTAB.out.below m.ok.2) (HMD.out _ m.ok.2)).mono ?_;rintro e w1 ⟨rfl,hb1⟩;exact ⟨by rw [HCA.out],⟨⟨w1,⟨m.ok.1.trans (sqO hb1),m.ok.2.trans (hb1.mono m.ok.2.size)⟩⟩,rfl⟩⟩)))
       refine wpQuiet_nil ?_;rintro _ ⟨mq,rfl⟩;have HB4:=hid mq.ok.2;have HS4:=hid mq.ok.1;generalize mq.val=w4 at HB4 HS4 ⊢;go_wp2_with fail;exact ⟨⟨k+1,by omega,by go_num,HT'.out,HB4.out⟩,by simp [intOf];omega⟩
     . obtain ⟨j,rfl⟩:∃ j,k=j+1:=⟨k - 1,by omega⟩
       obtain ⟨q,hqj,y0⟩:=HATS.out j rfl;have HAT:Hid (mdsAt d ms (j+1)=(true && Op.bytesLess q.name.toList x.name.toList)):=(by show _=_;rw [mdsAt_succ hqj HXK.out,HCA.out]);have qy0:∀ m:Wd (λw'=>SameOn All W5 w'/\Bz w w'),m.val.cell? ⟨g,off+j * 3,none⟩=some (.string q.name):=λm=>(sqK (m.ok.1.2 g trivial hg5)).trans (cell_next K5.out y0);have hji:(j:Int)<(n:Int):=(by omega);have hj0:=sqI j;have hj1:(0:Int)<(j:Int)+1:=(by omega);clear HATS hqj hz y0
       cases hlq:Op.bytesLess q.name.toList x.name.toList with
       | false =>
        have HF:Hid ((List.range n).all (mdsAt d ms)=false):=rangeT_at _ n (j+1) hlt (by rw [HAT.out,hlq];rfl);go_wp2_with fail;rw [<-HW5.out];have hCne:Nonempty (Wd (λw'=>SameOn All W5 w'/\Bz w w')):=⟨⟨W5.drew,⟨sqS,B5.out.drew⟩⟩⟩;refine wp_region_class (λw'=>SameOn All W5 w'/\Bz w w') (by kernel_rfl) (by kernel_rfl) ⟨sqS,B5.out.drew⟩ ?_
        repeat (go_big_quiet_step (first | (rename_i m;go_at_call 111;refine (implModuleOk_any d _ _ x (HTAB.out.below m.ok.2) (HMD.out _ m.ok.2)).mono ?_;rintro e w1 ⟨rfl,hb1⟩;exact ⟨by rw [HCA.out],⟨⟨w1,⟨m.ok.1.trans (sqO hb1),m.ok.2.trans (hb1.mono m.ok.2.size)⟩⟩,rfl⟩⟩)))
        refine wpQuiet_nil ?_;rintro _ ⟨mq,rfl⟩;have HB4:=hid mq.ok.2;have HS4:=hid mq.ok.1;generalize mq.val=w4 at HB4 HS4 ⊢;go_wp2;go_ret;exact ⟨by rw [HF.out];simp,HB4.out⟩
       | true =>
        have HT':=hid (rangeT_succ _ (j+1) hall.out (by rw [HAT.out,hlq];rfl));go_wp2_with fail;rw [<-HW5.out];have hCne:Nonempty (Wd (λw'=>SameOn All W5 w'/\Bz w w')):=⟨⟨W5.drew,⟨sqS,B5.out.drew⟩⟩⟩;refine wp_region_class (λw'=>SameOn All W5 w'/\Bz w w') (by kernel_rfl) (by kernel_rfl) ⟨sqS,B5.out.drew⟩ ?_
        repeat (go_big_quiet_step (first | (rename_i m;go_at_call 111;refine (implModuleOk_any d _ _ x (HTAB.out.below m.ok.2) (HMD.out _ m.ok.2)).mono ?_;rintro e w1 ⟨rfl,hb1⟩;exact ⟨by rw [HCA.out],⟨⟨w1,⟨m.ok.1.trans (sqO hb1),m.ok.2.trans (hb1.mono m.ok.2.size)⟩⟩,rfl⟩⟩)))
        refine wpQuiet_nil ?_;rintro _ ⟨mq,rfl⟩;have HB4:=hid mq.ok.2;have HS4:=hid mq.ok.1;generalize mq.val=w4 at HB4 HS4 ⊢;go_wp2_with fail;exact ⟨⟨j+1+1,by omega,by go_num,HT'.out,HB4.out⟩,by simp [intOf];omega⟩
  . have HT:Hid ((List.range n).all (mdsAt d ms)=true):=by
     have:=hall.out
     rwa [show k=n by omega] at this
    clear hall;go_wp2;go_ret;exact ⟨by rw [HT.out];simp,HB.out⟩
end
end Go.Proofs.YtbdhpganbbandaaGreatDoor
